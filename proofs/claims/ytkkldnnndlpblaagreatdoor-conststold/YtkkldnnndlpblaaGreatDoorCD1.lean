/- The document's numbers with an error in units: what is reckoned with them. -/
import Derived.Test.YtkkldnnndlpblaaGreatDoorCD0
import Derived.Test.YtkkldnnndlpblaaGreatDoorCF5
import Derived.Test.YtkkldnnndlpblaaGreatDoorCK4
namespace Go.Proofs.YtkkldnnndlpblaaGreatDoor
open Go.RowKit Ck

section
variable {a a' : Option Addr} {len cap len' cap' x y : Nat} {w : World}
theorem own_fit {B : Nat} {w : World} {ao : Option Addr} {cv r : Nat} (h : Own B w ao cv (wordsOf r)) (g : greatB r = false) : (wordsOf r).length ≤ 1024 ∧ OwnW B w ao (wordsOf r).length cv (wordsOf r) := ⟨(great_len r).1 g, h.ownW (words_U _) rfl⟩
theorem dOf_eq {z : Int} (r : Nat) (h0 : z = (r : Int)) (h1 : r ≤ 18446744073709551615) :
    Calls Tryz.prog 49 #[.int .u64 z] w fun e w' => ∃ (ao : Option Addr) (n c : Nat), e = .returned (.slice ao n c) ∧ n ≤ 1024 ∧ OwnW w.heap.size w' ao n c (wordsOf r) ∧ Below w.heap.size w w' := by
  subst h0
  refine (nOf_calls (r : Int) w (by omega) (by omega)).mono ?_
  rintro e w' ⟨ao, cv, rfl, hO, hb⟩
  rw [Int.toNat_natCast] at hO ⊢
  obtain ⟨h1, h2⟩ := own_fit hO (cf_great (k := 64) (by omega) (by decide))
  exact ⟨ao, _, cv, rfl, h1, h2, hb⟩
theorem dAdd_eq (h : IsW w a len cap (wordsOf x)) (h' : IsW w a' len' cap' (wordsOf y)) (hm : len ≤ 1024) (hm' : len' ≤ 1024) (g : greatB (x + y) = false) :
    Calls Tryz.prog 98 #[.slice a len cap, .slice a' len' cap'] w fun e w' => ∃ (ao : Option Addr) (n c : Nat), e = .returned (.slice ao n c) ∧ n ≤ 1024 ∧ OwnW w.heap.size w' ao n c (wordsOf (x + y)) ∧ Below w.heap.size w w' := by
  refine (nAdd_calls a a' len cap len' cap' _ _ w h h' (by omega) (by omega)).mono ?_
  rintro e w' ⟨ao, cv, rfl, hO, hb⟩
  rw [val_words, val_words] at hO ⊢
  obtain ⟨h1, h2⟩ := own_fit hO g
  exact ⟨ao, _, cv, rfl, h1, h2, hb⟩
theorem dSub_eq (h : IsW w a len cap (wordsOf x)) (h' : IsW w a' len' cap' (wordsOf y)) (hm : len ≤ 1024) (hm' : len' ≤ 1024) (g : greatB x = false) (hle : y ≤ x) :
    Calls Tryz.prog 110 #[.slice a len cap, .slice a' len' cap'] w fun e w' => ∃ (ao : Option Addr) (n c : Nat), e = .returned (.slice ao n c) ∧ n ≤ 1024 ∧ OwnW w.heap.size w' ao n c (wordsOf (x - y)) ∧ Below w.heap.size w w' := by
  refine (nSub_calls a a' len cap len' cap' _ _ w h h' (by omega) (by omega) (by rw [val_words, val_words]; exact hle)).mono ?_
  rintro e w' ⟨ao, cv, rfl, hO, hb⟩
  rw [val_words, val_words] at hO ⊢
  obtain ⟨h1, h2⟩ := own_fit hO (great_mono (Nat.sub_le _ _) g)
  exact ⟨ao, _, cv, rfl, h1, h2, hb⟩
theorem dMul_eq (h : IsW w a len cap (wordsOf x)) (h' : IsW w a' len' cap' (wordsOf y)) (hm : len ≤ 1024) (hm' : len' ≤ 1024) (g : greatB (x * y) = false) :
    Calls Tryz.prog 50 #[.slice a len cap, .slice a' len' cap'] w fun e w' => ∃ (ao : Option Addr) (n c : Nat), e = .returned (.slice ao n c) ∧ n ≤ 1024 ∧ OwnW w.heap.size w' ao n c (wordsOf (x * y)) ∧ Below w.heap.size w w' := by
  refine (nMul_calls a a' len cap len' cap' _ _ w h h' (by omega) (by omega) (by rw [val_words, val_words, ← h.1, ← h'.1]; omega)).mono ?_
  rintro e w' ⟨ao, cv, rfl, hO, hb⟩
  rw [val_words, val_words] at hO ⊢
  obtain ⟨h1, h2⟩ := own_fit hO g
  exact ⟨ao, _, cv, rfl, h1, h2, hb⟩
theorem dShl_eq {m : Nat} (h : IsW w a len cap (wordsOf x)) (hm : len ≤ 1024) (hmm : m ≤ 65536) (g : greatB (x * 2 ^ m) = false) :
    Calls Tryz.prog 109 #[.slice a len cap, .int .i64 (m : Int)] w fun e w' => ∃ (ao : Option Addr) (n c : Nat), e = .returned (.slice ao n c) ∧ n ≤ 1024 ∧ OwnW w.heap.size w' ao n c (wordsOf (x * 2 ^ m)) ∧ Below w.heap.size w w' := by
  refine (nShl_calls a len cap m _ w h (by omega) (by omega)).mono ?_
  rintro e w' ⟨ao, cv, rfl, hO, hb⟩
  rw [val_words] at hO ⊢
  obtain ⟨h1, h2⟩ := own_fit hO g
  exact ⟨ao, _, cv, rfl, h1, h2, hb⟩
theorem dDiv_eq (h : IsW w a len cap (wordsOf x)) (h' : IsW w a' len' cap' (wordsOf y)) (hm : len ≤ 1024) (hm' : len' ≤ 1024) (g : greatB x = false) (hy : y ≠ 0) :
    Calls Tryz.prog 116 #[.slice a len cap, .slice a' len' cap'] w fun e w' => ∃ (a1 : Option Addr) (n1 c1 : Nat) (a2 : Option Addr) (n2 c2 : Nat), e = .returned (.tuple #[.slice a1 n1 c1, .slice a2 n2 c2]) ∧ n1 ≤ 1024 ∧ OwnW w.heap.size w' a1 n1 c1 (wordsOf (x / y)) ∧ n2 = (wordsOf (x % y)).length ∧ OwnW w.heap.size w' a2 n2 c2 (wordsOf (x % y)) ∧ Below w.heap.size w w' := by
  refine (nDiv_calls a a' len cap len' cap' _ _ w h h' (by omega) (by omega) (by rw [val_words]; exact (great_not x).1 g) (by rw [val_words]; exact hy)).mono ?_
  rintro e w' ⟨v, v', rfl, h1, h2, hb⟩
  rw [val_words, val_words] at h1 h2
  obtain ⟨a1, n1, c1, rfl, _, hn1, hO1⟩ := h1.open ((great_len _).1 (great_mono (Nat.div_le_self _ _) g))
  obtain ⟨a2, n2, c2, rfl, e2, hO2⟩ := h2
  exact ⟨a1, n1, c1, a2, n2, c2, rfl, hn1, hO1, e2, hO2, hb⟩
set_option maxHeartbeats 1000000 in
theorem dShort_eq {d : Nat} (hd0 : 0 < d) (hd1 : d < 65536) (h : IsW w a len cap (wordsOf x)) (hm : len ≤ 1024) (g : greatB x = false) :
    Calls Tryz.prog 146 #[.slice a len cap, .int .u64 (d : Int)] w fun e w' => ∃ (ao : Option Addr) (n c : Nat), e = .returned (.slice ao n c) ∧ n ≤ 1024 ∧ OwnW w.heap.size w' ao n c (wordsOf (x / d)) ∧ Below w.heap.size w w' := by
  have SC : Hid _ := dShort_calls d hd0 hd1 a len cap _ w h (by omega)
  rw [val_words] at SC
  have hl : (wordsOf (x / d)).length ≤ 1024 := (great_len _).1 (great_mono (Nat.div_le_self _ _) g)
  have HL : Hid _ := hl
  clear h hl
  go_enter Tryz.func146, Tryz.ntmps146
  go_wp2_with fail
  refine Calls.mono SC.out ?_
  rintro e w1 ⟨ao, n, c, rfl, hn, hO, hb⟩
  have HN : Hid _ := hn
  clear hn
  go_wp2_with fail
  go_ret
  exact ⟨ao, n, c, rfl, by rw [HN.out]; exact HL.out, hO, hb⟩
end
def FixV (a : Option Addr) (n c : Nat) (e : Nat) : Value := .agg #[.slice a n c, .int .u64 (e : Int)]
theorem ks_two (S : Nat → Prop) (w : World) (b : Nat) (hb : S b) (v0 v1 : Value) : Ks S w ((w.setCell ⟨b, 0, none⟩ v0).setCell ⟨b, 1, none⟩ v1) := (ks_set v0 hb).trans (ks_set v1 hb)

set_option maxRecDepth 100000 in
set_option maxHeartbeats 4000000 in
theorem fxAdd (a : Option Addr) (n c X ex : Nat) (a' : Option Addr) (n' c' Y ey : Nat) (w : World) (hX : IsW w a n c (wordsOf X)) (hn : n ≤ 1024) (hY : IsW w a' n' c' (wordsOf Y)) (hn' : n' ≤ 1024) (g : greatB (X + Y) = false) (he : ex + ey < 4294967296) :
    Calls Tryz.prog 114 #[FixV a n c ex, FixV a' n' c' ey] w fun r w' => ∃ (ao : Option Addr) (m d : Nat), r = .returned (FixV ao m d (ex + ey)) ∧ m ≤ 1024 ∧ OwnW w.heap.size w' ao m d (wordsOf (X + Y)) ∧ Below w.heap.size w w' := by
  have hE : IntKind.u64.wrap ((ex : Int) + (ey : Int)) = ((ex + ey : Nat) : Int) := by rw [IntKind.wrap_u64]; omega
  have bA := below_trans (below_trans (below_alloc w (.cells #[.slice a n c, .int .u64 (ex : Int)] 74)) (below_alloc (w.alloc (.cells #[.slice a n c, .int .u64 (ex : Int)] 74)) (.cells #[.slice a' n' c', .int .u64 (ey : Int)] 74))) (below_alloc ((w.alloc (.cells #[.slice a n c, .int .u64 (ex : Int)] 74)).alloc (.cells #[.slice a' n' c', .int .u64 (ey : Int)] 74)) (.cells #[.slice none 0 0, .int .u64 0] 74))
  have hX1 := hX.keepB bA
  have hY1 := hY.keepB bA
  have FA : Hid (∀ W : World, W = ((w.alloc (.cells #[.slice a n c, .int .u64 (ex : Int)] 74)).alloc (.cells #[.slice a' n' c', .int .u64 (ey : Int)] 74)).alloc (.cells #[.slice none 0 0, .int .u64 0] 74) → W.cell? ⟨w.heap.size, 0, none⟩ = some (.slice a n c) ∧ W.cell? ⟨w.heap.size, 1, none⟩ = some (.int .u64 (ex : Int)) ∧ W.cell? ⟨w.heap.size + 1, 0, none⟩ = some (.slice a' n' c') ∧ W.cell? ⟨w.heap.size + 1, 1, none⟩ = some (.int .u64 (ey : Int)) ∧ (W.cell? ⟨w.heap.size + 2, 0, none⟩ = some (.slice none 0 0) ∧ W.frozen? ⟨w.heap.size + 2, 0, none⟩ = false) ∧ (W.cell? ⟨w.heap.size + 2, 1, none⟩ = some (.int .u64 0) ∧ W.frozen? ⟨w.heap.size + 2, 1, none⟩ = false)) := fun W hW => by
    subst hW
    exact ⟨by go_simp, by go_simp, by go_simp, by go_simp, ⟨by go_simp, by go_simp⟩, ⟨by go_simp, by go_simp⟩⟩
  obtain ⟨q0, q1, p0, p1, ⟨z0, f0⟩, ⟨z1, f1⟩⟩ := FA.out _ rfl
  clear FA hX hY
  unfold FixV
  go_enter Tryz.func114, Tryz.ntmps114
  go_wp2_with fail
  generalize ((w.alloc (.cells #[.slice a n c, .int .u64 (ex : Int)] 74)).alloc (.cells #[.slice a' n' c', .int .u64 (ey : Int)] 74)).alloc (.cells #[.slice none 0 0, .int .u64 0] 74) = v at *
  have hz : w.heap.size + 2 < v.heap.size := World.block_lt_of_cell? _ _ z0
  generalize hB : w.heap.size = B at *
  generalize hR : B + 2 = R at *
  have kS : Ks (fun k => k = R) v v.drew := Ks.of_below ((Below.refl _ _).drew)
  have bD : Below v.heap.size v v.drew := (Below.refl _ _).drew
  refine wp_region_held (S := fun w' => Ks (fun k => k = R) v w') (by kernel_rfl) ?_
  change wpAnyH _ _ _ _ _ _ _ _ (World.drew v)
  generalize World.drew v = wd0 at kS bD ⊢
  refine wpAnyH_take (i := 0) (v := .pointer (some ⟨B, 0, none⟩)) rfl (by kernel_rfl) (by kernel_rfl) (by kernel_rfl) (fun _ _ _ h => h) (Or.inl ⟨by rfl, ?y0⟩) kS ?r0
  case y0 =>
    intro ww hS
    clear hS
    go_simp
    try first | (with_reducible rfl) | rfl
  try simp only [Act.put, List.setIfInBounds_toArray]
  refine wpAnyH_take (i := 1) (v := .slice a n c) rfl (by kernel_rfl) (by kernel_rfl) (by kernel_rfl) (fun _ _ _ h => h) (Or.inl ⟨by rfl, ?y1⟩) kS ?r1
  case y1 =>
    intro ww hS
    have q := hS.cell q0 (by show ¬ B = R; omega)
    clear hS
    go_simp
    try first | (with_reducible rfl) | rfl
  try simp only [Act.put]
  refine wpAnyH_take (i := 2) (v := .pointer (some ⟨B + 1, 0, none⟩)) rfl (by kernel_rfl) (by kernel_rfl) (by kernel_rfl) (fun _ _ _ h => h) (Or.inl ⟨by rfl, ?y2⟩) kS ?r2
  case y2 =>
    intro ww hS
    clear hS
    go_simp
    try first | (with_reducible rfl) | rfl
  try simp only [Act.put]
  refine wpAnyH_take (i := 3) (v := .slice a' n' c') rfl (by kernel_rfl) (by kernel_rfl) (by kernel_rfl) (fun _ _ _ h => h) (Or.inl ⟨by rfl, ?y3⟩) kS ?r3
  case y3 =>
    intro ww hS
    have q := hS.cell p0 (by show ¬ B + 1 = R; omega)
    clear hS
    go_simp
    try first | (with_reducible rfl) | rfl
  try simp only [Act.put]
  refine wpAnyH_take (i := 5) (v := .pointer (some ⟨B, 1, none⟩)) rfl (by kernel_rfl) (by kernel_rfl) (by kernel_rfl) (fun _ _ _ h => h) (Or.inl ⟨by rfl, ?y5⟩) kS ?r5
  case y5 =>
    intro ww hS
    clear hS
    go_simp
    try first | (with_reducible rfl) | rfl
  try simp only [Act.put]
  refine wpAnyH_take (i := 6) (v := .int .u64 (ex : Int)) rfl (by kernel_rfl) (by kernel_rfl) (by kernel_rfl) (fun _ _ _ h => h) (Or.inl ⟨by rfl, ?y6⟩) kS ?r6
  case y6 =>
    intro ww hS
    have q := hS.cell q1 (by show ¬ B = R; omega)
    clear hS
    go_simp
    try first | (with_reducible rfl) | rfl
  try simp only [Act.put]
  refine wpAnyH_take (i := 7) (v := .pointer (some ⟨B + 1, 1, none⟩)) rfl (by kernel_rfl) (by kernel_rfl) (by kernel_rfl) (fun _ _ _ h => h) (Or.inl ⟨by rfl, ?y7⟩) kS ?r7
  case y7 =>
    intro ww hS
    clear hS
    go_simp
    try first | (with_reducible rfl) | rfl
  try simp only [Act.put]
  refine wpAnyH_take (i := 8) (v := .int .u64 (ey : Int)) rfl (by kernel_rfl) (by kernel_rfl) (by kernel_rfl) (fun _ _ _ h => h) (Or.inl ⟨by rfl, ?y8⟩) kS ?r8
  case y8 =>
    intro ww hS
    have q := hS.cell p1 (by show ¬ B + 1 = R; omega)
    clear hS
    go_simp
    try first | (with_reducible rfl) | rfl
  try simp only [Act.put]
  refine wpAnyH_take (i := 9) (v := .int .u64 ((ex + ey : Nat) : Int)) rfl (by kernel_rfl) (by kernel_rfl) (by kernel_rfl) (fun _ _ _ h => h) (Or.inl ⟨by rfl, ?y9⟩) kS ?r9
  case y9 =>
    intro ww hS
    clear hS
    go_simp
    try first | (with_reducible rfl) | rfl
  try simp only [Act.put]
  refine wpAnyH_ready (rs := [4]) (by kernel_rfl) (by simp) ?_
  refine AllReadyH.cons rfl (fun K hK => ?_) AllReadyH.nil
  go_simp
  refine Calls.mono (dAdd_eq (hX1.keepB bD) (hY1.keepB bD) hn hn' g) ?_
  rintro r v4 ⟨ao, m, d, rfl, hm, hO, bN⟩
  have z4 := bD.size
  replace bD := below_trans bD bN
  refine hK.out _ _ (Ks.of_below bD) (fun _ => ?_)
  clear hK K
  try simp only [Act.put, List.setIfInBounds_toArray, List.set_cons_zero, List.set_cons_succ]
  clear bN
  refine wpAnyH_take (i := 10) (v := .agg #[.slice ao m d, .int .u64 ((ex + ey : Nat) : Int)]) rfl (by kernel_rfl) (by kernel_rfl) (by kernel_rfl) (fun _ _ _ h => h) (Or.inl ⟨by rfl, ?y10⟩) (Ks.of_below bD) ?r10
  case y10 =>
    intro ww hS
    clear hS
    go_simp
    try first | (with_reducible rfl) | rfl
  try simp only [Act.put, List.setIfInBounds_toArray]
  replace f0 := fKeep bD z0 f0
  replace f1 := fKeep bD z1 f1
  replace z0 := cKeep bD z0
  replace z1 := cKeep bD z1
  have KF := ks_two (fun k => k = R) v4 R rfl (.slice ao m d) (.int .u64 ((ex + ey : Nat) : Int))
  refine wpAnyH_ready (rs := [11]) (by kernel_rfl) (by simp) ?_
  refine AllReadyH.cons rfl (fun K hK => ?_) AllReadyH.nil
  go_simp
  refine hK.out _ _ ((Ks.of_below (S := fun k => k = R) bD).trans KF) (fun _ => ?_)
  clear hK K
  try simp only [Act.put, List.setIfInBounds_toArray, List.set_cons_zero, List.set_cons_succ]
  refine wpAnyH_done (by kernel_rfl) ?_ _
  go_wp2_with fail
  subst hB hR
  refine bodyPost_ret (v := FixV ao m d (ex + ey)) (by simp [results, Tryz.results114, go_sem, FixV, z0, z1]) rfl ⟨ao, m, d, rfl, hm, ?_, ?_⟩
  · exact (hO.keepS (hO.nw.noS (by rintro b rfl; omega)) KF).low (by omega)
  · exact (bA.trans (bD.mono (by omega))).trans (KF.below w.heap.size (by have := bD.size; omega) (fun b e => by omega))

set_option maxRecDepth 100000 in
set_option maxHeartbeats 4000000 in
theorem fxSub (a : Option Addr) (n c X ex : Nat) (a' : Option Addr) (n' c' Y ey : Nat) (w : World) (hX : IsW w a n c (wordsOf X)) (hn : n ≤ 1024) (hY : IsW w a' n' c' (wordsOf Y)) (hn' : n' ≤ 1024) (g : greatB X = false) (hl : Y + ey ≤ X) (he : ex + ey < 4294967296) :
    Calls Tryz.prog 111 #[FixV a n c ex, FixV a' n' c' ey] w fun r w' => ∃ (ao : Option Addr) (m d : Nat), r = .returned (FixV ao m d (ex + ey)) ∧ m ≤ 1024 ∧ OwnW w.heap.size w' ao m d (wordsOf (X - (Y + ey))) ∧ Below w.heap.size w w' := by
  have hE : IntKind.u64.wrap ((ex : Int) + (ey : Int)) = ((ex + ey : Nat) : Int) := by rw [IntKind.wrap_u64]; omega
  have g2 : greatB (Y + ey) = false := great_mono hl g
  have bA := below_trans (below_trans (below_alloc w (.cells #[.slice a n c, .int .u64 (ex : Int)] 74)) (below_alloc (w.alloc (.cells #[.slice a n c, .int .u64 (ex : Int)] 74)) (.cells #[.slice a' n' c', .int .u64 (ey : Int)] 74))) (below_alloc ((w.alloc (.cells #[.slice a n c, .int .u64 (ex : Int)] 74)).alloc (.cells #[.slice a' n' c', .int .u64 (ey : Int)] 74)) (.cells #[.slice none 0 0, .int .u64 0] 74))
  have hX1 := hX.keepB bA
  have hY1 := hY.keepB bA
  have FA : Hid (∀ W : World, W = ((w.alloc (.cells #[.slice a n c, .int .u64 (ex : Int)] 74)).alloc (.cells #[.slice a' n' c', .int .u64 (ey : Int)] 74)).alloc (.cells #[.slice none 0 0, .int .u64 0] 74) → W.cell? ⟨w.heap.size, 0, none⟩ = some (.slice a n c) ∧ W.cell? ⟨w.heap.size, 1, none⟩ = some (.int .u64 (ex : Int)) ∧ W.cell? ⟨w.heap.size + 1, 0, none⟩ = some (.slice a' n' c') ∧ W.cell? ⟨w.heap.size + 1, 1, none⟩ = some (.int .u64 (ey : Int)) ∧ (W.cell? ⟨w.heap.size + 2, 0, none⟩ = some (.slice none 0 0) ∧ W.frozen? ⟨w.heap.size + 2, 0, none⟩ = false) ∧ (W.cell? ⟨w.heap.size + 2, 1, none⟩ = some (.int .u64 0) ∧ W.frozen? ⟨w.heap.size + 2, 1, none⟩ = false)) := fun W hW => by
    subst hW
    exact ⟨by go_simp, by go_simp, by go_simp, by go_simp, ⟨by go_simp, by go_simp⟩, ⟨by go_simp, by go_simp⟩⟩
  obtain ⟨q0, q1, p0, p1, ⟨z0, f0⟩, ⟨z1, f1⟩⟩ := FA.out _ rfl
  clear FA hX hY
  unfold FixV
  go_enter Tryz.func111, Tryz.ntmps111
  go_wp2_with fail
  generalize ((w.alloc (.cells #[.slice a n c, .int .u64 (ex : Int)] 74)).alloc (.cells #[.slice a' n' c', .int .u64 (ey : Int)] 74)).alloc (.cells #[.slice none 0 0, .int .u64 0] 74) = v at *
  have hz : w.heap.size + 2 < v.heap.size := World.block_lt_of_cell? _ _ z0
  generalize hB : w.heap.size = B at *
  generalize hR : B + 2 = R at *
  have kS : Ks (fun k => k = R) v v.drew := Ks.of_below ((Below.refl _ _).drew)
  have bD : Below v.heap.size v v.drew := (Below.refl _ _).drew
  refine wp_region_held (S := fun w' => Ks (fun k => k = R) v w') (by kernel_rfl) ?_
  change wpAnyH _ _ _ _ _ _ _ _ (World.drew v)
  generalize World.drew v = wd0 at kS bD ⊢
  refine wpAnyH_take (i := 0) (v := .pointer (some ⟨B, 0, none⟩)) rfl (by kernel_rfl) (by kernel_rfl) (by kernel_rfl) (fun _ _ _ h => h) (Or.inl ⟨by rfl, ?y0⟩) kS ?r0
  case y0 =>
    intro ww hS
    clear hS
    go_simp
    try first | (with_reducible rfl) | rfl
  try simp only [Act.put, List.setIfInBounds_toArray]
  refine wpAnyH_take (i := 1) (v := .slice a n c) rfl (by kernel_rfl) (by kernel_rfl) (by kernel_rfl) (fun _ _ _ h => h) (Or.inl ⟨by rfl, ?y1⟩) kS ?r1
  case y1 =>
    intro ww hS
    have q := hS.cell q0 (by show ¬ B = R; omega)
    clear hS
    go_simp
    try first | (with_reducible rfl) | rfl
  try simp only [Act.put]
  refine wpAnyH_take (i := 2) (v := .pointer (some ⟨B + 1, 0, none⟩)) rfl (by kernel_rfl) (by kernel_rfl) (by kernel_rfl) (fun _ _ _ h => h) (Or.inl ⟨by rfl, ?y2⟩) kS ?r2
  case y2 =>
    intro ww hS
    clear hS
    go_simp
    try first | (with_reducible rfl) | rfl
  try simp only [Act.put]
  refine wpAnyH_take (i := 3) (v := .slice a' n' c') rfl (by kernel_rfl) (by kernel_rfl) (by kernel_rfl) (fun _ _ _ h => h) (Or.inl ⟨by rfl, ?y3⟩) kS ?r3
  case y3 =>
    intro ww hS
    have q := hS.cell p0 (by show ¬ B + 1 = R; omega)
    clear hS
    go_simp
    try first | (with_reducible rfl) | rfl
  try simp only [Act.put]
  refine wpAnyH_take (i := 4) (v := .pointer (some ⟨B + 1, 1, none⟩)) rfl (by kernel_rfl) (by kernel_rfl) (by kernel_rfl) (fun _ _ _ h => h) (Or.inl ⟨by rfl, ?y4⟩) kS ?r4
  case y4 =>
    intro ww hS
    clear hS
    go_simp
    try first | (with_reducible rfl) | rfl
  try simp only [Act.put]
  refine wpAnyH_take (i := 5) (v := .int .u64 (ey : Int)) rfl (by kernel_rfl) (by kernel_rfl) (by kernel_rfl) (fun _ _ _ h => h) (Or.inl ⟨by rfl, ?y5⟩) kS ?r5
  case y5 =>
    intro ww hS
    have q := hS.cell p1 (by show ¬ B + 1 = R; omega)
    clear hS
    go_simp
    try first | (with_reducible rfl) | rfl
  try simp only [Act.put]
  refine wpAnyH_take (i := 9) (v := .pointer (some ⟨B, 1, none⟩)) rfl (by kernel_rfl) (by kernel_rfl) (by kernel_rfl) (fun _ _ _ h => h) (Or.inl ⟨by rfl, ?y9⟩) kS ?r9
  case y9 =>
    intro ww hS
    clear hS
    go_simp
    try first | (with_reducible rfl) | rfl
  try simp only [Act.put]
  refine wpAnyH_take (i := 10) (v := .int .u64 (ex : Int)) rfl (by kernel_rfl) (by kernel_rfl) (by kernel_rfl) (fun _ _ _ h => h) (Or.inl ⟨by rfl, ?y10⟩) kS ?r10
  case y10 =>
    intro ww hS
    have q := hS.cell q1 (by show ¬ B = R; omega)
    clear hS
    go_simp
    try first | (with_reducible rfl) | rfl
  try simp only [Act.put]
  refine wpAnyH_take (i := 11) (v := .pointer (some ⟨B + 1, 1, none⟩)) rfl (by kernel_rfl) (by kernel_rfl) (by kernel_rfl) (fun _ _ _ h => h) (Or.inl ⟨by rfl, ?y11⟩) kS ?r11
  case y11 =>
    intro ww hS
    clear hS
    go_simp
    try first | (with_reducible rfl) | rfl
  try simp only [Act.put]
  refine wpAnyH_take (i := 12) (v := .int .u64 (ey : Int)) rfl (by kernel_rfl) (by kernel_rfl) (by kernel_rfl) (fun _ _ _ h => h) (Or.inl ⟨by rfl, ?y12⟩) kS ?r12
  case y12 =>
    intro ww hS
    have q := hS.cell p1 (by show ¬ B + 1 = R; omega)
    clear hS
    go_simp
    try first | (with_reducible rfl) | rfl
  try simp only [Act.put]
  refine wpAnyH_take (i := 13) (v := .int .u64 ((ex + ey : Nat) : Int)) rfl (by kernel_rfl) (by kernel_rfl) (by kernel_rfl) (fun _ _ _ h => h) (Or.inl ⟨by rfl, ?y13⟩) kS ?r13
  case y13 =>
    intro ww hS
    clear hS
    go_simp
    try first | (with_reducible rfl) | rfl
  try simp only [Act.put]
  refine wpAnyH_ready (rs := [6]) (by kernel_rfl) (by simp) ?_
  refine AllReadyH.cons rfl (fun K hK => ?_) AllReadyH.nil
  go_simp
  refine Calls.mono (dOf_eq ey rfl (by omega)) ?_
  rintro r v6 ⟨a6, m6, c6, rfl, hm6, hO6, bN⟩
  have z6 := bD.size
  replace bD := below_trans bD bN
  refine hK.out _ _ (Ks.of_below bD) (fun _ => ?_)
  clear hK K
  try simp only [Act.put, List.setIfInBounds_toArray, List.set_cons_zero, List.set_cons_succ]
  clear bN
  refine wpAnyH_ready (rs := [7]) (by kernel_rfl) (by simp) ?_
  refine AllReadyH.cons rfl (fun K hK => ?_) AllReadyH.nil
  go_simp
  refine Calls.mono (dAdd_eq (hY1.keepB bD) hO6.1 hn' hm6 g2) ?_
  rintro r v7 ⟨a7, m7, c7, rfl, hm7, hO7, bN⟩
  have z7 := bD.size
  replace bD := below_trans bD bN
  refine hK.out _ _ (Ks.of_below bD) (fun _ => ?_)
  clear hK K
  try simp only [Act.put, List.setIfInBounds_toArray, List.set_cons_zero, List.set_cons_succ]
  clear bN hO6
  refine wpAnyH_ready (rs := [8]) (by kernel_rfl) (by simp) ?_
  refine AllReadyH.cons rfl (fun K hK => ?_) AllReadyH.nil
  go_simp
  refine Calls.mono (dSub_eq (hX1.keepB bD) hO7.1 hn hm7 g hl) ?_
  rintro r v8 ⟨ao, m, d, rfl, hm, hO, bN⟩
  have z8 := bD.size
  replace bD := below_trans bD bN
  refine hK.out _ _ (Ks.of_below bD) (fun _ => ?_)
  clear hK K
  try simp only [Act.put, List.setIfInBounds_toArray, List.set_cons_zero, List.set_cons_succ]
  clear bN hO7
  refine wpAnyH_take (i := 14) (v := .agg #[.slice ao m d, .int .u64 ((ex + ey : Nat) : Int)]) rfl (by kernel_rfl) (by kernel_rfl) (by kernel_rfl) (fun _ _ _ h => h) (Or.inl ⟨by rfl, ?y14⟩) (Ks.of_below bD) ?r14
  case y14 =>
    intro ww hS
    clear hS
    go_simp
    try first | (with_reducible rfl) | rfl
  try simp only [Act.put, List.setIfInBounds_toArray]
  replace f0 := fKeep bD z0 f0
  replace f1 := fKeep bD z1 f1
  replace z0 := cKeep bD z0
  replace z1 := cKeep bD z1
  have KF := ks_two (fun k => k = R) v8 R rfl (.slice ao m d) (.int .u64 ((ex + ey : Nat) : Int))
  refine wpAnyH_ready (rs := [15]) (by kernel_rfl) (by simp) ?_
  refine AllReadyH.cons rfl (fun K hK => ?_) AllReadyH.nil
  go_simp
  refine hK.out _ _ ((Ks.of_below (S := fun k => k = R) bD).trans KF) (fun _ => ?_)
  clear hK K
  try simp only [Act.put, List.setIfInBounds_toArray, List.set_cons_zero, List.set_cons_succ]
  refine wpAnyH_done (by kernel_rfl) ?_ _
  go_wp2_with fail
  subst hB hR
  refine bodyPost_ret (v := FixV ao m d (ex + ey)) (by simp [results, Tryz.results111, go_sem, FixV, z0, z1]) rfl ⟨ao, m, d, rfl, hm, ?_, ?_⟩
  · exact (hO.keepS (hO.nw.noS (by rintro b rfl; omega)) KF).low (by omega)
  · exact (bA.trans (bD.mono (by omega))).trans (KF.below w.heap.size (by have := bD.size; omega) (fun b e => by omega))

set_option maxRecDepth 100000 in
set_option maxHeartbeats 4000000 in
theorem fxSmall (a : Option Addr) (n c X ex : Nat) (d0 : Nat) (w : World) (hX : IsW w a n c (wordsOf X)) (hn : n ≤ 1024) (hd0 : 0 < d0) (hd1 : d0 < 65536) (g : greatB X = false) (he : ex < 4294967296) :
    Calls Tryz.prog 115 #[FixV a n c ex, .int .u64 (d0 : Int)] w fun r w' => ∃ (ao : Option Addr) (m d : Nat), r = .returned (FixV ao m d (ex / d0 + 2)) ∧ m ≤ 1024 ∧ OwnW w.heap.size w' ao m d (wordsOf (X / d0)) ∧ Below w.heap.size w w' := by
  obtain ⟨Q, hQ⟩ : ∃ Q, Q = ex / d0 := ⟨_, rfl⟩
  have hQl : Q ≤ ex := by rw [hQ]; exact Nat.div_le_self _ _
  have hq : IntKind.u64.wrap ((ex : Int).tdiv (d0 : Int)) = (Q : Int) := by rw [Int.tdiv_eq_ediv_of_nonneg (by omega), ← Int.natCast_ediv, ← hQ, IntKind.wrap_u64]; omega
  have hq2 : (ex : Int).tdiv (d0 : Int) = (Q : Int) := by rw [Int.tdiv_eq_ediv_of_nonneg (by omega), ← Int.natCast_ediv, ← hQ]
  have hE : IntKind.u64.wrap ((Q : Int) + 2) = ((Q + 2 : Nat) : Int) := by rw [IntKind.wrap_u64]; omega
  have hd2 : ¬ (d0 : Int) = 0 := by omega
  have hd3 : ¬ d0 = 0 := by omega
  have hq3 : IntKind.u64.wrap (Q : Int) = (Q : Int) := by rw [IntKind.wrap_u64]; omega
  rw [← hQ]
  clear hQ
  have bA := below_trans (below_alloc w (.cells #[.slice a n c, .int .u64 (ex : Int)] 74)) (below_alloc (w.alloc (.cells #[.slice a n c, .int .u64 (ex : Int)] 74)) (.cells #[.slice none 0 0, .int .u64 0] 74))
  have hX1 := hX.keepB bA
  have FA : Hid (∀ W : World, W = (w.alloc (.cells #[.slice a n c, .int .u64 (ex : Int)] 74)).alloc (.cells #[.slice none 0 0, .int .u64 0] 74) → W.cell? ⟨w.heap.size, 0, none⟩ = some (.slice a n c) ∧ W.cell? ⟨w.heap.size, 1, none⟩ = some (.int .u64 (ex : Int)) ∧ (W.cell? ⟨w.heap.size + 1, 0, none⟩ = some (.slice none 0 0) ∧ W.frozen? ⟨w.heap.size + 1, 0, none⟩ = false) ∧ (W.cell? ⟨w.heap.size + 1, 1, none⟩ = some (.int .u64 0) ∧ W.frozen? ⟨w.heap.size + 1, 1, none⟩ = false)) := fun W hW => by
    subst hW
    exact ⟨by go_simp, by go_simp, ⟨by go_simp, by go_simp⟩, ⟨by go_simp, by go_simp⟩⟩
  obtain ⟨q0, q1, ⟨z0, f0⟩, ⟨z1, f1⟩⟩ := FA.out _ rfl
  clear FA hX
  unfold FixV
  go_enter Tryz.func115, Tryz.ntmps115
  go_wp2_with fail
  generalize (w.alloc (.cells #[.slice a n c, .int .u64 (ex : Int)] 74)).alloc (.cells #[.slice none 0 0, .int .u64 0] 74) = v at *
  have hz : w.heap.size + 1 < v.heap.size := World.block_lt_of_cell? _ _ z0
  generalize hB : w.heap.size = B at *
  generalize hR : B + 1 = R at *
  have kS : Ks (fun k => k = R) v v.drew := Ks.of_below ((Below.refl _ _).drew)
  have bD : Below v.heap.size v v.drew := (Below.refl _ _).drew
  refine wp_region_held (S := fun w' => Ks (fun k => k = R) v w') (by kernel_rfl) ?_
  change wpAnyH _ _ _ _ _ _ _ _ (World.drew v)
  generalize World.drew v = wd0 at kS bD ⊢
  refine wpAnyH_take (i := 0) (v := .pointer (some ⟨B, 0, none⟩)) rfl (by kernel_rfl) (by kernel_rfl) (by kernel_rfl) (fun _ _ _ h => h) (Or.inl ⟨by rfl, ?y0⟩) kS ?r0
  case y0 =>
    intro ww hS
    clear hS
    go_simp
    try first | (with_reducible rfl) | rfl
  try simp only [Act.put, List.setIfInBounds_toArray]
  refine wpAnyH_take (i := 1) (v := .slice a n c) rfl (by kernel_rfl) (by kernel_rfl) (by kernel_rfl) (fun _ _ _ h => h) (Or.inl ⟨by rfl, ?y1⟩) kS ?r1
  case y1 =>
    intro ww hS
    have q := hS.cell q0 (by show ¬ B = R; omega)
    clear hS
    go_simp
    try first | (with_reducible rfl) | rfl
  try simp only [Act.put]
  refine wpAnyH_take (i := 2) (v := .int .u64 (d0 : Int)) rfl (by kernel_rfl) (by kernel_rfl) (by kernel_rfl) (fun _ _ _ h => h) (Or.inl ⟨by rfl, ?y2⟩) kS ?r2
  case y2 =>
    intro ww hS
    clear hS
    go_simp
    try first | (with_reducible rfl) | rfl
  try simp only [Act.put]
  refine wpAnyH_take (i := 4) (v := .pointer (some ⟨B, 1, none⟩)) rfl (by kernel_rfl) (by kernel_rfl) (by kernel_rfl) (fun _ _ _ h => h) (Or.inl ⟨by rfl, ?y4⟩) kS ?r4
  case y4 =>
    intro ww hS
    clear hS
    go_simp
    try first | (with_reducible rfl) | rfl
  try simp only [Act.put]
  refine wpAnyH_take (i := 5) (v := .int .u64 (ex : Int)) rfl (by kernel_rfl) (by kernel_rfl) (by kernel_rfl) (fun _ _ _ h => h) (Or.inl ⟨by rfl, ?y5⟩) kS ?r5
  case y5 =>
    intro ww hS
    have q := hS.cell q1 (by show ¬ B = R; omega)
    clear hS
    go_simp
    try first | (with_reducible rfl) | rfl
  try simp only [Act.put]
  refine wpAnyH_take (i := 6) (v := .int .u64 (d0 : Int)) rfl (by kernel_rfl) (by kernel_rfl) (by kernel_rfl) (fun _ _ _ h => h) (Or.inl ⟨by rfl, ?y6⟩) kS ?r6
  case y6 =>
    intro ww hS
    clear hS
    go_simp
    try first | (with_reducible rfl) | rfl
  try simp only [Act.put]
  refine wpAnyH_take (i := 7) (v := .int .u64 (Q : Int)) rfl (by kernel_rfl) (by kernel_rfl) (by kernel_rfl) (fun _ _ _ h => h) (Or.inl ⟨by rfl, ?y7⟩) kS ?r7
  case y7 =>
    intro ww hS
    clear hS
    go_simp
    try first | (with_reducible rfl) | rfl
  try simp only [Act.put]
  refine wpAnyH_take (i := 8) (v := .int .u64 ((Q + 2 : Nat) : Int)) rfl (by kernel_rfl) (by kernel_rfl) (by kernel_rfl) (fun _ _ _ h => h) (Or.inl ⟨by rfl, ?y8⟩) kS ?r8
  case y8 =>
    intro ww hS
    clear hS
    go_simp
    try first | (with_reducible rfl) | rfl
  try simp only [Act.put]
  refine wpAnyH_ready (rs := [3]) (by kernel_rfl) (by simp) ?_
  refine AllReadyH.cons rfl (fun K hK => ?_) AllReadyH.nil
  go_simp
  refine Calls.mono (dShort_eq hd0 hd1 (hX1.keepB bD) hn g) ?_
  rintro r v3 ⟨ao, m, d, rfl, hm, hO, bN⟩
  have z3 := bD.size
  replace bD := below_trans bD bN
  refine hK.out _ _ (Ks.of_below bD) (fun _ => ?_)
  clear hK K
  try simp only [Act.put, List.setIfInBounds_toArray, List.set_cons_zero, List.set_cons_succ]
  clear bN
  refine wpAnyH_take (i := 9) (v := .agg #[.slice ao m d, .int .u64 ((Q + 2 : Nat) : Int)]) rfl (by kernel_rfl) (by kernel_rfl) (by kernel_rfl) (fun _ _ _ h => h) (Or.inl ⟨by rfl, ?y9⟩) (Ks.of_below bD) ?r9
  case y9 =>
    intro ww hS
    clear hS
    go_simp
    try first | (with_reducible rfl) | rfl
  try simp only [Act.put, List.setIfInBounds_toArray]
  replace f0 := fKeep bD z0 f0
  replace f1 := fKeep bD z1 f1
  replace z0 := cKeep bD z0
  replace z1 := cKeep bD z1
  have KF := ks_two (fun k => k = R) v3 R rfl (.slice ao m d) (.int .u64 ((Q + 2 : Nat) : Int))
  refine wpAnyH_ready (rs := [10]) (by kernel_rfl) (by simp) ?_
  refine AllReadyH.cons rfl (fun K hK => ?_) AllReadyH.nil
  go_simp
  refine hK.out _ _ ((Ks.of_below (S := fun k => k = R) bD).trans KF) (fun _ => ?_)
  clear hK K
  try simp only [Act.put, List.setIfInBounds_toArray, List.set_cons_zero, List.set_cons_succ]
  refine wpAnyH_done (by kernel_rfl) ?_ _
  go_wp2_with fail
  subst hB hR
  refine bodyPost_ret (v := FixV ao m d (Q + 2)) (by simp [results, Tryz.results115, go_sem, FixV, z0, z1]) rfl ⟨ao, m, d, rfl, hm, ?_, ?_⟩
  · exact (hO.keepS (hO.nw.noS (by rintro b rfl; omega)) KF).low (by omega)
  · exact (bA.trans (bD.mono (by omega))).trans (KF.below w.heap.size (by have := bD.size; omega) (fun b e => by omega))

set_option maxRecDepth 100000 in
set_option maxHeartbeats 4000000 in
theorem fxTimes (a : Option Addr) (n c X ex : Nat) (d0 : Nat) (w : World) (hX : IsW w a n c (wordsOf X)) (hn : n ≤ 1024) (hd1 : d0 < 65536) (g : greatB (X * d0) = false) (he : ex < 4294967296) :
    Calls Tryz.prog 112 #[FixV a n c ex, .int .u64 (d0 : Int)] w fun r w' => ∃ (ao : Option Addr) (m d : Nat), r = .returned (FixV ao m d (ex * d0)) ∧ m ≤ 1024 ∧ OwnW w.heap.size w' ao m d (wordsOf (X * d0)) ∧ Below w.heap.size w w' := by
  have hE : IntKind.u64.wrap ((ex : Int) * (d0 : Int)) = ((ex * d0 : Nat) : Int) := by
    have h1 : ex * d0 ≤ 4294967296 * 65536 := Nat.mul_le_mul (by omega) (by omega)
    rw [IntKind.wrap_u64, ← Int.natCast_mul]; omega
  have bA := below_trans (below_alloc w (.cells #[.slice a n c, .int .u64 (ex : Int)] 74)) (below_alloc (w.alloc (.cells #[.slice a n c, .int .u64 (ex : Int)] 74)) (.cells #[.slice none 0 0, .int .u64 0] 74))
  have hX1 := hX.keepB bA
  have FA : Hid (∀ W : World, W = (w.alloc (.cells #[.slice a n c, .int .u64 (ex : Int)] 74)).alloc (.cells #[.slice none 0 0, .int .u64 0] 74) → W.cell? ⟨w.heap.size, 0, none⟩ = some (.slice a n c) ∧ W.cell? ⟨w.heap.size, 1, none⟩ = some (.int .u64 (ex : Int)) ∧ (W.cell? ⟨w.heap.size + 1, 0, none⟩ = some (.slice none 0 0) ∧ W.frozen? ⟨w.heap.size + 1, 0, none⟩ = false) ∧ (W.cell? ⟨w.heap.size + 1, 1, none⟩ = some (.int .u64 0) ∧ W.frozen? ⟨w.heap.size + 1, 1, none⟩ = false)) := fun W hW => by
    subst hW
    exact ⟨by go_simp, by go_simp, ⟨by go_simp, by go_simp⟩, ⟨by go_simp, by go_simp⟩⟩
  obtain ⟨q0, q1, ⟨z0, f0⟩, ⟨z1, f1⟩⟩ := FA.out _ rfl
  clear FA hX
  unfold FixV
  go_enter Tryz.func112, Tryz.ntmps112
  go_wp2_with fail
  generalize (w.alloc (.cells #[.slice a n c, .int .u64 (ex : Int)] 74)).alloc (.cells #[.slice none 0 0, .int .u64 0] 74) = v at *
  have hz : w.heap.size + 1 < v.heap.size := World.block_lt_of_cell? _ _ z0
  generalize hB : w.heap.size = B at *
  generalize hR : B + 1 = R at *
  have kS : Ks (fun k => k = R) v v.drew := Ks.of_below ((Below.refl _ _).drew)
  have bD : Below v.heap.size v v.drew := (Below.refl _ _).drew
  refine wp_region_held (S := fun w' => Ks (fun k => k = R) v w') (by kernel_rfl) ?_
  change wpAnyH _ _ _ _ _ _ _ _ (World.drew v)
  generalize World.drew v = wd0 at kS bD ⊢
  refine wpAnyH_take (i := 0) (v := .pointer (some ⟨B, 0, none⟩)) rfl (by kernel_rfl) (by kernel_rfl) (by kernel_rfl) (fun _ _ _ h => h) (Or.inl ⟨by rfl, ?y0⟩) kS ?r0
  case y0 =>
    intro ww hS
    clear hS
    go_simp
    try first | (with_reducible rfl) | rfl
  try simp only [Act.put, List.setIfInBounds_toArray]
  refine wpAnyH_take (i := 1) (v := .slice a n c) rfl (by kernel_rfl) (by kernel_rfl) (by kernel_rfl) (fun _ _ _ h => h) (Or.inl ⟨by rfl, ?y1⟩) kS ?r1
  case y1 =>
    intro ww hS
    have q := hS.cell q0 (by show ¬ B = R; omega)
    clear hS
    go_simp
    try first | (with_reducible rfl) | rfl
  try simp only [Act.put]
  refine wpAnyH_take (i := 2) (v := .int .u64 (d0 : Int)) rfl (by kernel_rfl) (by kernel_rfl) (by kernel_rfl) (fun _ _ _ h => h) (Or.inl ⟨by rfl, ?y2⟩) kS ?r2
  case y2 =>
    intro ww hS
    clear hS
    go_simp
    try first | (with_reducible rfl) | rfl
  try simp only [Act.put]
  refine wpAnyH_take (i := 5) (v := .pointer (some ⟨B, 1, none⟩)) rfl (by kernel_rfl) (by kernel_rfl) (by kernel_rfl) (fun _ _ _ h => h) (Or.inl ⟨by rfl, ?y5⟩) kS ?r5
  case y5 =>
    intro ww hS
    clear hS
    go_simp
    try first | (with_reducible rfl) | rfl
  try simp only [Act.put]
  refine wpAnyH_take (i := 6) (v := .int .u64 (ex : Int)) rfl (by kernel_rfl) (by kernel_rfl) (by kernel_rfl) (fun _ _ _ h => h) (Or.inl ⟨by rfl, ?y6⟩) kS ?r6
  case y6 =>
    intro ww hS
    have q := hS.cell q1 (by show ¬ B = R; omega)
    clear hS
    go_simp
    try first | (with_reducible rfl) | rfl
  try simp only [Act.put]
  refine wpAnyH_take (i := 7) (v := .int .u64 (d0 : Int)) rfl (by kernel_rfl) (by kernel_rfl) (by kernel_rfl) (fun _ _ _ h => h) (Or.inl ⟨by rfl, ?y7⟩) kS ?r7
  case y7 =>
    intro ww hS
    clear hS
    go_simp
    try first | (with_reducible rfl) | rfl
  try simp only [Act.put]
  refine wpAnyH_take (i := 8) (v := .int .u64 ((ex * d0 : Nat) : Int)) rfl (by kernel_rfl) (by kernel_rfl) (by kernel_rfl) (fun _ _ _ h => h) (Or.inl ⟨by rfl, ?y8⟩) kS ?r8
  case y8 =>
    intro ww hS
    clear hS
    go_simp
    try first | (with_reducible rfl) | rfl
  try simp only [Act.put]
  refine wpAnyH_ready (rs := [3]) (by kernel_rfl) (by simp) ?_
  refine AllReadyH.cons rfl (fun K hK => ?_) AllReadyH.nil
  go_simp
  refine Calls.mono (dOf_eq d0 rfl (by omega)) ?_
  rintro r v3 ⟨a6, m6, c6, rfl, hm6, hO6, bN⟩
  have z3 := bD.size
  replace bD := below_trans bD bN
  refine hK.out _ _ (Ks.of_below bD) (fun _ => ?_)
  clear hK K
  try simp only [Act.put, List.setIfInBounds_toArray, List.set_cons_zero, List.set_cons_succ]
  clear bN
  refine wpAnyH_ready (rs := [4]) (by kernel_rfl) (by simp) ?_
  refine AllReadyH.cons rfl (fun K hK => ?_) AllReadyH.nil
  go_simp
  refine Calls.mono (dMul_eq (hX1.keepB bD) hO6.1 hn hm6 g) ?_
  rintro r v4 ⟨ao, m, d, rfl, hm, hO, bN⟩
  have z4 := bD.size
  replace bD := below_trans bD bN
  refine hK.out _ _ (Ks.of_below bD) (fun _ => ?_)
  clear hK K
  try simp only [Act.put, List.setIfInBounds_toArray, List.set_cons_zero, List.set_cons_succ]
  clear bN hO6
  refine wpAnyH_take (i := 9) (v := .agg #[.slice ao m d, .int .u64 ((ex * d0 : Nat) : Int)]) rfl (by kernel_rfl) (by kernel_rfl) (by kernel_rfl) (fun _ _ _ h => h) (Or.inl ⟨by rfl, ?y9⟩) (Ks.of_below bD) ?r9
  case y9 =>
    intro ww hS
    clear hS
    go_simp
    try first | (with_reducible rfl) | rfl
  try simp only [Act.put, List.setIfInBounds_toArray]
  replace f0 := fKeep bD z0 f0
  replace f1 := fKeep bD z1 f1
  replace z0 := cKeep bD z0
  replace z1 := cKeep bD z1
  have KF := ks_two (fun k => k = R) v4 R rfl (.slice ao m d) (.int .u64 ((ex * d0 : Nat) : Int))
  refine wpAnyH_ready (rs := [10]) (by kernel_rfl) (by simp) ?_
  refine AllReadyH.cons rfl (fun K hK => ?_) AllReadyH.nil
  go_simp
  refine hK.out _ _ ((Ks.of_below (S := fun k => k = R) bD).trans KF) (fun _ => ?_)
  clear hK K
  try simp only [Act.put, List.setIfInBounds_toArray, List.set_cons_zero, List.set_cons_succ]
  refine wpAnyH_done (by kernel_rfl) ?_ _
  go_wp2_with fail
  subst hB hR
  refine bodyPost_ret (v := FixV ao m d (ex * d0)) (by simp [results, Tryz.results112, go_sem, FixV, z0, z1]) rfl ⟨ao, m, d, rfl, hm, ?_, ?_⟩
  · exact (hO.keepS (hO.nw.noS (by rintro b rfl; omega)) KF).low (by omega)
  · exact (bA.trans (bD.mono (by omega))).trans (KF.below w.heap.size (by have := bD.size; omega) (fun b e => by omega))

end Go.Proofs.YtkkldnnndlpblaaGreatDoor
