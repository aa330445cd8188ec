/- Package consts: one divided by a constant, enclosed; every constant, enclosed. -/
import Derived.Test.YtkkldnnndlpblaaGreatDoorCF5
namespace Go.Proofs.YtkkldnnndlpblaaGreatDoor
open Go.RowKit Ck

set_option maxRecDepth 100000 in
set_option maxHeartbeats 4000000 in
theorem recip_calls (a : Option Addr) (n c x : Nat) (a' : Option Addr) (n' c' y wd : Nat) (e : Int) (w : World) (hX : IsW w a n c (wordsOf x)) (hn : n ≤ 1024) (hY : IsW w a' n' c' (wordsOf y)) (hn' : n' ≤ 1024) (gx : greatB x = false) (gy : greatB y = false) (x0 : x ≠ 0) (y0 : y ≠ 0) (h40 : 40 ≤ wd) (hwd : wd ≤ 16000) :
    Calls Tryz.prog 64 #[SpanV a n c a' n' c' e, .int .i64 (wd : Int)] w fun r w' => ∃ (a : Option Addr) (n c : Nat) (a' : Option Addr) (n' c' : Nat), r = .returned (SpanV a n c a' n' c' (-(wd : Int))) ∧ n ≤ 1024 ∧ OwnW w.heap.size w' a n c (wordsOf (2 ^ (2 * wd) / y)) ∧ n' ≤ 1024 ∧ OwnW w.heap.size w' a' n' c' (wordsOf (2 ^ (2 * wd) / x + 1)) ∧ Below w.heap.size w w' := by
  have g1 : greatB (2 ^ (2 * wd)) = false := cf_great (k := 2 * wd + 1) (Nat.pow_lt_pow_right (by decide) (by omega)) (by omega)
  have g2 : greatB (2 ^ (2 * wd) / x + 1) = false := by
    refine cf_great (k := 2 * wd + 1) ?_ (by omega)
    have h1 := Nat.div_le_self (2 ^ (2 * wd)) x
    have h2 : 2 ^ (2 * wd + 1) = 2 ^ (2 * wd) + 2 ^ (2 * wd) := by rw [Nat.pow_succ, Nat.mul_two]
    have h3 : 1 < 2 ^ (2 * wd) := Nat.one_lt_two_pow (by omega)
    omega
  have hw : IntKind.i64.wrap (2 * (wd : Int)) = ((2 * wd : Nat) : Int) := by rw [IntKind.wrap_i64]; omega
  have bA := below_trans (below_alloc w (.cells #[.slice a n c, .int .i64 e, .slice a' n' c', .int .i64 e] 63)) (below_alloc (w.alloc (.cells #[.slice a n c, .int .i64 e, .slice a' n' c', .int .i64 e] 63)) (.cells #[.slice none 0 0, .int .i64 0, .slice none 0 0, .int .i64 0] 63))
  have hX1 := hX.keepB bA
  have hY1 := hY.keepB bA
  have FA : Hid (∀ W : World, W = ((w.alloc (.cells #[.slice a n c, .int .i64 e, .slice a' n' c', .int .i64 e] 63)).alloc (.cells #[.slice none 0 0, .int .i64 0, .slice none 0 0, .int .i64 0] 63)) → W.cell? ⟨w.heap.size, 0, none⟩ = some (.slice a n c) ∧ W.cell? ⟨w.heap.size, 2, none⟩ = some (.slice a' n' c') ∧ (W.cell? ⟨w.heap.size + 1, 0, none⟩ = some (.slice none 0 0) ∧ W.frozen? ⟨w.heap.size + 1, 0, none⟩ = false) ∧ (W.cell? ⟨w.heap.size + 1, 1, none⟩ = some (.int .i64 0) ∧ W.frozen? ⟨w.heap.size + 1, 1, none⟩ = false) ∧ (W.cell? ⟨w.heap.size + 1, 2, none⟩ = some (.slice none 0 0) ∧ W.frozen? ⟨w.heap.size + 1, 2, none⟩ = false) ∧ (W.cell? ⟨w.heap.size + 1, 3, none⟩ = some (.int .i64 0) ∧ W.frozen? ⟨w.heap.size + 1, 3, none⟩ = false)) := fun W hW => by
    subst hW
    exact ⟨by go_simp, by go_simp, ⟨by go_simp, by go_simp⟩, ⟨by go_simp, by go_simp⟩, ⟨by go_simp, by go_simp⟩, ⟨by go_simp, by go_simp⟩⟩
  obtain ⟨q0, q2, ⟨z0, f0⟩, ⟨z1, f1⟩, ⟨z2, f2⟩, ⟨z3, f3⟩⟩ := FA.out _ rfl
  clear FA hX hY
  unfold SpanV
  go_enter Tryz.func64, Tryz.ntmps64
  go_wp2_with fail
  generalize (w.alloc (.cells #[.slice a n c, .int .i64 e, .slice a' n' c', .int .i64 e] 63)).alloc (.cells #[.slice none 0 0, .int .i64 0, .slice none 0 0, .int .i64 0] 63) = w0 at *
  have hz : w.heap.size + 1 < w0.heap.size := World.block_lt_of_cell? _ _ z0
  refine Calls.mono (fOne_calls (2 * wd) w0 (by omega)) ?_
  rintro r v ⟨ao, m, d, rfl, hm, hO, b1⟩
  have b2 := (bA.trans (b1.mono (by omega)))
  have hz1 := b1.size
  replace hX1 := hX1.keepB b1
  replace hY1 := hY1.keepB b1
  replace f0 := fKeep b1 z0 f0
  replace f1 := fKeep b1 z1 f1
  replace f2 := fKeep b1 z2 f2
  replace f3 := fKeep b1 z3 f3
  replace z0 := cKeep b1 z0
  replace z1 := cKeep b1 z1
  replace z2 := cKeep b1 z2
  replace z3 := cKeep b1 z3
  replace q0 := cKeep b1 q0
  replace q2 := cKeep b1 q2
  clear b1 bA
  go_wp2_with fail
  generalize hB : w.heap.size = B at *
  have kS : Ks (fun k => k = B + 1) v v.drew := Ks.of_below ((Below.refl _ _).drew)
  have bD : Below v.heap.size v v.drew := (Below.refl _ _).drew
  refine wp_region_held (S := fun w' => Ks (fun k => k = B + 1) v w') (by kernel_rfl) ?_
  change wpAnyH _ _ _ _ _ _ _ _ (World.drew v)
  generalize World.drew v = wd0 at kS bD ⊢
  refine wpAnyH_take (i := 0) (v := .slice ao m d) rfl (by kernel_rfl) (by kernel_rfl) (by kernel_rfl) (fun _ _ _ h => h) (Or.inl ⟨by rfl, ?y0⟩) kS ?r0
  case y0 =>
    intro ww hS
    clear hS
    go_simp
    try first | (with_reducible rfl) | rfl
  try simp only [Act.put, List.setIfInBounds_toArray]
  refine wpAnyH_take (i := 1) (v := .pointer (some ⟨B, 2, none⟩)) rfl (by kernel_rfl) (by kernel_rfl) (by kernel_rfl) (fun _ _ _ h => h) (Or.inl ⟨by rfl, ?y1⟩) kS ?r1
  case y1 =>
    intro ww hS
    clear hS
    go_simp
    try first | (with_reducible rfl) | rfl
  try simp only [Act.put]
  refine wpAnyH_take (i := 2) (v := .pointer (some ⟨B, 2, none⟩)) rfl (by kernel_rfl) (by kernel_rfl) (by kernel_rfl) (fun _ _ _ h => h) (Or.inl ⟨by rfl, ?y2⟩) kS ?r2
  case y2 =>
    intro ww hS
    clear hS
    go_simp
    try first | (with_reducible rfl) | rfl
  try simp only [Act.put]
  refine wpAnyH_take (i := 3) (v := .slice a' n' c') rfl (by kernel_rfl) (by kernel_rfl) (by kernel_rfl) (fun _ _ _ h => h) (Or.inl ⟨by rfl, ?y3⟩) kS ?r3
  case y3 =>
    intro ww hS
    have q := hS.cell q2 (by show ¬ B = B + 1; omega)
    clear hS
    go_simp
    try first | (with_reducible rfl) | rfl
  try simp only [Act.put]
  refine wpAnyH_take (i := 5) (v := .slice ao m d) rfl (by kernel_rfl) (by kernel_rfl) (by kernel_rfl) (fun _ _ _ h => h) (Or.inl ⟨by rfl, ?y5⟩) kS ?r5
  case y5 =>
    intro ww hS
    clear hS
    go_simp
    try first | (with_reducible rfl) | rfl
  try simp only [Act.put]
  refine wpAnyH_take (i := 6) (v := .pointer (some ⟨B, 0, none⟩)) rfl (by kernel_rfl) (by kernel_rfl) (by kernel_rfl) (fun _ _ _ h => h) (Or.inl ⟨by rfl, ?y6⟩) kS ?r6
  case y6 =>
    intro ww hS
    clear hS
    go_simp
    try first | (with_reducible rfl) | rfl
  try simp only [Act.put]
  refine wpAnyH_take (i := 7) (v := .pointer (some ⟨B, 0, none⟩)) rfl (by kernel_rfl) (by kernel_rfl) (by kernel_rfl) (fun _ _ _ h => h) (Or.inl ⟨by rfl, ?y7⟩) kS ?r7
  case y7 =>
    intro ww hS
    clear hS
    go_simp
    try first | (with_reducible rfl) | rfl
  try simp only [Act.put]
  refine wpAnyH_take (i := 8) (v := .slice a n c) rfl (by kernel_rfl) (by kernel_rfl) (by kernel_rfl) (fun _ _ _ h => h) (Or.inl ⟨by rfl, ?y8⟩) kS ?r8
  case y8 =>
    intro ww hS
    have q := hS.cell q0 (by show ¬ B = B + 1; omega)
    clear hS
    go_simp
    try first | (with_reducible rfl) | rfl
  try simp only [Act.put]
  refine wpAnyH_take (i := 12) (v := .int .i64 (wd : Int)) rfl (by kernel_rfl) (by kernel_rfl) (by kernel_rfl) (fun _ _ _ h => h) (Or.inl ⟨by rfl, ?y12⟩) kS ?r12
  case y12 =>
    intro ww hS
    clear hS
    go_simp
    try first | (with_reducible rfl) | rfl
  try simp only [Act.put]
  refine wpAnyH_ready (rs := [4]) (by kernel_rfl) (by simp) ?_
  refine AllReadyH.cons rfl (fun K hK => ?_) AllReadyH.nil
  go_simp
  refine Calls.mono (fOver_calls (hO.keep bD).1 (hY1.keepB bD) hm hn' g1 gy y0) ?_
  rintro r v4 ⟨a4, n4, c4, rfl, hn4, hO4, bN⟩
  replace bD := below_trans bD bN
  refine hK.out _ _ (Ks.of_below bD) (fun _ => ?_)
  clear hK K
  try simp only [Act.put, List.setIfInBounds_toArray, List.set_cons_zero, List.set_cons_succ]
  have s4 := bD.size
  replace hO4 := hO4.low kS.2.2.2.1
  clear bN
  refine wpAnyH_ready (rs := [9]) (by kernel_rfl) (by simp) ?_
  refine AllReadyH.cons rfl (fun K hK => ?_) AllReadyH.nil
  go_simp
  refine Calls.mono (fOver_calls (hO.keep bD).1 (hX1.keepB bD) hm hn g1 gx x0) ?_
  rintro r v9 ⟨a9, n9, c9, rfl, hn9, hO9, bN⟩
  replace bD := below_trans bD bN
  refine hK.out _ _ (Ks.of_below bD) (fun _ => ?_)
  clear hK K
  try simp only [Act.put, List.setIfInBounds_toArray, List.set_cons_zero, List.set_cons_succ]
  have s9 := bD.size
  replace hO4 := hO4.keep bN
  clear bN
  refine wpAnyH_ready (rs := [10]) (by kernel_rfl) (by simp) ?_
  refine AllReadyH.cons rfl (fun K hK => ?_) AllReadyH.nil
  go_simp
  refine Calls.mono (of_eq 1 rfl (by omega)) ?_
  rintro r v10 ⟨a10, n10, c10, rfl, hn10, hO10, bN⟩
  replace bD := below_trans bD bN
  refine hK.out _ _ (Ks.of_below bD) (fun _ => ?_)
  clear hK K
  try simp only [Act.put, List.setIfInBounds_toArray, List.set_cons_zero, List.set_cons_succ]
  have s10 := bD.size
  replace hO4 := hO4.keep bN
  replace hO9 := hO9.keep bN
  clear bN
  refine wpAnyH_ready (rs := [11]) (by kernel_rfl) (by simp) ?_
  refine AllReadyH.cons rfl (fun K hK => ?_) AllReadyH.nil
  go_simp
  refine Calls.mono (fPlus_calls hO9.1 hO10.1 hn9 hn10 g2) ?_
  rintro r v11 ⟨a11, n11, c11, rfl, hn11, hO11, bN⟩
  replace bD := below_trans bD bN
  refine hK.out _ _ (Ks.of_below bD) (fun _ => ?_)
  clear hK K
  try simp only [Act.put, List.setIfInBounds_toArray, List.set_cons_zero, List.set_cons_succ]
  have s11 := bD.size
  replace hO4 := hO4.keep bN
  replace hO11 := hO11.low s10
  clear bN hO9 hO10
  refine wpAnyH_ready (rs := [13]) (by kernel_rfl) (by simp) ?_
  refine AllReadyH.cons rfl (fun K hK => ?_) AllReadyH.nil
  go_simp
  refine Calls.mono (units_calls _ _ _ _ _ _ wd (by omega) _) ?_
  rintro r v13 ⟨rfl, bN⟩
  replace bD := below_trans bD bN
  refine hK.out _ _ (Ks.of_below bD) (fun _ => ?_)
  clear hK K
  try simp only [Act.put, List.setIfInBounds_toArray, List.set_cons_zero, List.set_cons_succ]
  replace hO4 := hO4.keep bN
  replace hO11 := hO11.keep bN
  clear bN
  replace f0 := fKeep bD z0 f0
  replace f1 := fKeep bD z1 f1
  replace f2 := fKeep bD z2 f2
  replace f3 := fKeep bD z3 f3
  replace z0 := cKeep bD z0
  replace z1 := cKeep bD z1
  replace z2 := cKeep bD z2
  replace z3 := cKeep bD z3
  have KF := ks_four (fun k => k = B + 1) v13 (B + 1) rfl (.slice a4 n4 c4) (.int .i64 (-(wd : Int))) (.slice a11 n11 c11) (.int .i64 (-(wd : Int)))
  unfold SpanV
  refine wpAnyH_ready (rs := [14]) (by kernel_rfl) (by simp) ?_
  refine AllReadyH.cons rfl (fun K hK => ?_) AllReadyH.nil
  go_simp
  refine hK.out _ _ ((Ks.of_below (S := fun k => k = B + 1) bD).trans KF) (fun _ => ?_)
  clear hK K
  try simp only [Act.put, List.setIfInBounds_toArray, List.set_cons_zero, List.set_cons_succ]
  refine wpAnyH_done (by kernel_rfl) ?_ _
  go_wp2_with fail
  subst hB
  refine bodyPost_ret (v := SpanV a4 n4 c4 a11 n11 c11 (-(wd : Int))) (by simp [results, Tryz.results64, go_sem, SpanV, z0, z1, z2, z3]) rfl ⟨a4, n4, c4, a11, n11, c11, rfl, hn4, ?_, hn11, ?_, ?_⟩
  · exact (hO4.keepS (hO4.nw.noS (by rintro b rfl; omega)) KF).low (by omega)
  · exact (hO11.keepS (hO11.nw.noS (by rintro b rfl; omega)) KF).low (by omega)
  · exact (b2.trans (bD.mono (by omega))).trans (KF.below w.heap.size (by have := bD.size; omega) (fun b e => by omega))

/-- what the enclosures' theorems ask of a constant's number -/
theorem base_k (k : Nat) (h1 : 1 ≤ k) (h7 : k ≤ 7) : base (if ov k = 0 then k else ov k) = true ∧ 1 ≤ (if ov k = 0 then k else ov k) ∧ (if ov k = 0 then k else ov k) ≤ 4 := by
  obtain ⟨a, b, c, d⟩ := base_all
  rcases (by omega : k = 1 ∨ k = 2 ∨ k = 3 ∨ k = 4 ∨ k = 5 ∨ k = 6 ∨ k = 7) with rfl | rfl | rfl | rfl | rfl | rfl | rfl
  all_goals (first | exact ⟨a, by decide, by decide⟩ | exact ⟨b, by decide, by decide⟩ | exact ⟨c, by decide, by decide⟩ | exact ⟨d, by decide, by decide⟩)

set_option maxRecDepth 100000 in
set_option maxHeartbeats 4000000 in
theorem encl_calls (k wd : Nat) (h1 : 1 ≤ k) (h7 : k ≤ 7) (h40 : 40 ≤ wd) (hwd : wd ≤ 16000) (w : World) (hT : RecT w) :
    Calls Tryz.prog 32 #[.int .u8 (k : Int), .int .i64 (wd : Int)] w fun r w' => ∃ (a : Option Addr) (n c : Nat) (a' : Option Addr) (n' c' : Nat), r = .returned (SpanV a n c a' n' c' (-(wd : Int))) ∧ n ≤ 1024 ∧ OwnW w.heap.size w' a n c (wordsOf (eLo k wd)) ∧ n' ≤ 1024 ∧ OwnW w.heap.size w' a' n' c' (wordsOf (eHi k wd)) ∧ Below w.heap.size w w' := by
  by_cases h4 : k ≤ 4
  · exact encl0_calls k wd h1 h4 h40 hwd w hT
  have hb := base_k k h1 h7
  have ho : ov k ≠ 0 := by
    rcases (by omega : k = 5 ∨ k = 6 ∨ k = 7) with rfl | rfl | rfl <;> decide
  rw [if_neg ho] at hb
  obtain ⟨hb0, hb1, hb2⟩ := hb
  have e0 : ov (ov k) = 0 := by
    rcases (by omega : k = 5 ∨ k = 6 ∨ k = 7) with rfl | rfl | rfl <;> decide
  have q1 : Hid (eLo k wd = 2 ^ (2 * wd) / dHi (ov k) wd) := by rw [Hid, eLo, if_neg ho]
  have q2 : Hid (eHi k wd = 2 ^ (2 * wd) / dLo (ov k) wd + 1) := by rw [Hid, eHi, if_neg ho]
  have r1 : eLo (ov k) wd = dLo (ov k) wd := by rw [eLo, if_pos e0]
  have r2 : eHi (ov k) wd = dHi (ov k) wd := by rw [eHi, if_pos e0]
  have lp := lo_pos (ov k) wd hb0 h40
  have l0 : 0 < 2 ^ (wd - 3) := Nat.pow_pos (by decide)
  have x0 : dLo (ov k) wd ≠ 0 := by omega
  have y0 : dHi (ov k) wd ≠ 0 := by have := lp.1; unfold dLo dHi at *; omega
  have gy : greatB (dHi (ov k) wd) = false := by
    refine cf_great (k := wd + 4) (Nat.lt_of_le_of_lt lp.2 (Nat.pow_lt_pow_right (by decide) (by omega))) (by omega)
  have gx : greatB (dLo (ov k) wd) = false := great_mono (by unfold dLo dHi; omega) gy
  clear lp l0
  have EC : Hid (∀ W, RecT W → _) := fun W hW => encl0_calls (ov k) wd hb1 hb2 h40 hwd W hW
  rw [r1, r2] at EC
  have hT0 := hT
  obtain ⟨hG, bk, ck, hR⟩ := hT
  obtain ⟨r3, -⟩ := hR k h1 h7
  rw [Nat.mul_comm] at r3
  have hob : ((ov k : Int) == 0) = false := by simp; omega
  clear hR hG r1 r2 e0 hb0 ho
  have bA := below_alloc w (.cells #[.slice none 0 0, .int .i64 0, .slice none 0 0, .int .i64 0] 63)
  have hT1 := hT0.kept bA
  generalize ov k = o at *
  have r4 := cKeep bA r3
  have FA : Hid (∀ W : World, W = w.alloc (.cells #[.slice none 0 0, .int .i64 0, .slice none 0 0, .int .i64 0] 63) → (W.cell? ⟨w.heap.size, 0, none⟩ = some (.slice none 0 0) ∧ W.frozen? ⟨w.heap.size, 0, none⟩ = false) ∧ (W.cell? ⟨w.heap.size, 1, none⟩ = some (.int .i64 0) ∧ W.frozen? ⟨w.heap.size, 1, none⟩ = false) ∧ (W.cell? ⟨w.heap.size, 2, none⟩ = some (.slice none 0 0) ∧ W.frozen? ⟨w.heap.size, 2, none⟩ = false) ∧ (W.cell? ⟨w.heap.size, 3, none⟩ = some (.int .i64 0) ∧ W.frozen? ⟨w.heap.size, 3, none⟩ = false)) := fun W hW => by
    subst hW
    exact ⟨⟨by go_simp, by go_simp⟩, ⟨by go_simp, by go_simp⟩, ⟨by go_simp, by go_simp⟩, ⟨by go_simp, by go_simp⟩⟩
  obtain ⟨⟨z0, f0⟩, ⟨z1, f1⟩, ⟨z2, f2⟩, ⟨z3, f3⟩⟩ := FA.out _ rfl
  clear FA
  go_enter Tryz.func32, Tryz.ntmps32
  go_wp2_with fail
  generalize w.alloc (.cells #[.slice none 0 0, .int .i64 0, .slice none 0 0, .int .i64 0] 63) = w0 at *
  have hz : w.heap.size < w0.heap.size := World.block_lt_of_cell? _ _ z0
  refine Calls.mono (EC.out _ hT1) ?_
  rintro r w1 ⟨a1, n1, c1, a2, n2, c2, rfl, hn1, hO1, hn2, hO2, b1⟩
  have hz1 := b1.size
  go_wp2_with fail
  refine Calls.mono (recip_calls _ _ _ _ _ _ _ _ wd _ _ hO1.1 hn1 hO2.1 hn2 gx gy x0 y0 h40 hwd) ?_
  rintro r w2 ⟨a3, n3, c3, a4, n4, c4, rfl, hn3, hO3, hn4, hO4, b2⟩
  have b3 := below_trans b1 b2
  replace f0 := fKeep b3 z0 f0
  replace f1 := fKeep b3 z1 f1
  replace f2 := fKeep b3 z2 f2
  replace f3 := fKeep b3 z3 f3
  replace z0 := cKeep b3 z0
  replace z1 := cKeep b3 z1
  replace z2 := cKeep b3 z2
  replace z3 := cKeep b3 z3
  have KF := ks_four (fun k => k = w.heap.size) w2 w.heap.size rfl (.slice a3 n3 c3) (.int .i64 (-(wd : Int))) (.slice a4 n4 c4) (.int .i64 (-(wd : Int)))
  clear hO1 hO2
  unfold SpanV
  go_wp2_with fail
  refine bodyPost_ret (v := SpanV a3 n3 c3 a4 n4 c4 (-(wd : Int))) (by simp [results, Tryz.results32, go_sem, SpanV, z0, z1, z2, z3]) rfl ⟨a3, n3, c3, a4, n4, c4, rfl, hn3, ?_, hn4, ?_, ?_⟩
  · rw [q1.out]; exact (hO3.keepS (hO3.nw.noS (by rintro b rfl; omega)) KF).low (by omega)
  · rw [q2.out]; exact (hO4.keepS (hO4.nw.noS (by rintro b rfl; omega)) KF).low (by omega)
  · exact (bA.trans (b3.mono (by omega))).trans (KF.below w.heap.size (by have := b3.size; omega) (fun b e => by omega))
end Go.Proofs.YtkkldnnndlpblaaGreatDoor
