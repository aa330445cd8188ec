/- Package consts: one divided by a constant, enclosed; every constant, enclosed. Package consts: a constant so many times, rounded down. Package consts: its bits. Package consts: its decimal digits. The statements' first question: twenty digits of pi, two bits, and too few bits. -/
import Derived.Test.YtkkldnnndlpblaaGreatDoorCFY
import Derived.BigQuiet
import Derived.Test.YtkkldnnndlpblaaGreatDoorNText
import Derived.Test.YtkkldnnndlpblaaGreatDoorCKA

namespace Go.Proofs.YtkkldnnndlpblaaGreatDoor
open Go.RowKit Ck

set_option maxRecDepth 100000 in
set_option maxHeartbeats 4000000 in
theorem recip_calls (a : Option Addr) (n c x : Nat) (a' : Option Addr) (n' c' y wd : Nat) (e : Int) (w : World) (hX : IsW w a n c (wordsOf x)) (hn : n ≤ 1024) (hY : IsW w a' n' c' (wordsOf y)) (hn' : n' ≤ 1024) (gx : greatB x = false) (gy : greatB y = false) (x0 : x ≠ 0) (y0 : y ≠ 0) (h40 : 40 ≤ wd) (hwd : wd ≤ 16000) :
    Calls Tryz.prog 64 #[SpanV a n c a' n' c' e, .int .i64 (wd : Int)] w fun r w' => ∃ (a : Option Addr) (n c : Nat) (a' : Option Addr) (n' c' : Nat), r = .returned (SpanV a n c a' n' c' (-(wd : Int))) ∧ n ≤ 1024 ∧ OwnW w.heap.size w' a n c (wordsOf (2 ^ (2 * wd) / y)) ∧ n' ≤ 1024 ∧ OwnW w.heap.size w' a' n' c' (wordsOf (2 ^ (2 * wd) / x + 1)) ∧ Below w.heap.size w w' := by
  have g1 : greatB (2 ^ (2 * wd)) = false := cf_great (k := 2 * wd + 1) (Nat.pow_lt_pow_right (by decide) (by omega)) (by omega)
  have g2 : greatB (2 ^ (2 * wd) / x + 1) = false := by
    refine cf_great (k := 2 * wd + 1) ?_ (by omega)
    have h1 := Nat.div_le_self (2 ^ (2 * wd)) x
    have h2 : 2 ^ (2 * wd + 1) = 2 ^ (2 * wd) + 2 ^ (2 * wd) := by rw [Nat.pow_succ, Nat.mul_two]
    have h3 : 1 < 2 ^ (2 * wd) := Nat.one_lt_two_pow (by omega)
    omega
  have hw : IntKind.i64.wrap (2 * (wd : Int)) = ((2 * wd : Nat) : Int) := by rw [IntKind.wrap_i64]; omega
  have bA := below_trans (below_alloc w (.cells #[.slice a n c, .int .i64 e, .slice a' n' c', .int .i64 e] 63)) (below_alloc (w.alloc (.cells #[.slice a n c, .int .i64 e, .slice a' n' c', .int .i64 e] 63)) (.cells #[.slice none 0 0, .int .i64 0, .slice none 0 0, .int .i64 0] 63))
  have hX1 := hX.keepB bA
  have hY1 := hY.keepB bA
  have FA : Hid (∀ W : World, W = ((w.alloc (.cells #[.slice a n c, .int .i64 e, .slice a' n' c', .int .i64 e] 63)).alloc (.cells #[.slice none 0 0, .int .i64 0, .slice none 0 0, .int .i64 0] 63)) → W.cell? ⟨w.heap.size, 0, none⟩ = some (.slice a n c) ∧ W.cell? ⟨w.heap.size, 2, none⟩ = some (.slice a' n' c') ∧ (W.cell? ⟨w.heap.size + 1, 0, none⟩ = some (.slice none 0 0) ∧ W.frozen? ⟨w.heap.size + 1, 0, none⟩ = false) ∧ (W.cell? ⟨w.heap.size + 1, 1, none⟩ = some (.int .i64 0) ∧ W.frozen? ⟨w.heap.size + 1, 1, none⟩ = false) ∧ (W.cell? ⟨w.heap.size + 1, 2, none⟩ = some (.slice none 0 0) ∧ W.frozen? ⟨w.heap.size + 1, 2, none⟩ = false) ∧ (W.cell? ⟨w.heap.size + 1, 3, none⟩ = some (.int .i64 0) ∧ W.frozen? ⟨w.heap.size + 1, 3, none⟩ = false)) := fun W hW => by
    subst hW
    exact ⟨by go_simp, by go_simp, ⟨by go_simp, by go_simp⟩, ⟨by go_simp, by go_simp⟩, ⟨by go_simp, by go_simp⟩, ⟨by go_simp, by go_simp⟩⟩
  obtain ⟨q0, q2, ⟨z0, f0⟩, ⟨z1, f1⟩, ⟨z2, f2⟩, ⟨z3, f3⟩⟩ := FA.out _ rfl
  clear FA hX hY
  unfold SpanV
  go_enter Tryz.func64, Tryz.ntmps64
  go_wp2_with fail
  generalize (w.alloc (.cells #[.slice a n c, .int .i64 e, .slice a' n' c', .int .i64 e] 63)).alloc (.cells #[.slice none 0 0, .int .i64 0, .slice none 0 0, .int .i64 0] 63) = w0 at *
  have hz : w.heap.size + 1 < w0.heap.size := World.block_lt_of_cell? _ _ z0
  refine Calls.mono (fOne_calls (2 * wd) w0 (by omega)) ?_
  rintro r v ⟨ao, m, d, rfl, hm, hO, b1⟩
  have b2 := (bA.trans (b1.mono (by omega)))
  have hz1 := b1.size
  replace hX1 := hX1.keepB b1
  replace hY1 := hY1.keepB b1
  replace f0 := fKeep b1 z0 f0
  replace f1 := fKeep b1 z1 f1
  replace f2 := fKeep b1 z2 f2
  replace f3 := fKeep b1 z3 f3
  replace z0 := cKeep b1 z0
  replace z1 := cKeep b1 z1
  replace z2 := cKeep b1 z2
  replace z3 := cKeep b1 z3
  replace q0 := cKeep b1 q0
  replace q2 := cKeep b1 q2
  clear b1 bA
  go_wp2_with fail
  generalize hB : w.heap.size = B at *
  have kS : Ks (fun k => k = B + 1) v v.drew := Ks.of_below ((Below.refl _ _).drew)
  have bD : Below v.heap.size v v.drew := (Below.refl _ _).drew
  refine wp_region_held (S := fun w' => Ks (fun k => k = B + 1) v w') (by kernel_rfl) ?_
  change wpAnyH _ _ _ _ _ _ _ _ (World.drew v)
  generalize World.drew v = wd0 at kS bD ⊢
  refine wpAnyH_take (i := 0) (v := .slice ao m d) rfl (by kernel_rfl) (by kernel_rfl) (by kernel_rfl) (fun _ _ _ h => h) (Or.inl ⟨by rfl, ?y0⟩) kS ?r0
  case y0 =>
    intro ww hS
    clear hS
    go_simp
    try first | (with_reducible rfl) | rfl
  try simp only [Act.put, List.setIfInBounds_toArray]
  refine wpAnyH_take (i := 1) (v := .pointer (some ⟨B, 2, none⟩)) rfl (by kernel_rfl) (by kernel_rfl) (by kernel_rfl) (fun _ _ _ h => h) (Or.inl ⟨by rfl, ?y1⟩) kS ?r1
  case y1 =>
    intro ww hS
    clear hS
    go_simp
    try first | (with_reducible rfl) | rfl
  try simp only [Act.put]
  refine wpAnyH_take (i := 2) (v := .pointer (some ⟨B, 2, none⟩)) rfl (by kernel_rfl) (by kernel_rfl) (by kernel_rfl) (fun _ _ _ h => h) (Or.inl ⟨by rfl, ?y2⟩) kS ?r2
  case y2 =>
    intro ww hS
    clear hS
    go_simp
    try first | (with_reducible rfl) | rfl
  try simp only [Act.put]
  refine wpAnyH_take (i := 3) (v := .slice a' n' c') rfl (by kernel_rfl) (by kernel_rfl) (by kernel_rfl) (fun _ _ _ h => h) (Or.inl ⟨by rfl, ?y3⟩) kS ?r3
  case y3 =>
    intro ww hS
    have q := hS.cell q2 (by show ¬ B = B + 1; omega)
    clear hS
    go_simp
    try first | (with_reducible rfl) | rfl
  try simp only [Act.put]
  refine wpAnyH_take (i := 5) (v := .slice ao m d) rfl (by kernel_rfl) (by kernel_rfl) (by kernel_rfl) (fun _ _ _ h => h) (Or.inl ⟨by rfl, ?y5⟩) kS ?r5
  case y5 =>
    intro ww hS
    clear hS
    go_simp
    try first | (with_reducible rfl) | rfl
  try simp only [Act.put]
  refine wpAnyH_take (i := 6) (v := .pointer (some ⟨B, 0, none⟩)) rfl (by kernel_rfl) (by kernel_rfl) (by kernel_rfl) (fun _ _ _ h => h) (Or.inl ⟨by rfl, ?y6⟩) kS ?r6
  case y6 =>
    intro ww hS
    clear hS
    go_simp
    try first | (with_reducible rfl) | rfl
  try simp only [Act.put]
  refine wpAnyH_take (i := 7) (v := .pointer (some ⟨B, 0, none⟩)) rfl (by kernel_rfl) (by kernel_rfl) (by kernel_rfl) (fun _ _ _ h => h) (Or.inl ⟨by rfl, ?y7⟩) kS ?r7
  case y7 =>
    intro ww hS
    clear hS
    go_simp
    try first | (with_reducible rfl) | rfl
  try simp only [Act.put]
  refine wpAnyH_take (i := 8) (v := .slice a n c) rfl (by kernel_rfl) (by kernel_rfl) (by kernel_rfl) (fun _ _ _ h => h) (Or.inl ⟨by rfl, ?y8⟩) kS ?r8
  case y8 =>
    intro ww hS
    have q := hS.cell q0 (by show ¬ B = B + 1; omega)
    clear hS
    go_simp
    try first | (with_reducible rfl) | rfl
  try simp only [Act.put]
  refine wpAnyH_take (i := 12) (v := .int .i64 (wd : Int)) rfl (by kernel_rfl) (by kernel_rfl) (by kernel_rfl) (fun _ _ _ h => h) (Or.inl ⟨by rfl, ?y12⟩) kS ?r12
  case y12 =>
    intro ww hS
    clear hS
    go_simp
    try first | (with_reducible rfl) | rfl
  try simp only [Act.put]
  refine wpAnyH_ready (rs := [4]) (by kernel_rfl) (by simp) ?_
  refine AllReadyH.cons rfl (fun K hK => ?_) AllReadyH.nil
  go_simp
  refine Calls.mono (fOver_calls (hO.keep bD).1 (hY1.keepB bD) hm hn' g1 gy y0) ?_
  rintro r v4 ⟨a4, n4, c4, rfl, hn4, hO4, bN⟩
  replace bD := below_trans bD bN
  refine hK.out _ _ (Ks.of_below bD) (fun _ => ?_)
  clear hK K
  try simp only [Act.put, List.setIfInBounds_toArray, List.set_cons_zero, List.set_cons_succ]
  have s4 := bD.size
  replace hO4 := hO4.low kS.2.2.2.1
  clear bN
  refine wpAnyH_ready (rs := [9]) (by kernel_rfl) (by simp) ?_
  refine AllReadyH.cons rfl (fun K hK => ?_) AllReadyH.nil
  go_simp
  refine Calls.mono (fOver_calls (hO.keep bD).1 (hX1.keepB bD) hm hn g1 gx x0) ?_
  rintro r v9 ⟨a9, n9, c9, rfl, hn9, hO9, bN⟩
  replace bD := below_trans bD bN
  refine hK.out _ _ (Ks.of_below bD) (fun _ => ?_)
  clear hK K
  try simp only [Act.put, List.setIfInBounds_toArray, List.set_cons_zero, List.set_cons_succ]
  have s9 := bD.size
  replace hO4 := hO4.keep bN
  clear bN
  refine wpAnyH_ready (rs := [10]) (by kernel_rfl) (by simp) ?_
  refine AllReadyH.cons rfl (fun K hK => ?_) AllReadyH.nil
  go_simp
  refine Calls.mono (cof_eq 1 rfl (by omega)) ?_
  rintro r v10 ⟨a10, n10, c10, rfl, hn10, hO10, bN⟩
  replace bD := below_trans bD bN
  refine hK.out _ _ (Ks.of_below bD) (fun _ => ?_)
  clear hK K
  try simp only [Act.put, List.setIfInBounds_toArray, List.set_cons_zero, List.set_cons_succ]
  have s10 := bD.size
  replace hO4 := hO4.keep bN
  replace hO9 := hO9.keep bN
  clear bN
  refine wpAnyH_ready (rs := [11]) (by kernel_rfl) (by simp) ?_
  refine AllReadyH.cons rfl (fun K hK => ?_) AllReadyH.nil
  go_simp
  refine Calls.mono (fPlus_calls hO9.1 hO10.1 hn9 hn10 g2) ?_
  rintro r v11 ⟨a11, n11, c11, rfl, hn11, hO11, bN⟩
  replace bD := below_trans bD bN
  refine hK.out _ _ (Ks.of_below bD) (fun _ => ?_)
  clear hK K
  try simp only [Act.put, List.setIfInBounds_toArray, List.set_cons_zero, List.set_cons_succ]
  have s11 := bD.size
  replace hO4 := hO4.keep bN
  replace hO11 := hO11.low s10
  clear bN hO9 hO10
  refine wpAnyH_ready (rs := [13]) (by kernel_rfl) (by simp) ?_
  refine AllReadyH.cons rfl (fun K hK => ?_) AllReadyH.nil
  go_simp
  refine Calls.mono (units_calls _ _ _ _ _ _ wd (by omega) _) ?_
  rintro r v13 ⟨rfl, bN⟩
  replace bD := below_trans bD bN
  refine hK.out _ _ (Ks.of_below bD) (fun _ => ?_)
  clear hK K
  try simp only [Act.put, List.setIfInBounds_toArray, List.set_cons_zero, List.set_cons_succ]
  replace hO4 := hO4.keep bN
  replace hO11 := hO11.keep bN
  clear bN
  replace f0 := fKeep bD z0 f0
  replace f1 := fKeep bD z1 f1
  replace f2 := fKeep bD z2 f2
  replace f3 := fKeep bD z3 f3
  replace z0 := cKeep bD z0
  replace z1 := cKeep bD z1
  replace z2 := cKeep bD z2
  replace z3 := cKeep bD z3
  have KF := ks_four (fun k => k = B + 1) v13 (B + 1) rfl (.slice a4 n4 c4) (.int .i64 (-(wd : Int))) (.slice a11 n11 c11) (.int .i64 (-(wd : Int)))
  unfold SpanV
  refine wpAnyH_ready (rs := [14]) (by kernel_rfl) (by simp) ?_
  refine AllReadyH.cons rfl (fun K hK => ?_) AllReadyH.nil
  go_simp
  refine hK.out _ _ ((Ks.of_below (S := fun k => k = B + 1) bD).trans KF) (fun _ => ?_)
  clear hK K
  try simp only [Act.put, List.setIfInBounds_toArray, List.set_cons_zero, List.set_cons_succ]
  refine wpAnyH_done (by kernel_rfl) ?_ _
  go_wp2_with fail
  subst hB
  refine bodyPost_ret (v := SpanV a4 n4 c4 a11 n11 c11 (-(wd : Int))) (by simp [results, Tryz.results64, go_sem, SpanV, z0, z1, z2, z3]) rfl ⟨a4, n4, c4, a11, n11, c11, rfl, hn4, ?_, hn11, ?_, ?_⟩
  · exact (hO4.keepS (hO4.nw.noS (by rintro b rfl; omega)) KF).low (by omega)
  · exact (hO11.keepS (hO11.nw.noS (by rintro b rfl; omega)) KF).low (by omega)
  · exact (b2.trans (bD.mono (by omega))).trans (KF.below w.heap.size (by have := bD.size; omega) (fun b e => by omega))

/-- what the enclosures' theorems ask of a constant's number -/
theorem base_k (k : Nat) (h1 : 1 ≤ k) (h7 : k ≤ 7) : base (if ov k = 0 then k else ov k) = true ∧ 1 ≤ (if ov k = 0 then k else ov k) ∧ (if ov k = 0 then k else ov k) ≤ 4 := by
  obtain ⟨a, b, c, d⟩ := base_all
  rcases (by omega : k = 1 ∨ k = 2 ∨ k = 3 ∨ k = 4 ∨ k = 5 ∨ k = 6 ∨ k = 7) with rfl | rfl | rfl | rfl | rfl | rfl | rfl
  all_goals (first | exact ⟨a, by decide, by decide⟩ | exact ⟨b, by decide, by decide⟩ | exact ⟨c, by decide, by decide⟩ | exact ⟨d, by decide, by decide⟩)

set_option maxRecDepth 100000 in
set_option maxHeartbeats 4000000 in
theorem encl_calls (k wd : Nat) (h1 : 1 ≤ k) (h7 : k ≤ 7) (h40 : 40 ≤ wd) (hwd : wd ≤ 16000) (w : World) (hT : RecT w) :
    Calls Tryz.prog 32 #[.int .u8 (k : Int), .int .i64 (wd : Int)] w fun r w' => ∃ (a : Option Addr) (n c : Nat) (a' : Option Addr) (n' c' : Nat), r = .returned (SpanV a n c a' n' c' (-(wd : Int))) ∧ n ≤ 1024 ∧ OwnW w.heap.size w' a n c (wordsOf (eLo k wd)) ∧ n' ≤ 1024 ∧ OwnW w.heap.size w' a' n' c' (wordsOf (eHi k wd)) ∧ Below w.heap.size w w' := by
  by_cases h4 : k ≤ 4
  · exact encl0_calls k wd h1 h4 h40 hwd w hT
  have hb := base_k k h1 h7
  have ho : ov k ≠ 0 := by
    rcases (by omega : k = 5 ∨ k = 6 ∨ k = 7) with rfl | rfl | rfl <;> decide
  rw [if_neg ho] at hb
  obtain ⟨hb0, hb1, hb2⟩ := hb
  have e0 : ov (ov k) = 0 := by
    rcases (by omega : k = 5 ∨ k = 6 ∨ k = 7) with rfl | rfl | rfl <;> decide
  have q1 : Hid (eLo k wd = 2 ^ (2 * wd) / dHi (ov k) wd) := by rw [Hid, eLo, if_neg ho]
  have q2 : Hid (eHi k wd = 2 ^ (2 * wd) / dLo (ov k) wd + 1) := by rw [Hid, eHi, if_neg ho]
  have r1 : eLo (ov k) wd = dLo (ov k) wd := by rw [eLo, if_pos e0]
  have r2 : eHi (ov k) wd = dHi (ov k) wd := by rw [eHi, if_pos e0]
  have lp := lo_pos (ov k) wd hb0 h40
  have l0 : 0 < 2 ^ (wd - 3) := Nat.pow_pos (by decide)
  have x0 : dLo (ov k) wd ≠ 0 := by omega
  have y0 : dHi (ov k) wd ≠ 0 := by have := lp.1; unfold dLo dHi at *; omega
  have gy : greatB (dHi (ov k) wd) = false := by
    refine cf_great (k := wd + 4) (Nat.lt_of_le_of_lt lp.2 (Nat.pow_lt_pow_right (by decide) (by omega))) (by omega)
  have gx : greatB (dLo (ov k) wd) = false := great_mono (by unfold dLo dHi; omega) gy
  clear lp l0
  have EC : Hid (∀ W, RecT W → _) := fun W hW => encl0_calls (ov k) wd hb1 hb2 h40 hwd W hW
  rw [r1, r2] at EC
  have hT0 := hT
  obtain ⟨hG, bk, ck, hR⟩ := hT
  obtain ⟨r3, -⟩ := hR k h1 h7
  rw [Nat.mul_comm] at r3
  have hob : ((ov k : Int) == 0) = false := by simp; omega
  clear hR hG r1 r2 e0 hb0 ho
  have bA := below_alloc w (.cells #[.slice none 0 0, .int .i64 0, .slice none 0 0, .int .i64 0] 63)
  have hT1 := hT0.kept bA
  generalize ov k = o at *
  have r4 := cKeep bA r3
  have FA : Hid (∀ W : World, W = w.alloc (.cells #[.slice none 0 0, .int .i64 0, .slice none 0 0, .int .i64 0] 63) → (W.cell? ⟨w.heap.size, 0, none⟩ = some (.slice none 0 0) ∧ W.frozen? ⟨w.heap.size, 0, none⟩ = false) ∧ (W.cell? ⟨w.heap.size, 1, none⟩ = some (.int .i64 0) ∧ W.frozen? ⟨w.heap.size, 1, none⟩ = false) ∧ (W.cell? ⟨w.heap.size, 2, none⟩ = some (.slice none 0 0) ∧ W.frozen? ⟨w.heap.size, 2, none⟩ = false) ∧ (W.cell? ⟨w.heap.size, 3, none⟩ = some (.int .i64 0) ∧ W.frozen? ⟨w.heap.size, 3, none⟩ = false)) := fun W hW => by
    subst hW
    exact ⟨⟨by go_simp, by go_simp⟩, ⟨by go_simp, by go_simp⟩, ⟨by go_simp, by go_simp⟩, ⟨by go_simp, by go_simp⟩⟩
  obtain ⟨⟨z0, f0⟩, ⟨z1, f1⟩, ⟨z2, f2⟩, ⟨z3, f3⟩⟩ := FA.out _ rfl
  clear FA
  go_enter Tryz.func32, Tryz.ntmps32
  go_wp2_with fail
  generalize w.alloc (.cells #[.slice none 0 0, .int .i64 0, .slice none 0 0, .int .i64 0] 63) = w0 at *
  have hz : w.heap.size < w0.heap.size := World.block_lt_of_cell? _ _ z0
  refine Calls.mono (EC.out _ hT1) ?_
  rintro r w1 ⟨a1, n1, c1, a2, n2, c2, rfl, hn1, hO1, hn2, hO2, b1⟩
  have hz1 := b1.size
  go_wp2_with fail
  refine Calls.mono (recip_calls _ _ _ _ _ _ _ _ wd _ _ hO1.1 hn1 hO2.1 hn2 gx gy x0 y0 h40 hwd) ?_
  rintro r w2 ⟨a3, n3, c3, a4, n4, c4, rfl, hn3, hO3, hn4, hO4, b2⟩
  have b3 := below_trans b1 b2
  replace f0 := fKeep b3 z0 f0
  replace f1 := fKeep b3 z1 f1
  replace f2 := fKeep b3 z2 f2
  replace f3 := fKeep b3 z3 f3
  replace z0 := cKeep b3 z0
  replace z1 := cKeep b3 z1
  replace z2 := cKeep b3 z2
  replace z3 := cKeep b3 z3
  have KF := ks_four (fun k => k = w.heap.size) w2 w.heap.size rfl (.slice a3 n3 c3) (.int .i64 (-(wd : Int))) (.slice a4 n4 c4) (.int .i64 (-(wd : Int)))
  clear hO1 hO2
  unfold SpanV
  go_wp2_with fail
  refine bodyPost_ret (v := SpanV a3 n3 c3 a4 n4 c4 (-(wd : Int))) (by simp [results, Tryz.results32, go_sem, SpanV, z0, z1, z2, z3]) rfl ⟨a3, n3, c3, a4, n4, c4, rfl, hn3, ?_, hn4, ?_, ?_⟩
  · rw [q1.out]; exact (hO3.keepS (hO3.nw.noS (by rintro b rfl; omega)) KF).low (by omega)
  · rw [q2.out]; exact (hO4.keepS (hO4.nw.noS (by rintro b rfl; omega)) KF).low (by omega)
  · exact (bA.trans (b3.mono (by omega))).trans (KF.below w.heap.size (by have := b3.size; omega) (fun b e => by omega))

end Go.Proofs.YtkkldnnndlpblaaGreatDoor

namespace Go.Proofs.YtkkldnnndlpblaaGreatDoor
open Go.RowKit Ck

set_option maxRecDepth 100000 in
set_option maxHeartbeats 1000000 in
theorem sEqual_calls (a a' : Option Addr) (len cap len' cap' : Nat) (xs ys : List Int) (w : World) (h : IsW w a len cap xs) (h' : IsW w a' len' cap' ys) (hm : len ≤ 17592186044416) (hm' : len' ≤ 17592186044416) :
    Calls Tryz.prog 86 #[.slice a len cap, .slice a' len' cap'] w fun e w' => e = .returned (.bool (decide (xs = ys))) ∧ Below w.heap.size w w' := by
  have HL : Hid (len = xs.length) := h.1
  have HL' : Hid (len' = ys.length) := h'.1
  by_cases hl : len = len'
  · subst hl
    go_enter Tryz.func86, Tryz.ntmps86
    go_wp2
    go_loopw [13] (fun i wr => ∃ k : Nat, k ≤ len ∧ i = .int .i64 k ∧ xs.take k = ys.take k ∧ IsW wr a len cap xs ∧ IsW wr a' len cap' ys ∧ Below w.heap.size w wr) (fun i _ => len - (intOf i).toNat)
    case atStart => exact ⟨0, by omega, rfl, by simp, h, h', Below.refl _ _⟩
    case round =>
      obtain ⟨k, hk, rfl, ht, hW, hW', hbr⟩ := hrel
      clear h h'
      have HT : Hid (xs.take k = ys.take k) := ht
      clear ht
      by_cases hlt : k < len
      · obtain ⟨b, off, ha, _, hc⟩ := hW.2.2.2 k hlt
        obtain ⟨b', off', ha', _, hc'⟩ := hW'.2.2.2 k hlt
        obtain ⟨x, hx⟩ : ∃ x, x = xs.getD k 0 := ⟨_, rfl⟩
        obtain ⟨y, hy⟩ : ∃ y, y = ys.getD k 0 := ⟨_, rfl⟩
        rw [← hx] at hc
        rw [← hy] at hc'
        have e1 : xs.take (k + 1) = xs.take k ++ [x] := by
          have := HL.out
          rw [hx, List.take_succ_eq_append_getElem (by omega)]; simp [List.getD, show k < xs.length by omega]
        have e2 : ys.take (k + 1) = ys.take k ++ [y] := by
          have := HL'.out
          rw [hy, List.take_succ_eq_append_getElem (by omega)]; simp [List.getD, show k < ys.length by omega]
        subst ha ha'
        by_cases hxy : x = y
        · have d : (x != y) = false := by simp [hxy]
          have HT' : Hid (xs.take (k + 1) = ys.take (k + 1)) := by rw [Hid, e1, e2, HT.out, hxy]
          clear hx hy e1 e2 hxy
          go_wp2
          go_quiet (fail)
          go_wp2
          go_roundw
          case rel => exact ⟨k + 1, by omega, by go_num, HT'.out, hW, hW', below_drewN hbr nq⟩
          case measure => simp [intOf]; omega
        · have d : (x != y) = true := by simp [hxy]
          have HV : Hid (decide (xs = ys) = false) := by
            rw [Hid, decide_eq_false_iff_not]; intro e; rw [hx, hy, e] at hxy; exact hxy rfl
          clear hx hy e1 e2 hxy
          go_wp2
          go_quiet (fail)
          go_wp2
          go_ret
          exact ⟨nret_bool HV.out.symm, below_drewN hbr nq⟩
      · have HV : Hid (decide (xs = ys) = true) := by
          have h1 := HT.out
          rw [List.take_of_length_le (by have := HL.out; omega), List.take_of_length_le (by have := HL'.out; omega)] at h1
          rw [Hid]; simpa using h1
        go_wp2
        go_ret
        exact ⟨nret_bool HV.out.symm, hbr⟩
  · have d : ((len : Int) != (len' : Int)) = true := by simp; omega
    have HV : Hid (decide (xs = ys) = false) := by
      rw [Hid, decide_eq_false_iff_not]; intro e; apply hl; rw [HL.out, HL'.out, e]
    clear hl
    go_enter Tryz.func86, Tryz.ntmps86
    go_wp2
    go_ret
    exact ⟨nret_bool HV.out.symm, Below.refl _ _⟩

theorem e_lt (k wd : Nat) (h1 : 1 ≤ k) (h7 : k ≤ 7) (h40 : 40 ≤ wd) : eHi k wd < 2 ^ (wd + 5) ∧ eLo k wd ≤ eHi k wd ∧ 2 ^ (wd - 3) ≤ eLo k wd := by
  have hb := (base_k k h1 h7).1
  have p3 : (2 : Nat) ^ (wd + 3) < 2 ^ (wd + 5) := Nat.pow_lt_pow_right (by decide) (by omega)
  unfold eHi eLo
  by_cases h : ov k = 0
  · rw [if_pos h] at hb
    rw [if_pos h, if_pos h]
    have := lo_pos k wd hb h40
    refine ⟨by omega, by unfold dLo dHi; omega, by omega⟩
  · rw [if_neg h] at hb
    rw [if_neg h, if_neg h]
    obtain ⟨a1, a2⟩ := lo_pos (ov k) wd hb h40
    have l0 : 0 < 2 ^ (wd - 3) := Nat.pow_pos (by decide)
    have ld : dLo (ov k) wd ≤ dHi (ov k) wd := by unfold dLo dHi; omega
    have e1 : 2 ^ (2 * wd) = 2 ^ (wd + 3) * 2 ^ (wd - 3) := by rw [← Nat.pow_add]; congr 1; omega
    have e2 : 2 ^ (2 * wd) = 2 ^ (wd - 3) * 2 ^ (wd + 3) := by rw [← Nat.pow_add]; congr 1; omega
    have d1 : 2 ^ (2 * wd) / dLo (ov k) wd ≤ 2 ^ (wd + 3) := by
      refine Nat.div_le_of_le_mul ?_
      rw [e2]
      exact Nat.mul_le_mul_right _ a1
    have d2 : 2 ^ (2 * wd) / dHi (ov k) wd ≤ 2 ^ (2 * wd) / dLo (ov k) wd := Nat.div_le_div_left ld (by omega)
    have d3 : 2 ^ (wd - 3) ≤ 2 ^ (2 * wd) / dHi (ov k) wd := by
      rw [Nat.le_div_iff_mul_le (by omega), e2]
      exact Nat.mul_le_mul_left _ a2
    have p5 : (2 : Nat) ^ (wd + 5) = 2 ^ (wd + 3) * 4 := by rw [show wd + 5 = wd + 3 + 2 by omega, Nat.pow_add]
    have p6 : 0 < 2 ^ (wd + 3) := Nat.pow_pos (by decide)
    refine ⟨by omega, by omega, by omega⟩

/-- what both ends so many times are, rounded down, where that is one number -/
def TW (k F q : Nat) : Prop := ∃ wd, 40 ≤ wd ∧ wd ≤ 8192 ∧ eLo k wd * F / 2 ^ wd = q ∧ eHi k wd * F / 2 ^ wd = q

theorem words_inj {x y : Nat} (h : wordsOf x = wordsOf y) : x = y := by rw [← val_words x, ← val_words y, h]

set_option maxRecDepth 100000 in
set_option maxHeartbeats 4000000 in
theorem whole_calls (k F : Nat) (h1 : 1 ≤ k) (h7 : k ≤ 7) (hF : blen F ≤ 2100) (a : Option Addr) (n c : Nat) (w : World) (h : IsW w a n c (wordsOf F)) (hn : n ≤ 1024) (hT : RecT w) :
    Calls Tryz.prog 44 #[.int .u8 (k : Int), .slice a n c] w fun r w' => ((∃ (ao : Option Addr) (m d q : Nat), r = .returned (.tuple #[.slice ao m d, .int .i64 0]) ∧ m ≤ 1024 ∧ OwnW w.heap.size w' ao m d (wordsOf q) ∧ TW k F q) ∨ (r = .returned (.tuple #[.slice none 0 0, .int .i64 6]) ∧ eLo k 8192 * F / 2 ^ 8192 ≠ eHi k 8192 * F / 2 ^ 8192)) ∧ Below w.heap.size w w' := by
  have gF : greatB F = false := (great_not F).2 (by omega)
  have LC : Hid _ := len_calls a n c (wordsOf F) w h (by omega)
  rw [val_words] at LC
  go_enter Tryz.func44, Tryz.ntmps44
  go_wp2_with fail
  refine Calls.mono LC.out ?_
  rintro r w1 ⟨-, hr, b1⟩
  obtain rfl := hr gF
  clear hr LC
  have h2 := h.keepB b1
  have hT2 := hT.kept b1
  have hwl : IntKind.i64.wrap ((blen F : Int) + 64) = ((blen F + 64 : Nat) : Int) := by rw [IntKind.wrap_i64]; omega
  clear h hT
  have HFL : Hid (F < 2 ^ 2100) := by
    obtain ⟨X, hX⟩ : ∃ X : Nat, X = 2100 := ⟨_, rfl⟩
    rw [Hid, ← hX]
    exact (blen_le F X).1 (by omega)
  obtain ⟨L, hL⟩ : ∃ L, L = blen F + 64 := ⟨_, rfl⟩
  rw [← hL] at hwl
  have hL1 : 40 ≤ L := by omega
  have hL2 : L ≤ 8192 := by omega
  have HLB : Hid (L = blen F + 64) := hL
  clear hL
  obtain ⟨BF, hBF⟩ : ∃ BF : Nat, BF = blen F := ⟨_, rfl⟩
  rw [← hBF] at hwl ⊢
  clear hBF
  go_wp2_with fail
  go_loopw [8, 9, 10, 11] (fun vw _ _ _ wr => ∃ wd : Nat, 40 ≤ wd ∧ wd ≤ 8192 ∧ vw = .int .i64 (wd : Int) ∧ Below w1.heap.size w1 wr) (fun vw _ _ _ _ => 8192 - (intOf vw).toNat)
  case atStart => exact ⟨L, hL1, hL2, rfl, Below.refl _ _⟩
  case round =>
    obtain ⟨wd, hw1, hw2, rfl, hb⟩ := hrel
    have h3 := h2.keepB hb
    have EC : Hid _ := encl_calls k wd h1 h7 hw1 (by omega) wr (hT2.kept hb)
    have hz := hb.size
    go_wp2_with fail
    refine Calls.mono EC.out ?_
    rintro r w2 ⟨a1, n1, c1, a2, n2, c2, rfl, hn1, hO1, hn2, hO2, b2⟩
    have hz2 := b2.size
    obtain ⟨e1, e2, -⟩ := e_lt k wd h1 h7 hw1
    have gH : greatB (eHi k wd) = false := cf_great e1 (by omega)
    have gL : greatB (eLo k wd) = false := great_mono e2 gH
    have gHF : greatB (eHi k wd * F) = false := by
      obtain ⟨X, hX⟩ : ∃ X : Nat, X = 2100 := ⟨_, rfl⟩
      have hf := HFL.out
      rw [← hX] at hf
      refine cf_great (k := wd + 5 + X) ?_ (by omega)
      rw [Nat.pow_add]
      exact Nat.mul_lt_mul_of_lt_of_le e1 (Nat.le_of_lt hf) (Nat.pow_pos (by decide))
    have gLF : greatB (eLo k wd * F) = false := great_mono (Nat.mul_le_mul_right _ e2) gHF
    clear e1 e2
    have bV := below_alloc w2 (.cells #[.slice a1 n1 c1, .int .i64 (-(wd : Int)), .slice a2 n2 c2, .int .i64 (-(wd : Int))] 63)
    have v0 : (w2.alloc (.cells #[.slice a1 n1 c1, .int .i64 (-(wd : Int)), .slice a2 n2 c2, .int .i64 (-(wd : Int))] 63)).cell? ⟨w2.heap.size, 0, none⟩ = some (.slice a1 n1 c1) := by go_simp
    have v2 : (w2.alloc (.cells #[.slice a1 n1 c1, .int .i64 (-(wd : Int)), .slice a2 n2 c2, .int .i64 (-(wd : Int))] 63)).cell? ⟨w2.heap.size, 2, none⟩ = some (.slice a2 n2 c2) := by go_simp
    have bb := below_trans b2 bV
    have h4 := (h3.keepB b2).keepB bV
    replace hO1 := hO1.keep bV
    replace hO2 := hO2.keep bV
    have hn1w : IntKind.i64.wrap (-(wd : Int)) = -(wd : Int) := by rw [IntKind.wrap_i64]; omega
    obtain ⟨A, hA⟩ : ∃ A, A = eLo k wd * F / 2 ^ wd := ⟨_, rfl⟩
    obtain ⟨B, hB⟩ : ∃ B, B = eHi k wd * F / 2 ^ wd := ⟨_, rfl⟩
    have HA : Hid (A = eLo k wd * F / 2 ^ wd) := hA
    have HB : Hid (B = eHi k wd * F / 2 ^ wd) := hB
    clear b2 bV EC h3 hA hB
    unfold SpanV
    go_wp2_with fail
    generalize w2.alloc (.cells #[.slice a1 n1 c1, .int .i64 (-(wd : Int)), .slice a2 n2 c2, .int .i64 (-(wd : Int))] 63) = w3 at *
    generalize w2.heap.size = V at *
    refine Calls.mono (fTimes_calls hO1.1 h4 hn1 hn gL gF gLF) ?_
    rintro r w4 ⟨a3, n3, c3, rfl, hn3, hO3, b3⟩
    have v2' := cKeep b3 v2
    have v0' := cKeep b3 v0
    go_wp2_with fail
    refine Calls.mono (fShr_calls (k := wd) hO3.1 hn3 (by omega) (by omega) rfl gLF) ?_
    rintro r w5 ⟨a4, n4, c4, rfl, hn4, hO4, b4⟩
    rw [← HA.out] at hO4
    have b5 := below_trans (below_trans bb b3) b4
    have v2'' := cKeep b4 v2'
    replace hO2 := (hO2.keep b3).keep b4
    replace h4 := (h4.keepB b3).keepB b4
    have z4 : wr.heap.size ≤ w4.heap.size := (below_trans bb b3).size
    replace hO4 := hO4.low z4
    clear b3 b4 bb v0 v2 v0' v2' hO1 hO3
    go_wp2_with fail
    refine Calls.mono (fTimes_calls hO2.1 h4 hn2 hn gH gF gHF) ?_
    rintro r w6 ⟨a5, n5, c5, rfl, hn5, hO5, b6⟩
    replace hO4 := hO4.keep b6
    go_wp2_with fail
    refine Calls.mono (fShr_calls (k := wd) hO5.1 hn5 (by omega) (by omega) rfl gHF) ?_
    rintro r w7 ⟨a6, n6, c6, rfl, hn6, hO6, b7⟩
    rw [← HB.out] at hO6
    replace hO4 := hO4.keep b7
    have b8 := below_trans (below_trans b5 b6) b7
    clear hO5 hO2 h4 b5 b6 b7
    have SE : Hid _ := sEqual_calls a4 a6 n4 c4 n6 c6 _ _ w7 hO4.1 hO6.1 (by omega) (by omega)
    go_wp2_with fail
    refine Calls.mono SE.out ?_
    rintro r w8 ⟨rfl, b9⟩
    replace hO4 := hO4.keep b9
    replace b8 := below_trans b8 b9
    have bW := nbelow_trans b1 (nbelow_trans hb b8)
    by_cases hq : wordsOf A = wordsOf B
    · have hd : decide (wordsOf A = wordsOf B) = true := decide_eq_true hq
      rw [hd]
      have hAB := words_inj hq
      clear SE hq hd b9
      go_wp2_with fail
      go_ret2
      exact ⟨Or.inl ⟨a4, n4, c4, A, rfl, hn4, hO4.low (Nat.le_trans b1.size hz), ⟨wd, hw1, hw2, HA.out.symm, by rw [← HB.out, hAB]⟩⟩, bW⟩
    · have hd : decide (wordsOf A = wordsOf B) = false := decide_eq_false hq
      rw [hd]
      by_cases h8 : wd = 8192
      · have HQ : Hid (wordsOf A ≠ wordsOf B) := hq
        subst h8
        clear SE hq hd b9
        go_wp2_with fail
        go_ret2
        refine ⟨Or.inr ⟨rfl, fun e => HQ.out ?_⟩, bW⟩
        rw [HA.out, HB.out, e]
      · have h9 : ((wd : Int) == 8192) = false := by simp; omega
        have hw9 : IntKind.i64.wrap (2 * (wd : Int)) = 2 * (wd : Int) := by rw [IntKind.wrap_i64]; omega
        have b10 := hb.trans (b8.mono hz)
        clear SE hq hd b9 bW b8 hb
        go_wp2_with fail
        go_roundw
        case rel => exact ⟨min (2 * wd) 8192, by omega, by omega, by congr 1; omega, b10⟩
        case measure => simp only [intOf]; omega

end Go.Proofs.YtkkldnnndlpblaaGreatDoor

namespace Go.Proofs.YtkkldnnndlpblaaGreatDoor
open Go.RowKit Ck

def knB (k : Int) : Bool := decide (1 ≤ k ∧ k ≤ 7)

set_option maxRecDepth 100000 in
set_option maxHeartbeats 1000000 in
theorem known_calls (k : Int) (h0 : 0 ≤ k) (h1 : k ≤ 255) (w : World) :
    Calls Tryz.prog 31 #[.int .u8 k] w fun r w' => r = .returned (.bool (knB k)) ∧ w' = w := by
  by_cases c1 : 0 < k
  · by_cases c2 : k < 8
    · have hd : Hid (knB k = true) := decide_eq_true (by omega)
      go_enter Tryz.func31, Tryz.ntmps31
      go_wp2_with fail
      go_ret
      rw [hd.out]
      exact ⟨rfl, rfl⟩
    · have hd : Hid (knB k = false) := decide_eq_false (by omega)
      go_enter Tryz.func31, Tryz.ntmps31
      go_wp2_with fail
      go_ret
      rw [hd.out]
      exact ⟨rfl, rfl⟩
  · have hd : Hid (knB k = false) := decide_eq_false (by omega)
    go_enter Tryz.func31, Tryz.ntmps31
    go_wp2_with fail
    go_ret
    rw [hd.out]
    exact ⟨rfl, rfl⟩

/-- a constant and a number of bits or digits that may be asked for -/
def askB (k n M : Int) : Prop := 1 ≤ k ∧ k ≤ 7 ∧ 1 ≤ n ∧ n ≤ M

set_option maxRecDepth 100000 in
set_option maxHeartbeats 2000000 in
theorem bitsC_calls (k n : Int) (h0 : 0 ≤ k) (h1 : k ≤ 255) (w : World) (hT : RecT w) :
    Calls Tryz.prog 18 #[.int .u8 k, .int .i64 n] w fun r w' => ((¬ askB k n 1984 ∧ r = .returned (.tuple #[.slice none 0 0, .int .i64 2])) ∨ (∃ K N : Nat, k = (K : Int) ∧ n = (N : Int) ∧ 1 ≤ K ∧ K ≤ 7 ∧ 1 ≤ N ∧ N ≤ 1984 ∧ ((∃ (ao : Option Addr) (m d q : Nat), r = .returned (.tuple #[.slice ao m d, .int .i64 0]) ∧ m ≤ 1024 ∧ OwnW w.heap.size w' ao m d (wordsOf q) ∧ TW K (2 ^ N) q) ∨ (r = .returned (.tuple #[.slice none 0 0, .int .i64 6]) ∧ eLo K 8192 * 2 ^ N / 2 ^ 8192 ≠ eHi K 8192 * 2 ^ N / 2 ^ 8192)))) ∧ Below w.heap.size w w' := by
  by_cases hg : askB k n 1984
  · obtain ⟨g1, g2, g3, g4⟩ := hg
    obtain ⟨K, rfl⟩ := Int.eq_ofNat_of_zero_le h0
    obtain ⟨N, rfl⟩ := Int.eq_ofNat_of_zero_le (show 0 ≤ n by omega)
    have hd : knB (K : Int) = true := decide_eq_true (by omega)
    have hl : blen (2 ^ N) ≤ 2100 := by
      obtain ⟨X, hX⟩ : ∃ X : Nat, X = 2100 := ⟨_, rfl⟩
      rw [← hX]
      exact (blen_le _ _).2 (Nat.pow_lt_pow_right (by decide) (by omega))
    have HL : Hid _ := hl
    have HD : Hid _ := hd
    clear hl hd
    go_enter Tryz.func18, Tryz.ntmps18
    go_wp2_with fail
    refine Calls.mono (known_calls _ h0 h1 _) ?_
    rintro r w1 ⟨rfl, rfl⟩
    rw [HD.out]
    have j1 : ¬ (N : Int) < 1 := by omega
    have j2 : ¬ (1984 : Int) < (N : Int) := by omega
    go_wp2_with fail
    refine Calls.mono (fOne_calls N _ (by omega)) ?_
    rintro r w2 ⟨ao, m, d, rfl, hm, hO, b1⟩
    have hz := b1.size
    go_wp2_with fail
    refine Calls.mono (whole_calls K (2 ^ N) (by omega) (by omega) HL.out _ _ _ _ hO.1 hm (hT.kept b1)) ?_
    rintro r w3 ⟨hr, b2⟩
    have b3 := below_trans b1 b2
    rcases hr with ⟨a3, m3, d3, q, rfl, hm3, hO3, ht⟩ | ⟨rfl, hne⟩
    · have HT : Hid _ := ht
      clear ht
      go_wp2_with fail
      go_ret2
      exact ⟨Or.inr ⟨K, N, rfl, rfl, by omega, by omega, by omega, by omega, Or.inl ⟨a3, m3, d3, q, rfl, hm3, hO3.low hz, HT.out⟩⟩, b3⟩
    · have HT : Hid _ := hne
      clear hne
      go_wp2_with fail
      go_ret2
      exact ⟨Or.inr ⟨K, N, rfl, rfl, by omega, by omega, by omega, by omega, Or.inr ⟨rfl, HT.out⟩⟩, b3⟩
  · have HG : Hid (¬ askB k n 1984) := hg
    by_cases c1 : 1 ≤ k ∧ k ≤ 7
    · have hd : knB k = true := decide_eq_true c1
      have c2 : n < 1 ∨ 1984 < n := by
        unfold askB at hg
        omega
      clear hg
      have HD : Hid _ := hd
      clear hd c1
      by_cases c3 : n < 1
      · clear c2
        go_enter Tryz.func18, Tryz.ntmps18
        go_wp2_with fail
        refine Calls.mono (known_calls _ h0 h1 _) ?_
        rintro r w1 ⟨rfl, rfl⟩
        rw [HD.out]
        go_wp2_with fail
        go_ret2
        exact ⟨Or.inl ⟨HG.out, rfl⟩, Below.refl _ _⟩
      · have c4 : 1984 < n := by omega
        clear c2
        go_enter Tryz.func18, Tryz.ntmps18
        go_wp2_with fail
        refine Calls.mono (known_calls _ h0 h1 _) ?_
        rintro r w1 ⟨rfl, rfl⟩
        rw [HD.out]
        go_wp2_with fail
        go_ret2
        exact ⟨Or.inl ⟨HG.out, rfl⟩, Below.refl _ _⟩
    · have hd : knB k = false := decide_eq_false c1
      have HD : Hid _ := hd
      clear hd hg c1
      go_enter Tryz.func18, Tryz.ntmps18
      go_wp2_with fail
      refine Calls.mono (known_calls _ h0 h1 _) ?_
      rintro r w1 ⟨rfl, rfl⟩
      rw [HD.out]
      go_wp2_with fail
      go_ret2
      exact ⟨Or.inl ⟨HG.out, rfl⟩, Below.refl _ _⟩

end Go.Proofs.YtkkldnnndlpblaaGreatDoor

namespace Go.Proofs.YtkkldnnndlpblaaGreatDoor
open Go.RowKit Ck

theorem ba_app (a b : ByteArray) : (a ++ b).data.toList = a.data.toList ++ b.data.toList := by
  rw [ByteArray.data_append, Array.toList_append]

theorem ba_ext (a : ByteArray) (i j : Nat) : (a.extract i j).data.toList = (a.data.toList.drop i).take (j - i) := by
  rw [ByteArray.data_extract, Array.toList_extract, List.extract_eq_take_drop]

/-- the digits of a number, with noughts ahead, so that more than n are there -/
def dgL (n q : Nat) : List UInt8 := List.replicate (n + 1 - Lib.nDigits q) 48 ++ Lib.decDigits q

/-- the digits, with a point ahead of the last n -/
def dgT (n q : Nat) : List UInt8 := (dgL n q).take ((dgL n q).length - n) ++ (46 :: (dgL n q).drop ((dgL n q).length - n))

theorem dgL_len (n q : Nat) : (dgL n q).length = n + 1 - Lib.nDigits q + Lib.nDigits q := by
  unfold dgL; rw [List.length_append, List.length_replicate, Lib.decDigits_length]

set_option maxRecDepth 100000 in
set_option maxHeartbeats 2000000 in
theorem digitsC_good (K N : Nat) (g1 : 1 ≤ K) (g2 : K ≤ 7) (g3 : 1 ≤ N) (g4 : N ≤ 500) (w : World) (hT : RecT w) (hP : TabP w) :
    Calls Tryz.prog 17 #[.int .u8 (K : Int), .int .i64 (N : Int)] w fun r w' => ((∃ (q : Nat) (S : ByteArray), r = .returned (.tuple #[.string S, .int .i64 0]) ∧ S.data.toList = dgT N q ∧ TW K (10 ^ N) q) ∨ (r = .returned (.tuple #[.string ⟨#[]⟩, .int .i64 6]) ∧ eLo K 8192 * 10 ^ N / 2 ^ 8192 ≠ eHi K 8192 * 10 ^ N / 2 ^ 8192)) ∧ Below w.heap.size w w' := by
  have hd : knB (K : Int) = true := decide_eq_true (by omega)
  have h10 : 10 ^ N < 2 ^ (4 * N) := by
    rw [Nat.pow_mul]
    exact Nat.pow_lt_pow_left (by decide) (by omega)
  have gF : greatB (10 ^ N) = false := cf_great h10 (by omega)
  have g10 : greatB 10 = false := cf_great (k := 64) (by decide) (by decide)
  have HL : Hid (blen (10 ^ N) ≤ 2100) := Nat.le_trans ((blen_le _ _).2 h10) (by omega)
  have HD : Hid _ := hd
  have HG : Hid _ := gF
  clear hd h10 gF
  go_enter Tryz.func17, Tryz.ntmps17
  go_wp2_with fail
  refine Calls.mono (known_calls _ (by omega) (by omega) _) ?_
  rintro r w1 ⟨rfl, rfl⟩
  rw [HD.out]
  have j1 : ¬ (N : Int) < 1 := by omega
  have j2 : ¬ (500 : Int) < (N : Int) := by omega
  go_wp2_with fail
  refine Calls.mono (cof_eq 10 rfl (by decide)) ?_
  rintro r w2 ⟨ao, m, d, rfl, hm, hO, b1⟩
  have PC : Hid _ := pow_eq (i := (N : Int)) hO.1 (by omega) (by omega) (r := 10 ^ N) (k := 0) (by rw [val_words]; exact cf_pow g10 HG.out)
  go_wp2_with fail
  refine Calls.mono PC.out ?_
  rintro r w3 ⟨a3, m3, d3, rfl, _, hm3, hO3, b3⟩
  have b4 := below_trans b1 b3
  clear PC hO b1 b3
  have WC : Hid _ := whole_calls K (10 ^ N) g1 g2 HL.out _ _ _ _ hO3.1 hm3 (hT.kept b4)
  have hP4 := hP.kept b4
  go_wp2_with fail
  refine Calls.mono WC.out ?_
  rintro r w4 ⟨hr, b5⟩
  have b6 := below_trans b4 b5
  have hP6 := hP4.kept b5
  clear WC hP hP4 hT
  rcases hr with ⟨a5, m5, d5, q, rfl, hm5, hO5, ht⟩ | ⟨rfl, hne⟩
  · have HT : Hid _ := ht
    have gq : greatB q = false := (great_len q).2 (by rw [← hO5.1.1]; exact hm5)
    clear ht
    have TC : Hid _ := text_calls a5 m5 d5 (wordsOf q) w4 hO5.1 (by omega) hP6
    rw [val_words] at TC
    go_wp2_with fail
    refine Calls.mono TC.out ?_
    rintro r w5 ⟨-, hr, b7⟩
    obtain rfl := hr gq
    have b8 := below_trans b6 b7
    clear hr TC hP6 hO5 b7 b6 b5 b4
    obtain ⟨D, hD⟩ : ∃ D : ByteArray, D = ⟨(Lib.decDigits q).toArray⟩ := ⟨_, rfl⟩
    rw [← hD]
    have HDD : Hid (D = ⟨(Lib.decDigits q).toArray⟩) := hD
    clear hD
    have hsz : D.size ≤ 22000 := by
      have e : D.size = Lib.nDigits q := by rw [HDD.out, ← Lib.decDigits_length]; rfl
      rw [e]
      obtain ⟨X, hX⟩ : ∃ X : Nat, X = 22000 := ⟨_, rfl⟩
      rw [← hX]
      refine nDigits_le X q ?_ (by omega)
      have h1 := (blen_le q 65536).1 ((great_not q).1 gq)
      obtain ⟨Y, hY⟩ : ∃ Y : Nat, Y = 65536 := ⟨_, rfl⟩
      rw [← hY] at h1
      refine Nat.lt_of_lt_of_le h1 (Nat.le_trans (Nat.pow_le_pow_right (by decide) (show Y ≤ 3 * X by omega)) ?_)
      rw [Nat.pow_mul]
      exact Nat.pow_le_pow_left (by decide) X
    obtain ⟨C, hC⟩ : ∃ C : Nat, C = N + 1 - D.size := ⟨_, rfl⟩
    have hm0 : max 0 ((N : Int) + 1 - (D.size : Int)) = (C : Int) := by omega
    have RC : Hid _ := Tryz.strings_Repeat ⟨#[48]⟩ C w5 (by omega) (by show 1 * C ≤ _; omega)
    have HC : Hid (C = N + 1 - D.size) := hC
    have hC2 : C ≤ 501 := by omega
    clear hC
    have w1 : IntKind.i64.wrap ((N : Int) + 1) = (N : Int) + 1 := by rw [IntKind.wrap_i64]; omega
    have w2 : IntKind.i64.wrap ((N : Int) + 1 - (D.size : Int)) = (N : Int) + 1 - (D.size : Int) := by rw [IntKind.wrap_i64]; omega
    go_wp2_with fail
    refine Calls.mono RC.out ?_
    rintro r w6 ⟨rfl, b9⟩
    have b10 := below_trans b8 b9
    obtain ⟨Z, hZ⟩ : ∃ Z : ByteArray, Z = ⟨(Lib.repeatL (⟨#[48]⟩ : ByteArray).data.toList C).toArray⟩ := ⟨_, rfl⟩
    rw [← hZ]
    have hZl : Z.data.toList = List.replicate C 48 := by rw [hZ]; exact repeat_zero C
    have hZs : Z.size = C := by
      have := congrArg List.length hZl
      rw [List.length_replicate, Array.length_toList] at this; exact this
    have HZL : Hid _ := hZl
    clear hZ hZl RC hm0 w2 b8 b9
    go_wp2_with fail
    obtain ⟨A, hA⟩ : ∃ A : ByteArray, A = Z ++ D := ⟨_, rfl⟩
    have hAs : A.size = C + D.size := by rw [hA, ByteArray.size_append, hZs]
    have HA : Hid (A = Z ++ D) := hA
    rw [← hA]
    obtain ⟨P, hP⟩ : ∃ P : Nat, P = C + D.size - N := ⟨_, rfl⟩
    have hPi : (C : Int) + (D.size : Int) - (N : Int) = (P : Int) := by have := HC.out; omega
    have HP : Hid (P = C + D.size - N) := hP
    have hPA : P ≤ A.size := by omega
    have hAb : A.size ≤ 30000 := by omega
    rw [hPi]
    clear hA hAs hP hPi hsz hC2 hZs w1
    go_quiet (fail)
    have bQ : Below w6.heap.size w6 (w6.drewN nq) := below_drewN (Below.refl _ _) nq
    go_wp2_with fail
    go_ret2
    refine ⟨Or.inl ⟨q, _, rfl, ?_, HT.out⟩, below_trans b10 bQ⟩
    have eA : A.data.toList = dgL N q := by
      rw [HA.out, ba_app, HZL.out, HC.out, HDD.out]
      unfold dgL
      rw [show (⟨(Lib.decDigits q).toArray⟩ : ByteArray).size = Lib.nDigits q by rw [← Lib.decDigits_length]; rfl]
    have eS : A.size = (dgL N q).length := by rw [← eA]; rfl
    have eP : P = (dgL N q).length - N := by
      have e1 : D.size = Lib.nDigits q := by rw [HDD.out, ← Lib.decDigits_length]; rfl
      rw [HP.out, HC.out, e1, dgL_len]
    rw [ba_app, ba_app, ba_ext, ba_ext, eA, eS]
    unfold dgT
    rw [← eP, List.drop_zero, Nat.sub_zero, List.append_assoc]
    congr 1
    show 46 :: _ = 46 :: _
    congr 1
    exact List.take_of_length_le (by rw [List.length_drop]; omega)
  · have HT : Hid _ := hne
    clear hne
    go_wp2_with fail
    go_ret2
    exact ⟨Or.inr ⟨rfl, HT.out⟩, b6⟩

set_option maxRecDepth 100000 in
set_option maxHeartbeats 2000000 in
theorem digitsC_calls (k n : Int) (h0 : 0 ≤ k) (h1 : k ≤ 255) (w : World) (hT : RecT w) (hP : TabP w) :
    Calls Tryz.prog 17 #[.int .u8 k, .int .i64 n] w fun r w' => ((¬ askB k n 500 ∧ r = .returned (.tuple #[.string ⟨#[]⟩, .int .i64 2])) ∨ (∃ K N : Nat, k = (K : Int) ∧ n = (N : Int) ∧ 1 ≤ K ∧ K ≤ 7 ∧ 1 ≤ N ∧ N ≤ 500 ∧ ((∃ (q : Nat) (S : ByteArray), r = .returned (.tuple #[.string S, .int .i64 0]) ∧ S.data.toList = dgT N q ∧ TW K (10 ^ N) q) ∨ (r = .returned (.tuple #[.string ⟨#[]⟩, .int .i64 6]) ∧ eLo K 8192 * 10 ^ N / 2 ^ 8192 ≠ eHi K 8192 * 10 ^ N / 2 ^ 8192)))) ∧ Below w.heap.size w w' := by
  by_cases hg : askB k n 500
  · obtain ⟨g1, g2, g3, g4⟩ := hg
    obtain ⟨K, rfl⟩ := Int.eq_ofNat_of_zero_le h0
    obtain ⟨N, rfl⟩ := Int.eq_ofNat_of_zero_le (show 0 ≤ n by omega)
    refine (digitsC_good K N (by omega) (by omega) (by omega) (by omega) w hT hP).mono ?_
    rintro r w' ⟨hr, hb⟩
    exact ⟨Or.inr ⟨K, N, rfl, rfl, by omega, by omega, by omega, by omega, hr⟩, hb⟩
  · have HG : Hid (¬ askB k n 500) := hg
    by_cases c1 : 1 ≤ k ∧ k ≤ 7
    · have hd : knB k = true := decide_eq_true c1
      have c2 : n < 1 ∨ 500 < n := by
        unfold askB at hg
        omega
      clear hg
      have HD : Hid _ := hd
      clear hd c1 hT hP
      by_cases c3 : n < 1
      · clear c2
        go_enter Tryz.func17, Tryz.ntmps17
        go_wp2_with fail
        refine Calls.mono (known_calls _ h0 h1 _) ?_
        rintro r w1 ⟨rfl, rfl⟩
        rw [HD.out]
        go_wp2_with fail
        go_ret2
        exact ⟨Or.inl ⟨HG.out, rfl⟩, Below.refl _ _⟩
      · have c4 : 500 < n := by omega
        clear c2
        go_enter Tryz.func17, Tryz.ntmps17
        go_wp2_with fail
        refine Calls.mono (known_calls _ h0 h1 _) ?_
        rintro r w1 ⟨rfl, rfl⟩
        rw [HD.out]
        go_wp2_with fail
        go_ret2
        exact ⟨Or.inl ⟨HG.out, rfl⟩, Below.refl _ _⟩
    · have hd : knB k = false := decide_eq_false c1
      have HD : Hid _ := hd
      clear hd hg c1 hT hP
      go_enter Tryz.func17, Tryz.ntmps17
      go_wp2_with fail
      refine Calls.mono (known_calls _ h0 h1 _) ?_
      rintro r w1 ⟨rfl, rfl⟩
      rw [HD.out]
      go_wp2_with fail
      go_ret2
      exact ⟨Or.inl ⟨HG.out, rfl⟩, Below.refl _ _⟩

end Go.Proofs.YtkkldnnndlpblaaGreatDoor

namespace Go.Proofs.YtkkldnnndlpblaaGreatDoor
open Go.RowKit Ck

theorem TW_eq {k F q q' : Nat} (h1 : 1 ≤ k) (h7 : k ≤ 7) (h : TW k F q) (h' : TW k F q') : q = q' := by
  obtain ⟨wd, a1, a2, a3, a4⟩ := h
  obtain ⟨wd', b1, b2, b3, b4⟩ := h'
  have hb := (base_k k h1 h7).1
  have e1 := told k wd (8192 - wd) F q hb a1 a3 a4
  have e2 := told k wd' (8192 - wd') F q' hb b1 b3 b4
  rw [show wd + (8192 - wd) = 8192 by omega] at e1
  rw [show wd' + (8192 - wd') = 8192 by omega] at e2
  exact e1.symm.trans e2

/-- told at fewer bits, told at the most -/
theorem TW_not_hard {k F q wd : Nat} (h1 : 1 ≤ k) (h7 : k ≤ 7) (hw : 40 ≤ wd) (hw2 : wd + 16 ≤ 8192) (a : eLo k wd * F / 2 ^ wd = q) (b : eHi k wd * F / 2 ^ wd = q) : eLo k 8192 * F / 2 ^ 8192 = eHi k 8192 * F / 2 ^ 8192 := by
  have hb := (base_k k h1 h7).1
  obtain ⟨M, hM⟩ : ∃ M : Nat, M = 8192 := ⟨_, rfl⟩
  rw [← hM]
  have hle := (e_lt k M h1 h7 (by omega)).2.1
  have e : wd + (M - wd) = M := by omega
  have := told_nest k wd (M - wd) F q hb hw (by omega) (by omega) (by rw [e]; exact hle) a b
  rw [e] at this
  exact this.1.trans this.2.symm

def piB : List UInt8 := [51, 46, 49, 52, 49, 53, 57, 50, 54, 53, 51, 53, 56, 57, 55, 57, 51, 50, 51, 56, 52, 54]

theorem lv_text : dgT 20 314159265358979323846 = piB := by
  have e1 : Lib.decDigits 314159265358979323846 = [51, 49, 52, 49, 53, 57, 50, 54, 53, 51, 53, 56, 57, 55, 57, 51, 50, 51, 56, 52, 54] := by decide +kernel
  have e2 : Lib.nDigits 314159265358979323846 = 21 := by rw [← Lib.decDigits_length, e1]; rfl
  unfold dgT dgL
  rw [e2, e1]
  rfl

theorem lv_words : wordsOf 12 = [12] := by rw [words_pos 12 (by decide), show 12 / 18446744073709551616 = 0 by decide, words_zero]; rfl

theorem isW_litC (w : World) (B : Nat) (hB : w.heap.size = B) (m : Int) (h0 : 0 ≤ m) (h1 : m ≤ 18446744073709551615) : IsW (w.alloc (.cells #[.int .u64 m] 59)) (some ⟨B, 0, none⟩) 1 1 [m] := by
  subst hB
  exact ⟨rfl, fun x hx => by simp at hx; subst hx; exact ⟨h0, h1⟩, ⟨Nat.le_refl _, fun q => by cases q⟩, fun i hi => ⟨w.heap.size, 0, rfl, by simp, by
    obtain rfl : i = 0 := by omega
    go_simp⟩⟩

set_option maxRecDepth 100000 in
set_option maxHeartbeats 1000000 in
theorem constFew_calls (w : World) :
    Calls Tryz.prog 9 #[.int .u8 1, .int .i64 7] w fun r w' => r = .returned (.tuple #[.agg #[.bool false, .slice none 0 0, .int .i64 0, .bool false, .slice none 0 0, .int .i64 0], .int .i64 2]) ∧ Below w.heap.size w w' := by
  have bA := below_alloc w (.cells #[.bool false, .slice none 0 0, .int .i64 0, .bool false, .slice none 0 0, .int .i64 0] 28)
  have hd : knB 1 = true := by decide
  have HD : Hid _ := hd
  clear hd
  go_enter Tryz.func9, Tryz.ntmps9
  go_wp2_with fail
  refine Calls.mono (known_calls _ (by decide) (by decide) _) ?_
  rintro r w1 ⟨rfl, rfl⟩
  rw [HD.out]
  go_wp2_with fail
  exact bodyPost_ret (v := .tuple #[.agg #[.bool false, .slice none 0 0, .int .i64 0, .bool false, .slice none 0 0, .int .i64 0], .int .i64 2]) (by simp [results, Tryz.results9, go_sem]) rfl ⟨rfl, bA⟩

set_option maxRecDepth 100000 in
set_option maxHeartbeats 2000000 in
theorem cLives_calls (w : World) (hT : RecT w) (hP : TabP w) :
    Calls Tryz.prog 10 #[] w fun r w' => r = .returned (.bool true) ∧ Below w.heap.size w w' := by
  have DC : Hid _ := digitsC_calls 1 20 (by decide) (by decide) w hT hP
  go_enter Tryz.func10, Tryz.ntmps10
  go_wp2_with fail
  refine Calls.mono DC.out ?_
  rintro r w1 ⟨hr, b1⟩
  have hr2 : ∃ S : ByteArray, r = .returned (.tuple #[.string S, .int .i64 0]) ∧ S.data.toList = piB := by
    obtain ⟨p1, p2⟩ := lives_pi
    rcases hr with ⟨hn, -⟩ | ⟨K, N, e1, e2, -, -, -, -, hr⟩
    · exact absurd ⟨by decide, by decide, by decide, by decide⟩ hn
    · have e1' : K = 1 := by omega
      have e2' : N = 20 := by omega
      subst e1' e2'
      rcases hr with ⟨q, S, e, hS, ht⟩ | ⟨-, hne⟩
      · have hq := TW_eq (by decide) (by decide) ht ⟨131, by decide, by decide, p1, p2⟩
        subst hq
        exact ⟨S, e, by rw [hS]; exact lv_text⟩
      · exact absurd (TW_not_hard (by decide) (by decide) (by decide) (by decide) p1 p2) hne
  clear hr DC
  obtain ⟨S, rfl, hS⟩ := hr2
  have BC : Hid _ := bitsC_calls 1 2 (by decide) (by decide) w1 (hT.kept b1)
  go_wp2_with fail
  refine Calls.mono BC.out ?_
  rintro r w2 ⟨hr, b2⟩
  have hr2 : ∃ (ao : Option Addr) (m d : Nat), r = .returned (.tuple #[.slice ao m d, .int .i64 0]) ∧ m ≤ 1024 ∧ OwnW w1.heap.size w2 ao m d [12] := by
    obtain ⟨p1, p2⟩ := lives_bits
    rcases hr with ⟨hn, -⟩ | ⟨K, N, e1, e2, -, -, -, -, hr⟩
    · exact absurd ⟨by decide, by decide, by decide, by decide⟩ hn
    · have e1' : K = 1 := by omega
      have e2' : N = 2 := by omega
      subst e1' e2'
      rcases hr with ⟨ao, m, d, q, e, hm, hO, ht⟩ | ⟨-, hne⟩
      · have hq := TW_eq (by decide) (by decide) ht ⟨67, by decide, by decide, p1, p2⟩
        subst hq
        rw [lv_words] at hO
        exact ⟨ao, m, d, e, hm, hO⟩
      · exact absurd (TW_not_hard (by decide) (by decide) (by decide) (by decide) p1 p2) hne
  clear hr BC
  obtain ⟨ao, m, d, rfl, hm, hO⟩ := hr2
  have b3 := below_trans b1 b2
  go_wp2_with fail
  refine Calls.mono (constFew_calls w2) ?_
  rintro r w3 ⟨rfl, b4⟩
  have hO2 := hO.keep b4
  replace b3 := below_trans b3 b4
  have hS2 : S.toList = [51, 46, 49, 52, 49, 53, 57, 50, 54, 53, 51, 53, 56, 57, 55, 57, 51, 50, 51, 56, 52, 54] := by rw [ByteArray.toList_eq]; exact hS
  clear hS hO
  have bB := below_trans (below_alloc w3 (.cells #[.bool false, .slice none 0 0, .int .i64 0, .bool false, .slice none 0 0, .int .i64 0] 28)) (below_alloc (w3.alloc (.cells #[.bool false, .slice none 0 0, .int .i64 0, .bool false, .slice none 0 0, .int .i64 0] 28)) (.cells #[.int .u64 12] 59))
  have hO3 := hO2.keep bB
  have hL := isW_litC (w3.alloc (.cells #[.bool false, .slice none 0 0, .int .i64 0, .bool false, .slice none 0 0, .int .i64 0] 28)) (w3.heap.size + 1) (by simp) 12 (by decide) (by decide)
  have SC : Hid _ := nSame_calls ao _ m d 1 1 [12] [12] _ hO3.1 hL (by omega) (by omega)
  clear hO3 hL hO2
  go_wp2_with fail
  refine Calls.mono SC.out ?_
  rintro r w4 ⟨rfl, b5⟩
  go_wp2_with fail
  go_ret
  exact ⟨by simp, below_trans b3 (below_trans bB b5)⟩

end Go.Proofs.YtkkldnnndlpblaaGreatDoor
