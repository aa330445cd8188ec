/- Package round: Mid; the room that its numbers have (pure). -/
import Derived.Test.YtionhpedghmecaaGreatDoorRPX
import Derived.Test.YtionhpedghmecaaGreatDoorTMR
import Derived.Test.YtionhpedghmecaaGreatDoorFX
namespace Go.Proofs.YtionhpedghmecaaGreatDoor
open Go.RowKit
theorem rgreat_small (m : Nat) (h : m < 18446744073709551616) : greatB m = false := by
 refine (great_len _).2 (Nat.le_trans ((words_len 1 m).2 (by rw [Nat.pow_one]; exact h)) (by decide))
theorem rright_small (m : Nat) (e : Int) (h : m < 18446744073709551616) (he : -32768 ≤ e ∧ e ≤ 32768) : rightB m e = true := by
 unfold rightB inB
 rw [rgreat_small m h, decide_eq_true he]
 rfl
theorem cell_lt (c k K : Nat) (hK : K = 32768) (hc : c < 9007199254740992) (hk : k ≤ 2045) : (c + 1) * 2 ^ (k + (K - 1074)) ≤ 2 ^ (K + 1024) := by
 have h1 : c + 1 ≤ 2 ^ 53 := Nat.le_trans (show c + 1 ≤ 9007199254740992 by omega) (by decide)
 have h2 : (c + 1) * 2 ^ (k + (K - 1074)) ≤ 2 ^ 53 * 2 ^ (k + (K - 1074)) := Nat.mul_le_mul_right _ h1
 rw [← Nat.pow_add] at h2
 exact Nat.le_trans h2 (Nat.pow_le_pow_right (by decide) (by omega))
theorem lt_great (K n : Nat) (h : n ≤ 2 ^ (K + 1024)) : n < 2 ^ (K + 1999) ∧ n < 2 ^ (K + 2000) :=
 ⟨Nat.lt_of_le_of_lt h (Nat.pow_lt_pow_right (by decide) (by omega)), Nat.lt_of_le_of_lt h (Nat.pow_lt_pow_right (by decide) (by omega))⟩
theorem sI_abs (s : Bool) (n : Nat) : (sI s * (n : Int)).natAbs = n := by unfold sI; split <;> omega
theorem from_right (x : Int) (ux : U x) : rightB (fromP x).2.1 (fromP x).2.2 = true := by
 by_cases hx : finB x = true
 ·obtain ⟨K, hK⟩ : ∃ K : Nat, K = 32768 := ⟨_, rfl⟩
  have hf : x % 9223372036854775808 < 9218868437227405312 := by unfold finB at hx; simpa using hx
  obtain ⟨c1, c2, c3, -⟩ := cell_facts (x % 9223372036854775808) (by omega) hf
  rw [(cell_mod x).1] at c1
  rw [(cell_mod x).2] at c3
  refine right_val _ (from_can x).1 K hK (by have := (from_can x).2; omega) ?_
  rw [from_val x ux hx K hK, sI_abs]
  refine (lt_great K _ (Nat.le_trans ?_ (cell_lt _ _ K hK c1 c3))).2
  exact Nat.mul_le_mul_right _ (Nat.le_succ _)
 ·unfold fromP
  rw [if_neg hx]
  exact rright_small 0 0 (by decide) (by decide)
theorem upU (x : Int) (ux : U x) : U (upV x) := by
 obtain ⟨u0, u1⟩ := ux
 unfold U upV
 split
 ·omega
 ·split
  ·omega
  ·split <;> omega
theorem upT_right (x : Int) (ux : U x) : rightB (upT x).2.1 (upT x).2.2 = true := by
 unfold upT
 split
 ·exact from_right _ (upU x ux)
 ·exact rright_small 1 1024 (by decide) (by decide)
theorem ar6 (P H Q B : Nat) (e : H = 2 * Q) (g : P + H ≤ B) : P + Q ≤ B := by omega
theorem mid_abs (x : Int) (ux : U x) (hx : finB x = true) (K : Nat) (hK : K = 32768) : (vI (midQ x) (-(K : Int))).natAbs ≤ 2 ^ (K + 1024) := by
 obtain ⟨m1, m2⟩ := mid_val x ux hx K hK
 have hf : x % 9223372036854775808 < 9218868437227405312 := by unfold finB at hx; simpa using hx
 obtain ⟨u0, u1⟩ := ux
 by_cases h : 9223372036854775808 < x
 ·obtain ⟨c1, c2, c3, -⟩ := cell_facts (x % 9223372036854775808 - 1) (by omega) (by omega)
  have g := cell_lt _ _ K hK c1 c3
  rw [Nat.add_mul, Nat.one_mul] at g
  rw [m2 h, Int.natAbs_neg, Int.natAbs_natCast]
  exact ar6 _ _ _ _ (pow_halfR _ K hK) g
 ·obtain ⟨c1, c2, c3, -⟩ := cell_facts (x % 9223372036854775808) (by omega) hf
  rw [(cell_mod x).1] at c1
  rw [(cell_mod x).2] at c3
  have g := cell_lt _ _ K hK c1 c3
  rw [Nat.add_mul, Nat.one_mul] at g
  rw [m1 h, Int.natAbs_natCast]
  exact ar6 _ _ _ _ (pow_halfR _ K hK) g
theorem twice_lt (v u : Int) (K : Nat) (e : v = 2 * u) (h : u.natAbs ≤ 2 ^ (K + 1024)) : v.natAbs < 2 ^ (K + 2000) := by
 have h1 : v.natAbs ≤ 2 ^ (K + 1024) * 2 := by rw [e, Int.natAbs_mul, Nat.mul_comm]; exact Nat.mul_le_mul_right 2 h
 rw [← Nat.pow_succ] at h1
 exact Nat.lt_of_le_of_lt h1 (Nat.pow_lt_pow_right (by decide) (by omega))
theorem sum_right (x : Int) (ux : U x) (hx : finB x = true) : rightB (sumD (fromP x) (upT x)).2.1 (sumD (fromP x) (upT x)).2.2 = true := by
 obtain ⟨K, hK⟩ : ∃ K : Nat, K = 32768 := ⟨_, rfl⟩
 refine right_val _ (sum_canP (from_can x).1 (up_can x).1) K hK (by have := mid_low x; omega) (twice_lt _ (vI (midQ x) (-(K : Int))) K ?_ (mid_abs x ux hx K hK))
 rw [mid_twice x K hK]
 exact vI_sum (fromP x) (upT x) (-(K : Int)) (by have := (from_can x).2; omega) (by have := (up_can x).2; omega)
theorem mid_right (x : Int) (ux : U x) (hx : finB x = true) : rightB (midQ x).2.1 (midQ x).2.2 = true := (three x 1100 ux hx (by decide)).1
def midP (x : Int) : Bool × Nat × Int := if finB x = true then midQ x else (false, 0, 0)
theorem le_hidP {a b c : Nat} (h : Hid (a ≤ b)) (k : b ≤ c) : Hid (a ≤ c) := Nat.le_trans h k
theorem can_room {p : Bool × Nat × Int} (h : rightB p.2.1 p.2.2 = true) : roomE p = 0 ∧ roomP p = p := by
 have h' : roomB p = true := h
 unfold roomE roomP
 rw [if_pos h', if_pos h']
 exact ⟨rfl, rfl⟩
theorem mAdd (x : Int) (ux : U x) (hx : finB x = true) (a : Option Addr) (n c : Nat) (b : Option Addr) (m d : Nat) (W : World) (p : IsW W a n c (wordsOf (fromP x).2.1)) (hn : n ≤ 1024) (q : IsW W b m d (wordsOf (upT x).2.1)) (hm : m ≤ 1024) (T : Tab W) : Calls Tryz.prog 37 #[dyV (fromP x).1 a n c (fromP x).2.2, dyV (upT x).1 b m d (upT x).2.2] W fun r w' => ∃ v', r = .returned (.tuple #[v', .int .i64 0]) ∧ DyAt W.heap.size w' v' (sumD (fromP x) (upT x)) ∧ Below W.heap.size W w' := by
 have := dadd_yes (fromP x).1 a n c (wordsOf (fromP x).2.1) (fromP x).2.2 (upT x).1 b m d (wordsOf (upT x).2.1) (upT x).2.2 W p (by omega) q (by omega) T (by rw [val_words]; exact from_right x ux) (by rw [val_words]; exact upT_right x ux)
 rw [val_words, val_words, form_of_can (from_can x).1, form_of_can (up_can x).1, (can_room (sum_right x ux hx)).1, (can_room (sum_right x ux hx)).2] at this
 exact this
theorem mShift (x : Int) (ux : U x) (hx : finB x = true) (a : Option Addr) (n c : Nat) (W : World) (p : IsW W a n c (wordsOf (sumD (fromP x) (upT x)).2.1)) (hn : n ≤ 1024) (T : Tab W) : Calls Tryz.prog 55 #[dyV (sumD (fromP x) (upT x)).1 a n c (sumD (fromP x) (upT x)).2.2, .int .i64 (-1)] W fun r w' => ∃ v', r = .returned (.tuple #[v', .int .i64 0]) ∧ DyAt W.heap.size w' v' (midQ x) ∧ Below W.heap.size W w' := by
 have := dshift_yes (sumD (fromP x) (upT x)).1 a n c (wordsOf (sumD (fromP x) (upT x)).2.1) (sumD (fromP x) (upT x)).2.2 (-1) W p (by omega) T (by decide) (by rw [val_words]; exact sum_right x ux hx)
 rw [val_words, shift_form] at this
 have e : formD (sumD (fromP x) (upT x)).1 (sumD (fromP x) (upT x)).2.1 ((sumD (fromP x) (upT x)).2.2 + -1) = midQ x := rfl
 rw [e, (can_room (mid_right x ux hx)).1, (can_room (mid_right x ux hx)).2] at this
 exact this
set_option maxRecDepth 100000 in
set_option maxHeartbeats 4000000 in
theorem mid_bad (x : Int) (w : World) (ux : U x) (hT : Tab w) (hx : finB x = false) :
  Calls Tryz.prog 27 #[.int .u64 x] w fun r w' => r = .returned (.tuple #[dyV false none 0 0 0, .int .i64 5]) ∧ Below w.heap.size w w' := by
 have HTw : Hid (Tab w) := hT
 have bA : Below w.heap.size w (w.alloc (.cells #[.bool false, .slice none 0 0, .int .i64 0] 27)) := below_one _ _
 have hT0 := hT.kept bA
 obtain ⟨z0, f0, z1, f1, z2, f2⟩ := fX11 w
 have hs : Hid (w.heap.size + 1 ≤ (w.alloc (.cells #[.bool false, .slice none 0 0, .int .i64 0] 27)).heap.size) := by show w.heap.size + 1 ≤ _; simp
 clear hT
 go_enter Tryz.func27, Tryz.ntmps27
 go_wp2_with fail
 generalize (w.alloc (.cells #[.bool false, .slice none 0 0, .int .i64 0] 27)) = w1 at *
 refine Calls.mono (pfrom_bad x _ ux hx) ?_
 rintro r w2 ⟨rfl, bN⟩
 replace f0 := kF bN z0 f0
 replace f1 := kF bN z1 f1
 replace f2 := kF bN z2 f2
 replace z0 := kC bN z0
 replace z1 := kC bN z1
 replace z2 := kC bN z2
 replace hT0 := hT0.kept bN
 replace bA := nT bA bN
 replace hs := le_hidP hs bN.size
 clear bN
 have bB := below_one w2 (.cells #[.bool false, .slice none 0 0, .int .i64 0] 27)
 have p0 : (w2.alloc (.cells #[.bool false, .slice none 0 0, .int .i64 0] 27)).cell? ⟨w2.heap.size, 0, none⟩ = some (.bool false) := by go_simp
 have p1 : (w2.alloc (.cells #[.bool false, .slice none 0 0, .int .i64 0] 27)).cell? ⟨w2.heap.size, 1, none⟩ = some (.slice none 0 0) := by go_simp
 have p2 : (w2.alloc (.cells #[.bool false, .slice none 0 0, .int .i64 0] 27)).cell? ⟨w2.heap.size, 2, none⟩ = some (.int .i64 0) := by go_simp
 replace f0 := kF bB z0 f0
 replace f1 := kF bB z1 f1
 replace f2 := kF bB z2 f2
 replace z0 := kC bB z0
 replace z1 := kC bB z1
 replace z2 := kC bB z2
 replace hT0 := hT0.kept bB
 replace bA := nT bA bB
 replace hs := le_hidP hs bB.size
 clear bB
 go_wp2_with fail
 exact bodyPost_ret (v := .tuple #[dyV false none 0 0 0, .int .i64 5]) (by simp [results, Tryz.results27, go_sem, z0, z1, z2]) rfl ⟨rfl, by repeat (first | with_reducible exact bA | refine Below.setCell ?_ (by simp) _)⟩
set_option maxRecDepth 100000 in
set_option maxHeartbeats 4000000 in
theorem mid_A (x : Int) (w : World) (ux : U x) (hT : Tab w) (hx : finB x = true) (hy : finB (upV x) = true) :
  Calls Tryz.prog 27 #[.int .u64 x] w fun r w' => ∃ v', r = .returned (.tuple #[v', .int .i64 0]) ∧ DyAt w.heap.size w' v' (midQ x) ∧ Below w.heap.size w w' := by
 have HF : Hid _ := fun w' (t' : Tab w') => pfrom_calls x w' ux t'
 rw [show lastE x = 0 by unfold lastE; rw [if_pos hx]] at HF
 have HU : Hid _ := fun w' => up_calls x w' ux
 have HA : Hid _ := fun a n c b m d W p hn q hm T => mAdd x ux hx a n c b m d W p hn q hm T
 have HS : Hid _ := fun a n c W p hn T => mShift x ux hx a n c W p hn T
 have hup : upT x = fromP (upV x) := by unfold upT; rw [if_pos hy]
 have HG : Hid _ := fun w' (t' : Tab w') => pfrom_calls (upV x) w' (upU x ux) t'
 rw [show lastE (upV x) = 0 by unfold lastE; rw [if_pos hy], ← hup] at HG
 clear hup
 generalize sumD (fromP x) (upT x) = S at *
 generalize midQ x = M at *
 generalize upT x = R at *
 generalize fromP x = P at *
 generalize upV x = y at *
 clear ux hx hy
 have HTw : Hid (Tab w) := hT
 have bA : Below w.heap.size w (w.alloc (.cells #[.bool false, .slice none 0 0, .int .i64 0] 27)) := below_one _ _
 have hT0 := hT.kept bA
 obtain ⟨z0, f0, z1, f1, z2, f2⟩ := fX11 w
 have hs : Hid (w.heap.size + 1 ≤ (w.alloc (.cells #[.bool false, .slice none 0 0, .int .i64 0] 27)).heap.size) := by show w.heap.size + 1 ≤ _; simp
 clear hT
 go_enter Tryz.func27, Tryz.ntmps27
 go_wp2_with fail
 generalize (w.alloc (.cells #[.bool false, .slice none 0 0, .int .i64 0] 27)) = w1 at *
 refine Calls.mono (HF.out _ hT0) ?_
 rintro r w2 ⟨_, rfl, ⟨a1, n1, c1, rfl, -, hn1, hO1⟩, bN⟩
 replace f0 := kF bN z0 f0
 replace f1 := kF bN z1 f1
 replace f2 := kF bN z2 f2
 replace z0 := kC bN z0
 replace z1 := kC bN z1
 replace z2 := kC bN z2
 replace hT0 := hT0.kept bN
 replace bA := nT bA bN
 replace hs := le_hidP hs bN.size
 clear bN
 have Ih := hO1.1
 clear hO1
 have bB := below_one w2 (.cells #[.bool P.1, .slice a1 n1 c1, .int .i64 P.2.2] 27)
 obtain ⟨p0, p1, p2⟩ := fX10 w2 P a1 n1 c1
 replace f0 := kF bB z0 f0
 replace f1 := kF bB z1 f1
 replace f2 := kF bB z2 f2
 replace z0 := kC bB z0
 replace z1 := kC bB z1
 replace z2 := kC bB z2
 replace Ih := IsW.keep Ih bB
 replace hT0 := hT0.kept bB
 replace bA := nT bA bB
 replace hs := le_hidP hs bB.size
 clear bB
 go_wp2_with fail
 generalize (w2.alloc (.cells #[.bool P.1, .slice a1 n1 c1, .int .i64 P.2.2] 27)) = w3 at *
 refine Calls.mono (HU.out _) ?_
 rintro r w4 ⟨rfl, rfl⟩
 go_wp2_with fail
 refine Calls.mono (HG.out _ hT0) ?_
 rintro r w5 ⟨_, rfl, ⟨a2, n2, c2, rfl, -, hn2, hO2⟩, bN⟩
 replace f0 := kF bN z0 f0
 replace f1 := kF bN z1 f1
 replace f2 := kF bN z2 f2
 replace z0 := kC bN z0
 replace z1 := kC bN z1
 replace z2 := kC bN z2
 replace p0 := kC bN p0
 replace p1 := kC bN p1
 replace p2 := kC bN p2
 replace Ih := IsW.keep Ih bN
 replace hT0 := hT0.kept bN
 replace bA := nT bA bN
 replace hs := le_hidP hs bN.size
 clear bN
 have Il := hO2.1
 clear hO2
 have bB := below_one w5 (.cells #[.bool R.1, .slice a2 n2 c2, .int .i64 R.2.2] 27)
 obtain ⟨q0, q1, q2⟩ := fX10 w5 R a2 n2 c2
 replace f0 := kF bB z0 f0
 replace f1 := kF bB z1 f1
 replace f2 := kF bB z2 f2
 replace z0 := kC bB z0
 replace z1 := kC bB z1
 replace z2 := kC bB z2
 replace p0 := kC bB p0
 replace p1 := kC bB p1
 replace p2 := kC bB p2
 replace Ih := IsW.keep Ih bB
 replace Il := IsW.keep Il bB
 replace hT0 := hT0.kept bB
 replace bA := nT bA bB
 replace hs := le_hidP hs bB.size
 clear bB
 go_wp2_with fail
 generalize (w5.alloc (.cells #[.bool R.1, .slice a2 n2 c2, .int .i64 R.2.2] 27)) = w6 at *
 refine Calls.mono (HA.out _ _ _ _ _ _ _ Ih hn1 Il hn2 hT0) ?_
 rintro r w7 ⟨_, rfl, ⟨a3, n3, c3, rfl, -, hn3, hO3⟩, bN⟩
 replace f0 := kF bN z0 f0
 replace f1 := kF bN z1 f1
 replace f2 := kF bN z2 f2
 replace z0 := kC bN z0
 replace z1 := kC bN z1
 replace z2 := kC bN z2
 replace p0 := kC bN p0
 replace p1 := kC bN p1
 replace p2 := kC bN p2
 replace q0 := kC bN q0
 replace q1 := kC bN q1
 replace q2 := kC bN q2
 replace Ih := IsW.keep Ih bN
 replace Il := IsW.keep Il bN
 replace hT0 := hT0.kept bN
 replace bA := nT bA bN
 replace hs := le_hidP hs bN.size
 clear bN
 have It := hO3.1
 clear hO3
 have bB := below_one w7 (.cells #[.bool S.1, .slice a3 n3 c3, .int .i64 S.2.2] 27)
 obtain ⟨t0, t1, t2⟩ := fX10 w7 S a3 n3 c3
 replace f0 := kF bB z0 f0
 replace f1 := kF bB z1 f1
 replace f2 := kF bB z2 f2
 replace z0 := kC bB z0
 replace z1 := kC bB z1
 replace z2 := kC bB z2
 replace p0 := kC bB p0
 replace p1 := kC bB p1
 replace p2 := kC bB p2
 replace q0 := kC bB q0
 replace q1 := kC bB q1
 replace q2 := kC bB q2
 replace Ih := IsW.keep Ih bB
 replace Il := IsW.keep Il bB
 replace It := IsW.keep It bB
 replace hT0 := hT0.kept bB
 replace bA := nT bA bB
 replace hs := le_hidP hs bB.size
 clear bB
 go_wp2_with fail
 generalize (w7.alloc (.cells #[.bool S.1, .slice a3 n3 c3, .int .i64 S.2.2] 27)) = w8 at *
 have hlow : w.heap.size + 1 ≤ w8.heap.size := hs
 refine Calls.mono (HS.out _ _ _ _ It hn3 hT0) ?_
 rintro r w9 ⟨_, rfl, ⟨a4, n4, c4, rfl, HN4, hn4, hO4⟩, bN⟩
 replace f0 := kF bN z0 f0
 replace f1 := kF bN z1 f1
 replace f2 := kF bN z2 f2
 replace z0 := kC bN z0
 replace z1 := kC bN z1
 replace z2 := kC bN z2
 replace p0 := kC bN p0
 replace p1 := kC bN p1
 replace p2 := kC bN p2
 replace q0 := kC bN q0
 replace q1 := kC bN q1
 replace q2 := kC bN q2
 replace t0 := kC bN t0
 replace t1 := kC bN t1
 replace t2 := kC bN t2
 replace Ih := IsW.keep Ih bN
 replace Il := IsW.keep Il bN
 replace It := IsW.keep It bN
 replace hT0 := hT0.kept bN
 replace bA := nT bA bN
 replace hs := le_hidP hs bN.size
 clear bN
 have hO4' := hO4.low hlow
 clear hO4 hlow
 go_wp2_with fail
 refine bodyPost_ret (v := .tuple #[dyV M.1 a4 n4 c4 M.2.2, .int .i64 0]) (by simp [results, Tryz.results27, go_sem, z0, z1, z2]) rfl ⟨_, rfl, ⟨a4, n4, c4, rfl, HN4, hn4, ?_⟩, ?_⟩
 ·exact (((hO4'.far _ _ (by simp)).far _ _ (by simp)).far _ _ (by simp)).low (by omega)
 ·repeat (first | with_reducible exact bA | refine Below.setCell ?_ (by simp) _)
set_option maxRecDepth 100000 in
set_option maxHeartbeats 4000000 in
theorem mid_B (x : Int) (w : World) (ux : U x) (hT : Tab w) (hx : finB x = true) (hy : finB (upV x) = false) :
  Calls Tryz.prog 27 #[.int .u64 x] w fun r w' => ∃ v', r = .returned (.tuple #[v', .int .i64 0]) ∧ DyAt w.heap.size w' v' (midQ x) ∧ Below w.heap.size w w' := by
 have HF : Hid _ := fun w' (t' : Tab w') => pfrom_calls x w' ux t'
 rw [show lastE x = 0 by unfold lastE; rw [if_pos hx]] at HF
 have HU : Hid _ := fun w' => up_calls x w' ux
 have HA : Hid _ := fun a n c b m d W p hn q hm T => mAdd x ux hx a n c b m d W p hn q hm T
 have HS : Hid _ := fun a n c W p hn T => mShift x ux hx a n c W p hn T
 have hup : upT x = (false, 1, 1024) := by unfold upT; rw [if_neg (by rw [hy]; decide)]
 have HG : Hid _ := fun w' => pfrom_bad (upV x) w' (upU x ux) hy
 rw [hup] at HA
 have HO : Hid _ := fun w' => of_eq 1 w' (by decide)
 rw [hup] at HS
 generalize sumD (fromP x) (false, 1, 1024) = S at *
 generalize midQ x = M at *
 generalize fromP x = P at *
 generalize upV x = y at *
 clear hup ux hx hy
 have HTw : Hid (Tab w) := hT
 have bA : Below w.heap.size w (w.alloc (.cells #[.bool false, .slice none 0 0, .int .i64 0] 27)) := below_one _ _
 have hT0 := hT.kept bA
 obtain ⟨z0, f0, z1, f1, z2, f2⟩ := fX11 w
 have hs : Hid (w.heap.size + 1 ≤ (w.alloc (.cells #[.bool false, .slice none 0 0, .int .i64 0] 27)).heap.size) := by show w.heap.size + 1 ≤ _; simp
 clear hT
 go_enter Tryz.func27, Tryz.ntmps27
 go_wp2_with fail
 generalize (w.alloc (.cells #[.bool false, .slice none 0 0, .int .i64 0] 27)) = w1 at *
 refine Calls.mono (HF.out _ hT0) ?_
 rintro r w2 ⟨_, rfl, ⟨a1, n1, c1, rfl, -, hn1, hO1⟩, bN⟩
 replace f0 := kF bN z0 f0
 replace f1 := kF bN z1 f1
 replace f2 := kF bN z2 f2
 replace z0 := kC bN z0
 replace z1 := kC bN z1
 replace z2 := kC bN z2
 replace hT0 := hT0.kept bN
 replace bA := nT bA bN
 replace hs := le_hidP hs bN.size
 clear bN
 have Ih := hO1.1
 clear hO1
 have bB := below_one w2 (.cells #[.bool P.1, .slice a1 n1 c1, .int .i64 P.2.2] 27)
 obtain ⟨p0, p1, p2⟩ := fX10 w2 P a1 n1 c1
 replace f0 := kF bB z0 f0
 replace f1 := kF bB z1 f1
 replace f2 := kF bB z2 f2
 replace z0 := kC bB z0
 replace z1 := kC bB z1
 replace z2 := kC bB z2
 replace Ih := IsW.keep Ih bB
 replace hT0 := hT0.kept bB
 replace bA := nT bA bB
 replace hs := le_hidP hs bB.size
 clear bB
 go_wp2_with fail
 generalize (w2.alloc (.cells #[.bool P.1, .slice a1 n1 c1, .int .i64 P.2.2] 27)) = w3 at *
 refine Calls.mono (HU.out _) ?_
 rintro r w4 ⟨rfl, rfl⟩
 go_wp2_with fail
 refine Calls.mono (HG.out _) ?_
 rintro r w5 ⟨rfl, bN⟩
 replace f0 := kF bN z0 f0
 replace f1 := kF bN z1 f1
 replace f2 := kF bN z2 f2
 replace z0 := kC bN z0
 replace z1 := kC bN z1
 replace z2 := kC bN z2
 replace p0 := kC bN p0
 replace p1 := kC bN p1
 replace p2 := kC bN p2
 replace Ih := IsW.keep Ih bN
 replace hT0 := hT0.kept bN
 replace bA := nT bA bN
 replace hs := le_hidP hs bN.size
 clear bN
 have I5 : Hid _ := Ih
 have lp : w2.heap.size < w5.heap.size := World.block_lt_of_cell? _ _ p0
 have lz : w.heap.size < w5.heap.size := World.block_lt_of_cell? _ _ z0
 have ne1 : w2.heap.size ≠ w5.heap.size := Nat.ne_of_lt lp
 have ne2 : w5.heap.size ≠ w2.heap.size := Nat.ne_of_gt lp
 have ne3 : w.heap.size ≠ w5.heap.size := Nat.ne_of_lt lz
 have ne4 : w5.heap.size ≠ w.heap.size := Nat.ne_of_gt lz
 have b5 := below_one w5 (.cells #[.bool false, .slice none 0 0, .int .i64 0] 27)
 have bB := below_one w5 (.cells #[.bool false, .slice none 0 0, .int .i64 0] 27)
 obtain ⟨q0, qf0, q1, qf1, q2, qf2⟩ := fX11 w5
 replace f0 := kF bB z0 f0
 replace f1 := kF bB z1 f1
 replace f2 := kF bB z2 f2
 replace z0 := kC bB z0
 replace z1 := kC bB z1
 replace z2 := kC bB z2
 replace p0 := kC bB p0
 replace p1 := kC bB p1
 replace p2 := kC bB p2
 replace Ih := IsW.keep Ih bB
 replace hT0 := hT0.kept bB
 replace bA := nT bA bB
 replace hs := le_hidP hs bB.size
 clear bB
 go_wp2_with fail
 generalize (w5.alloc (.cells #[.bool false, .slice none 0 0, .int .i64 0] 27)) = w6 at *
 have l6 : w5.heap.size < w6.heap.size := World.block_lt_of_cell? _ _ q0
 refine Calls.mono (HO.out _) ?_
 rintro r w7 ⟨a2, n2, c2, rfl, -, hn2, hO2, bN⟩
 replace b5 := nT b5 bN
 replace f0 := kF bN z0 f0
 replace f1 := kF bN z1 f1
 replace f2 := kF bN z2 f2
 replace qf0 := kF bN q0 qf0
 replace qf1 := kF bN q1 qf1
 replace qf2 := kF bN q2 qf2
 replace z0 := kC bN z0
 replace z1 := kC bN z1
 replace z2 := kC bN z2
 replace p0 := kC bN p0
 replace p1 := kC bN p1
 replace p2 := kC bN p2
 replace q0 := kC bN q0
 replace q1 := kC bN q1
 replace q2 := kC bN q2
 replace Ih := IsW.keep Ih bN
 replace hT0 := hT0.kept bN
 replace bA := nT bA bN
 replace hs := le_hidP hs bN.size
 clear bN
 go_wp2_with fail
 have bS : Below w5.heap.size w7 (((w7.setCell ⟨w5.heap.size, 0, none⟩ (.bool false)).setCell ⟨w5.heap.size, 1, none⟩ (.slice a2 n2 c2)).setCell ⟨w5.heap.size, 2, none⟩ (.int .i64 1024)) := (((Below.refl _ _).setCell (p := ⟨w5.heap.size, 0, none⟩) (Nat.le_refl _) _).setCell (p := ⟨w5.heap.size, 1, none⟩) (Nat.le_refl _) _).setCell (p := ⟨w5.heap.size, 2, none⟩) (Nat.le_refl _) _
 replace f0 := (bS.frozen (p := ⟨w.heap.size, 0, none⟩) lz).trans f0
 replace z0 := (bS.cell (p := ⟨w.heap.size, 0, none⟩) lz).trans z0
 replace f1 := (bS.frozen (p := ⟨w.heap.size, 1, none⟩) lz).trans f1
 replace z1 := (bS.cell (p := ⟨w.heap.size, 1, none⟩) lz).trans z1
 replace f2 := (bS.frozen (p := ⟨w.heap.size, 2, none⟩) lz).trans f2
 replace z2 := (bS.cell (p := ⟨w.heap.size, 2, none⟩) lz).trans z2
 replace b5 := ((b5.setCell (p := ⟨w5.heap.size, 0, none⟩) (Nat.le_refl _) (.bool false)).setCell (p := ⟨w5.heap.size, 1, none⟩) (Nat.le_refl _) (.slice a2 n2 c2)).setCell (p := ⟨w5.heap.size, 2, none⟩) (Nat.le_refl _) (.int .i64 1024)
 have Il := (((hO2.far ⟨w5.heap.size, 0, none⟩ (.bool false) l6).far ⟨w5.heap.size, 1, none⟩ (.slice a2 n2 c2) l6).far ⟨w5.heap.size, 2, none⟩ (.int .i64 1024) l6).1
 clear hO2
 replace Ih := IsW.keep I5.out b5
 replace bA := ((bA.setCell (p := ⟨w5.heap.size, 0, none⟩) (Nat.le_of_lt lz) (.bool false)).setCell (p := ⟨w5.heap.size, 1, none⟩) (Nat.le_of_lt lz) (.slice a2 n2 c2)).setCell (p := ⟨w5.heap.size, 2, none⟩) (Nat.le_of_lt lz) (.int .i64 1024)
 have hT0 := HTw.out.kept bA
 replace hs : Hid (w.heap.size + 1 ≤ (((w7.setCell ⟨w5.heap.size, 0, none⟩ (.bool false)).setCell ⟨w5.heap.size, 1, none⟩ (.slice a2 n2 c2)).setCell ⟨w5.heap.size, 2, none⟩ (.int .i64 1024)).heap.size) := Nat.le_trans hs.out bS.size
 clear bS b5 p0 p1 p2 q0 q1 q2 qf0 qf1 qf2 I5
 generalize (((w7.setCell ⟨w5.heap.size, 0, none⟩ (.bool false)).setCell ⟨w5.heap.size, 1, none⟩ (.slice a2 n2 c2)).setCell ⟨w5.heap.size, 2, none⟩ (.int .i64 1024)) = w8 at *
 refine Calls.mono (HA.out _ _ _ _ _ _ _ Ih hn1 Il hn2 hT0) ?_
 rintro r w9 ⟨_, rfl, ⟨a3, n3, c3, rfl, -, hn3, hO3⟩, bN⟩
 replace f0 := kF bN z0 f0
 replace f1 := kF bN z1 f1
 replace f2 := kF bN z2 f2
 replace z0 := kC bN z0
 replace z1 := kC bN z1
 replace z2 := kC bN z2
 replace Ih := IsW.keep Ih bN
 replace Il := IsW.keep Il bN
 replace hT0 := hT0.kept bN
 replace bA := nT bA bN
 replace hs := le_hidP hs bN.size
 clear bN
 have It := hO3.1
 clear hO3
 have bB := below_one w9 (.cells #[.bool S.1, .slice a3 n3 c3, .int .i64 S.2.2] 27)
 obtain ⟨t0, t1, t2⟩ := fX10 w9 S a3 n3 c3
 replace f0 := kF bB z0 f0
 replace f1 := kF bB z1 f1
 replace f2 := kF bB z2 f2
 replace z0 := kC bB z0
 replace z1 := kC bB z1
 replace z2 := kC bB z2
 replace Ih := IsW.keep Ih bB
 replace Il := IsW.keep Il bB
 replace It := IsW.keep It bB
 replace hT0 := hT0.kept bB
 replace bA := nT bA bB
 replace hs := le_hidP hs bB.size
 clear bB
 go_wp2_with fail
 generalize (w9.alloc (.cells #[.bool S.1, .slice a3 n3 c3, .int .i64 S.2.2] 27)) = w10 at *
 have hlow : w.heap.size + 1 ≤ w10.heap.size := hs
 refine Calls.mono (HS.out _ _ _ _ It hn3 hT0) ?_
 rintro r w11 ⟨_, rfl, ⟨a4, n4, c4, rfl, HN4, hn4, hO4⟩, bN⟩
 replace f0 := kF bN z0 f0
 replace f1 := kF bN z1 f1
 replace f2 := kF bN z2 f2
 replace z0 := kC bN z0
 replace z1 := kC bN z1
 replace z2 := kC bN z2
 replace t0 := kC bN t0
 replace t1 := kC bN t1
 replace t2 := kC bN t2
 replace Ih := IsW.keep Ih bN
 replace Il := IsW.keep Il bN
 replace It := IsW.keep It bN
 replace hT0 := hT0.kept bN
 replace bA := nT bA bN
 replace hs := le_hidP hs bN.size
 clear bN
 have hO4' := hO4.low hlow
 clear hO4 hlow
 go_wp2_with fail
 refine bodyPost_ret (v := .tuple #[dyV M.1 a4 n4 c4 M.2.2, .int .i64 0]) (by simp [results, Tryz.results27, go_sem, z0, z1, z2]) rfl ⟨_, rfl, ⟨a4, n4, c4, rfl, HN4, hn4, ?_⟩, ?_⟩
 ·exact (((hO4'.far _ _ (by simp)).far _ _ (by simp)).far _ _ (by simp)).low (by omega)
 ·repeat (first | with_reducible exact bA | refine Below.setCell ?_ (by simp) _)
theorem pMid_calls (x : Int) (w : World) (ux : U x) (hT : Tab w) :
  Calls Tryz.prog 27 #[.int .u64 x] w fun r w' => ∃ v', r = .returned (.tuple #[v', .int .i64 (lastE x)]) ∧ DyAt w.heap.size w' v' (midP x) ∧ Below w.heap.size w w' := by
 cases hx : finB x with
 | false =>
  have e1 : lastE x = 5 := by unfold lastE; rw [hx]; rfl
  have e2 : midP x = (false, 0, 0) := by unfold midP; rw [hx]; rfl
  rw [e1, e2]
  refine Calls.mono (mid_bad x w ux hT hx) ?_
  rintro r w' ⟨rfl, hb⟩
  exact ⟨_, rfl, dyAt_zero _ _, hb⟩
 | true =>
  have e1 : lastE x = 0 := by unfold lastE; rw [hx]; rfl
  have e2 : midP x = midQ x := by unfold midP; rw [hx]; rfl
  rw [e1, e2]
  cases hy : finB (upV x) with
  | true => exact mid_A x w ux hT hx hy
  | false => exact mid_B x w ux hT hx hy
end Go.Proofs.YtionhpedghmecaaGreatDoor
