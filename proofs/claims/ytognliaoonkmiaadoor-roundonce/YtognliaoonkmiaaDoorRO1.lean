/- A binary64's own number is rounded to it; how far what is answered, and its neighbours, lie off (pure). -/
import Derived.Test.YtognliaoonkmiaaDoorRO0
import Derived.Test.YtognliaoonkmiaaDoorRN8
import Derived.Test.YtognliaoonkmiaaDoorRNY
namespace Go.Proofs.YtognliaoonkmiaaDoor
open Go.RowKit

theorem near_exact (m : Nat) (e : Int) (K : Nat) (hK : K = 32768) (he : -32768 ≤ e) (c k : Nat) (hc : c < 9007199254740992) (hk : k = 0 ∨ 4503599627370496 ≤ c) (hk2 : k ≤ 2045) (hT : m * 2 ^ (e + K).toNat = c * 2 ^ (k + (K - 1074))) (h0 : c ≠ 0) :
    nearW m e = (k : Int) * 4503599627370496 + (c : Int) ∧ exactB m e = true ∧ m ≠ 0 := by
  have hp := Nat.two_pow_pos (k + (K - 1074))
  have hm0 : m ≠ 0 := fun q => by
    rw [q, Nat.zero_mul] at hT
    rcases Nat.mul_eq_zero.1 hT.symm with z | z
    · exact h0 z
    · omega
  have tp := tp_T m e K (by omega) hm0
  have up : m * 2 ^ (e + K).toNat < 2 ^ (53 + (k + (K - 1074))) := by
    rw [hT, Nat.pow_add 2 53]
    exact Nat.mul_lt_mul_of_pos_right (by rw [show (2 : Nat) ^ 53 = 9007199254740992 by decide]; exact hc) hp
  have hb := (blen_le _ _).2 up
  have hl : lsI m e = (k : Int) - 1074 ∧ tpI m e < 1024 := by
    unfold lsI
    rcases hk with q | q
    · subst q
      rw [tp]
      split <;> omega
    · have lo : ¬ blen (m * 2 ^ (e + K).toNat) ≤ 52 + (k + (K - 1074)) := fun w => by
        have h2 := (blen_le _ _).1 w
        rw [hT, Nat.pow_add 2 52] at h2
        have h3 : 2 ^ 52 * 2 ^ (k + (K - 1074)) ≤ c * 2 ^ (k + (K - 1074)) := Nat.mul_le_mul_right _ (show 2 ^ 52 ≤ c from by rw [show (2 : Nat) ^ 52 = 4503599627370496 by decide]; omega)
        omega
      rw [tp]
      split <;> omega
  obtain ⟨hl, ht⟩ := hl
  refine ⟨?_, ?_, hm0⟩
  · unfold nearW
    rw [if_neg hm0, if_neg (by omega), hl, rd_T m e _ K (by omega) (by omega), hT, show ((k : Int) - 1074 + K).toNat = k + (K - 1074) by omega, hv_exact]
    omega
  · unfold exactB
    rw [if_neg hm0, if_neg (by omega), hl, ls_T m e _ K (by omega) (by omega), hT, show ((k : Int) - 1074 + K).toNat = k + (K - 1074) by omega]
    unfold lostB
    rw [Nat.mul_mod_left]
    rfl
theorem from_rightO (x : Int) (ux : U x) : rightB (fromP x).2.1 (fromP x).2.2 = true := by
  cases hx : finB x with
  | false => unfold fromP; rw [hx, if_neg (by decide)]; decide +kernel
  | true =>
    obtain ⟨K, hK⟩ : ∃ K : Nat, K = 32768 := ⟨_, rfl⟩
    have hf : x % 9223372036854775808 < 9218868437227405312 := by unfold finB at hx; simpa using hx
    have cf := cell_facts (x % 9223372036854775808) (by omega) hf
    rw [(cell_mod x).1, (cell_mod x).2] at cf
    refine right_val _ (from_can x).1 K hK (by have := (from_can x).2; omega) ?_
    rw [from_val x ux hx K hK]
    have ea : (sI (sgnB x) * ((cC x * 2 ^ (cK x + (K - 1074)) : Nat) : Int)).natAbs = cC x * 2 ^ (cK x + (K - 1074)) := by unfold sI; split <;> omega
    rw [ea]
    have h1 : cC x * 2 ^ (cK x + (K - 1074)) < 2 ^ 53 * 2 ^ (cK x + (K - 1074)) := Nat.mul_lt_mul_of_pos_right (by rw [show (2 : Nat) ^ 53 = 9007199254740992 by decide]; exact cf.1) (Nat.two_pow_pos _)
    rw [← Nat.pow_add] at h1
    exact Nat.lt_of_lt_of_le h1 (Nat.pow_le_pow_right (by decide) (by omega))
/-- what a finite binary64's own number is rounded to -/
theorem near_own (x : Int) (ux : U x) (hx : finB x = true) : erR (fromP x).2.1 (fromP x).2.2 = 0 ∧ flR (fromP x).1 (fromP x).2.1 (fromP x).2.2 = 0 ∧ (nbR (fromP x).1 (fromP x).2.1 (fromP x).2.2 = x ∨ (x = 9223372036854775808 ∧ nbR (fromP x).1 (fromP x).2.1 (fromP x).2.2 = 0)) := by
  obtain ⟨K, hK⟩ : ∃ K : Nat, K = 32768 := ⟨_, rfl⟩
  have hr := from_rightO x ux
  have hv := from_val x ux hx K hK
  have hf : x % 9223372036854775808 < 9218868437227405312 := by unfold finB at hx; simpa using hx
  have cf := cell_facts (x % 9223372036854775808) (by omega) hf
  rw [(cell_mod x).1, (cell_mod x).2] at cf
  have he := (rightB_yes hr).2
  have u := ux
  obtain ⟨u0, u1⟩ := u
  refine ⟨by unfold erR; rw [if_pos hr], ?_⟩
  unfold flR nbR
  rw [if_pos hr, if_pos hr]
  by_cases c0 : cC x = 0
  · have hV : x % 9223372036854775808 = 0 := by
      rcases cf.2.1 with q | q
      · rw [q, c0] at cf; omega
      · omega
    have hz : (fromP x) = (false, 0, 0) := by
      unfold fromP fromD
      rw [if_pos hx, show (countV x).toNat = 0 from c0, form_zero]
    rw [hz]
    have e1 : exactB 0 0 = true := rfl
    have e2 : nearB false 0 0 = 0 := rfl
    rw [e1, e2]
    refine ⟨rfl, ?_⟩
    by_cases q : x = 0
    · exact .inl q.symm
    · exact .inr ⟨by omega, rfl⟩
  · generalize hP : fromP x = P at *
    have h2 : P.1 = sgnB x ∧ P.2.1 * 2 ^ (P.2.2 + K).toNat = cC x * 2 ^ (cK x + (K - 1074)) := by
      have pos : 0 < cC x * 2 ^ (cK x + (K - 1074)) := Nat.mul_pos (by omega) (Nat.two_pow_pos _)
      cases hs : sgnB x with
      | false =>
        rw [hs, show sI false = 1 from rfl, Int.one_mul] at hv
        obtain ⟨a, b⟩ := val_pos P _ _ pos hv
        exact ⟨a, by rw [← b, show P.2.2 - -(K : Int) = P.2.2 + K by omega]⟩
      | true =>
        rw [hs, show sI true = -1 from rfl, Int.neg_one_mul] at hv
        obtain ⟨a, b⟩ := val_neg P _ _ pos hv
        exact ⟨a, by rw [← b, show P.2.2 - -(K : Int) = P.2.2 + K by omega]⟩
    obtain ⟨a, b⟩ := h2
    obtain ⟨n1, n2, n3⟩ := near_exact P.2.1 P.2.2 K hK he.1 (cC x) (cK x) cf.1 cf.2.1 cf.2.2.1 b c0
    rw [n2, if_pos rfl]
    refine ⟨rfl, .inl ?_⟩
    unfold nearB
    rw [a, n1, ← cf.2.2.2]
    unfold sgnB negV
    by_cases q : 9223372036854775808 ≤ x
    · rw [decide_eq_true q, Bool.true_and, if_pos (decide_eq_true n3)]; omega
    · rw [decide_eq_false q, Bool.false_and, if_neg (by decide)]; omega
/-- how far two numbers lie apart, as the statement reckons it -/
def farD (y d : Bool × Nat × Int) : Bool × Nat × Int := absD (sumD y (negD d))
theorem far_val (y d : Bool × Nat × Int) (K : Nat) (hK : K = 32768) (hy : -32768 ≤ y.2.2) (hd : -32768 ≤ d.2.2) : -32768 ≤ (farD y d).2.2 ∧ (farD y d).2.1 * 2 ^ ((farD y d).2.2 + K).toNat = (vI y (-(K : Int)) - vI d (-(K : Int))).natAbs := by
  have hn : (negD d).2.2 = d.2.2 := rfl
  have hl := sum_low y (negD d) (-32768) (by decide) hy (by rw [hn]; exact hd)
  have hs := vI_sum y (negD d) (-(K : Int)) (by omega) (by rw [hn]; omega)
  rw [vI_neg] at hs
  unfold farD
  refine ⟨hl, ?_⟩
  rw [show vI y (-(K : Int)) - vI d (-(K : Int)) = vI (sumD y (negD d)) (-(K : Int)) by rw [hs]; omega]
  generalize sumD y (negD d) = S at *
  unfold vI absD sI
  simp only [show S.2.2 - -(K : Int) = S.2.2 + K by omega]
  split <;> omega
theorem T_zeroQ (m z : Nat) : m * 2 ^ z = 0 ↔ m = 0 := by
  have := Nat.two_pow_pos z
  constructor
  · intro h
    rcases Nat.mul_eq_zero.1 h with k | k
    · exact k
    · omega
  · intro h
    rw [h, Nat.zero_mul]
theorem far_zero (y d : Bool × Nat × Int) (K : Nat) (hK : K = 32768) (hy : -32768 ≤ y.2.2) (hd : -32768 ≤ d.2.2) : (farD y d).2.1 = 0 ↔ vI y (-(K : Int)) = vI d (-(K : Int)) := by
  have h := (far_val y d K hK hy hd).2
  have z := T_zeroQ (farD y d).2.1 ((farD y d).2.2 + K).toNat
  rw [h] at z
  omega
theorem near_abs (Y N D : Int) (h : (Y < N ∧ 2 * D ≤ Y + N) ∨ (N < Y ∧ N + Y ≤ 2 * D)) : (Y - D).natAbs ≤ (N - D).natAbs := by omega
theorem numU (s : Bool) (m : Nat) (e : Int) : U (nearB s m e) := nearB_U s m e
theorem class_inf (x : Int) (ux : U x) (hn : numB x = true) : classV x = 4 ↔ finB x = false := by
  obtain ⟨u0, u1⟩ := ux
  have h : x % 9223372036854775808 ≤ 9218868437227405312 := by unfold numB at hn; simpa using hn
  unfold finB classV expV fracV
  rw [decide_eq_false_iff_not]
  split
  · split <;> omega
  · split
    · omega
    · split
      · omega
      · omega
theorem rung_num (x : Int) (ux : U x) (h : -9218868437227405312 ≤ rungV x ∧ rungV x ≤ 9218868437227405312) : numB x = true ∧ (finB x = true ↔ rungV x ≠ -9218868437227405312 ∧ rungV x ≠ 9218868437227405312) := by
  obtain ⟨u0, u1⟩ := ux
  unfold rungV at h ⊢
  unfold numB finB
  simp only [decide_eq_true_eq]
  split at h
  · rename_i c
    rw [if_pos c]
    omega
  · rename_i c
    rw [if_neg c]
    omega
/-- what RoundOnce asks of a number that is rounded to a finite one -/
theorem once_off (s : Bool) (m : Nat) (e : Int) (hr : rightB m e = true) (hf : finB (nearB s m e) = true) (z : Int) (hz : z = upV (nearB s m e) ∨ z = downV (nearB s m e)) : U z ∧ (classV z ≠ 4 → finB z = true ∧ cmpD (farD (fromP (nearB s m e)) (formD s m e)) (farD (fromP z) (formD s m e)) ≤ 0) := by
  obtain ⟨K, hK⟩ : ∃ K : Nat, K = 32768 := ⟨_, rfl⟩
  have uR := numU s m e
  have he := (rightB_yes hr).2
  have jn := (near_num s m e).2
  have bd := nearW_bd m e
  have rn := rung_num _ uR (by rw [jn]; unfold sI; split <;> omega)
  have hj := rn.2.1 hf
  rw [jn] at hj
  have hi : nearW m e ≠ 9218868437227405312 := fun q => by rw [q] at hj; unfold sI at hj; split at hj <;> omega
  obtain ⟨g1, g2⟩ := near_gap s m e K hK he.1 hi
  have jb : -9218868437227405312 < sI s * nearW m e ∧ sI s * nearW m e < 9218868437227405312 := by unfold sI; split <;> omega
  have mo1 := rV_mono (sI s * nearW m e) (K - 1074) (by omega) (by omega)
  have mo2 := rV_mono (sI s * nearW m e - 1) (K - 1074) (by omega) (by omega)
  rw [show sI s * nearW m e - 1 + 1 = sI s * nearW m e by omega] at mo2
  have eY := from_rung _ uR hf K hK
  rw [jn] at eY
  have eD : vI (formD s m e) (-(K : Int)) = sI s * ((m * 2 ^ (e + K).toNat : Nat) : Int) := by rw [vI_form _ _ _ _ (by omega), show e - -(K : Int) = e + K by omega]
  have hz2 : U z ∧ (rungV z = sI s * nearW m e + 1 ∨ rungV z = sI s * nearW m e - 1) := by
    rcases hz with q | q
    · obtain ⟨a, b⟩ := up_rung _ uR hf
      rw [q]; exact ⟨b, .inl (by rw [a, jn])⟩
    · obtain ⟨a, b⟩ := down_rung _ uR hf
      rw [q]; exact ⟨b, .inr (by rw [a, jn])⟩
  obtain ⟨uz, rz⟩ := hz2
  refine ⟨uz, fun hc => ?_⟩
  have nz := rung_num z uz (by omega)
  have fz : finB z = true := by
    cases q : finB z with
    | true => rfl
    | false => exact absurd ((class_inf z uz nz.1).2 q) hc
  refine ⟨fz, ?_⟩
  have eZ := from_rung z uz fz K hK
  have ly : -32768 ≤ (fromP (nearB s m e)).2.2 := by have := (from_can (nearB s m e)).2; omega
  have lz : -32768 ≤ (fromP z).2.2 := by have := (from_can z).2; omega
  have ld : -32768 ≤ (formD s m e).2.2 := form_lo _ _ _ _ (by omega) (by decide)
  obtain ⟨a1, a2⟩ := far_val _ _ K hK ly ld
  obtain ⟨b1, b2⟩ := far_val _ _ K hK lz ld
  have key : (vI (fromP (nearB s m e)) (-(K : Int)) - vI (formD s m e) (-(K : Int))).natAbs ≤ (vI (fromP z) (-(K : Int)) - vI (formD s m e) (-(K : Int))).natAbs := by
    refine near_abs _ _ _ ?_
    rw [eY, eZ, eD]
    rcases rz with q | q
    · rw [q]; exact .inl ⟨mo1, g1⟩
    · rw [q]; exact .inr ⟨mo2, g2⟩
  rw [vI_cmp _ _ K (by omega) (by omega), cmp_le]
  have f1 : ∀ S : Bool × Nat × Int, vI (absD S) (-(K : Int)) = (((absD S).2.1 * 2 ^ ((absD S).2.2 + K).toNat : Nat) : Int) := fun S => by
    unfold vI absD
    rw [show S.2.2 - -(K : Int) = S.2.2 + K by omega, show sI false = 1 from rfl, Int.one_mul]
  have f2 := f1 (sumD (fromP (nearB s m e)) (negD (formD s m e)))
  have f3 := f1 (sumD (fromP z) (negD (formD s m e)))
  unfold farD at a2 b2 ⊢
  rw [f2, f3, a2, b2]
  exact Int.ofNat_le.2 key
theorem once_flag (s : Bool) (m : Nat) (e : Int) (hr : rightB m e = true) (hf : finB (nearB s m e) = true) : exactB m e = decide ((farD (fromP (nearB s m e)) (formD s m e)).2.1 = 0) := by
  obtain ⟨K, hK⟩ : ∃ K : Nat, K = 32768 := ⟨_, rfl⟩
  have uR := numU s m e
  have he := (rightB_yes hr).2
  have jn := (near_num s m e).2
  have bd := nearW_bd m e
  have rn := rung_num _ uR (by rw [jn]; unfold sI; split <;> omega)
  have hj := rn.2.1 hf
  rw [jn] at hj
  have hi : nearW m e ≠ 9218868437227405312 := fun q => by rw [q] at hj; unfold sI at hj; split at hj <;> omega
  have eY := from_rung _ uR hf K hK
  rw [jn] at eY
  have eD : vI (formD s m e) (-(K : Int)) = sI s * ((m * 2 ^ (e + K).toNat : Nat) : Int) := by rw [vI_form _ _ _ _ (by omega), show e - -(K : Int) = e + K by omega]
  have ly : -32768 ≤ (fromP (nearB s m e)).2.2 := by have := (from_can (nearB s m e)).2; omega
  have ld : -32768 ≤ (formD s m e).2.2 := form_lo _ _ _ _ (by omega) (by decide)
  have fz := far_zero _ _ K hK ly ld
  rw [eY, eD] at fz
  have eR : rV (sI s * nearW m e) (K - 1074) = sI s * ((cv (nearW m e) (K - 1074) : Nat) : Int) := by
    cases s with
    | false =>
      show rV (1 * nearW m e) _ = 1 * _
      rw [Int.one_mul, Int.one_mul]
      unfold rV
      rw [if_pos bd.1]
    | true =>
      show rV (-1 * nearW m e) _ = -1 * _
      rw [Int.neg_one_mul, Int.neg_one_mul]
      unfold rV
      by_cases q : nearW m e = 0
      · rw [q, if_pos (by decide), show -(0 : Int) = 0 from rfl, cv_zero]; rfl
      · rw [if_neg (by omega), Int.neg_neg]
  rw [eR] at fz
  have inj : ∀ A B : Nat, (sI s * (A : Int) = sI s * (B : Int)) ↔ A = B := fun A B => by unfold sI; split <;> omega
  rw [inj] at fz
  rw [Bool.eq_iff_iff, decide_eq_true_eq, fz]
  by_cases h0 : m = 0
  · have e1 : exactB m e = true := by unfold exactB; rw [if_pos h0]
    have e2 : nearW m e = 0 := by unfold nearW; rw [if_pos h0]
    rw [e1, e2, cv_zero, h0, Nat.zero_mul]
    exact ⟨fun _ => rfl, fun _ => rfl⟩
  · obtain ⟨k, q, _, _, _, _, eV, eq, _, hx⟩ := near_parts m e K hK he.1 h0 hi
    rw [hx, eV]
    constructor
    · intro h
      obtain ⟨c, hc⟩ := Nat.dvd_of_mod_eq_zero h
      rw [Nat.mul_comm (2 ^ (k + (K - 1074))) c] at hc
      rw [eq, hc, hv_exact]
    · intro h
      rw [← h, Nat.mul_mod_left]
end Go.Proofs.YtognliaoonkmiaaDoor
