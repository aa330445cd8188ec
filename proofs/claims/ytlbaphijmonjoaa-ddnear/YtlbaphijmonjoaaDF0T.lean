/- What two floats are together, as dyadic numbers: it has room. -/
import Derived.Test.YtlbaphijmonjoaaDVal
import Derived.Test.YtlbaphijmonjoaaPFrom2
namespace Go.Proofs.Ytlbaphijmonjoaa
open Go.RowKit

theorem fr_can (x : Int) : CanD (fromP x) := by
  unfold fromP
  split
  · exact form_can _ _ _
  · exact Or.inl rfl
theorem cnt_lt (x : Int) : (countV x).toNat < 2 ^ 53 := by
  have := frac_bd x
  unfold countV
  split <;> omega
theorem unit_bd (x : Int) : -1074 ≤ unitV x ∧ unitV x ≤ 972 := by
  have := exp_bd x
  unfold unitV
  split <;> omega
theorem form_lo (s : Bool) (m : Nat) (e E : Int) (hE : E ≤ 0) (h : E ≤ e) : E ≤ (formD s m e).2.2 := by
  by_cases h0 : m = 0
  · rw [h0, form_zero]; exact hE
  · rw [form_pos s h0]; show E ≤ e + (tz m : Int); omega
theorem fr_low (x : Int) : -1074 ≤ (fromP x).2.2 := by
  unfold fromP
  split
  · exact form_lo _ _ _ _ (by decide) (unit_bd x).1
  · decide
theorem fr_right (x : Int) : rightB (fromP x).2.1 (fromP x).2.2 = true := by
  have hl := fr_low x
  have hb : blen (fromP x).2.1 ≤ 53 ∧ (fromP x).2.2 ≤ 1025 := by
    unfold fromP
    split
    · unfold fromD
      have hc := (blen_le _ 53).2 (cnt_lt x)
      refine ⟨Nat.le_trans (blen_mono (form_amount_le _ _ _)) hc, ?_⟩
      by_cases h0 : (countV x).toNat = 0
      · rw [h0, form_zero]; decide
      · rw [form_pos _ h0]
        have := unit_bd x
        have := tz_le_blen (countV x).toNat
        show unitV x + (tz (countV x).toNat : Int) ≤ 1025
        omega
    · exact ⟨by decide, by decide⟩
  unfold rightB inB
  rw [(great_not _).2 (by omega)]
  simp
  omega
theorem pow_two_lt {m i K : Nat} (hm : m < 2 ^ 53) (hi : i + 53 ≤ K) : m * 2 ^ i < 2 ^ K := by
  have h1 : m * 2 ^ i < 2 ^ 53 * 2 ^ i := Nat.mul_lt_mul_of_pos_right hm (Nat.two_pow_pos _)
  rw [← Nat.pow_add] at h1
  exact Nat.lt_of_lt_of_le h1 (Nat.pow_le_pow_right (by decide) (by omega))
theorem fr_units (x : Int) (K : Nat) (hK : 2099 ≤ K) : (vI (fromP x) (-1074)).natAbs < 2 ^ K := by
  unfold fromP
  split
  · unfold fromD
    have hu := unit_bd x
    rw [vI_form _ _ _ _ hu.1, Int.natAbs_mul]
    have h1 : (sI (sgnB x)).natAbs = 1 := by unfold sI; split <;> rfl
    rw [h1, Nat.one_mul, Int.natAbs_natCast]
    exact pow_two_lt (cnt_lt x) (by omega)
  · rw [vI_zero rfl]
    exact Nat.two_pow_pos _
theorem sum_canF {x y : Bool × Nat × Int} (hx : CanD x) (hy : CanD y) : CanD (sumD x y) := by
  have ha : ∀ s A t b e, CanD (addHi s A t b e) := fun s A t b e => by
    unfold addHi
    split
    · exact form_can _ _ _
    · split <;> exact form_can _ _ _
  unfold sumD
  split
  · exact hy
  · split
    · exact hx
    · split <;> exact ha _ _ _ _ _
theorem fr_sum_room (x y : Int) : roomE (sumD (fromP x) (fromP y)) = 0 ∧ roomP (sumD (fromP x) (fromP y)) = sumD (fromP x) (fromP y) := by
  obtain ⟨K, hK⟩ : ∃ K : Nat, K = 2099 := ⟨_, rfl⟩
  have h1 := fr_units x K (by omega)
  have h2 := fr_units y K (by omega)
  have hs := vI_sum (fromP x) (fromP y) (-1074) (fr_low x) (fr_low y)
  have hlo := sum_low (fromP x) (fromP y) (-1074) (by decide) (fr_low x) (fr_low y)
  have hc := sum_canF (fr_can x) (fr_can y)
  generalize sumD (fromP x) (fromP y) = p at *
  have h3 : (vI p (-1074)).natAbs < 2 ^ (K + 1) := by
    rw [hs, Nat.pow_succ]
    generalize 2 ^ K = B at *
    omega
  have h4 : (vI p (-1074)).natAbs = p.2.1 * 2 ^ (p.2.2 - -1074).toNat := by
    unfold vI
    rw [Int.natAbs_mul, Int.natAbs_natCast]
    have : (sI p.1).natAbs = 1 := by unfold sI; split <;> rfl
    rw [this, Nat.one_mul]
  rw [h4] at h3
  have h5 : p.2.1 < 2 ^ (K + 1) := Nat.lt_of_le_of_lt (Nat.le_mul_of_pos_right _ (Nat.two_pow_pos _)) h3
  have h6 := (blen_le _ _).2 h5
  by_cases h0 : p.2.1 = 0
  · have hp : p = (false, 0, 0) := by
      rcases hc with q | q
      · exact q
      · rw [h0] at q; exact absurd q (by decide)
    rw [hp]
    exact room_yes (p := (false, 0, 0)) (by decide +kernel) (by decide)
  · have h7 : 2 ^ (p.2.2 - -1074).toNat < 2 ^ (K + 1) := Nat.lt_of_le_of_lt (Nat.le_mul_of_pos_left _ (Nat.pos_of_ne_zero h0)) h3
    have h8 := (Nat.pow_lt_pow_iff_right (by decide : 1 < 2)).1 h7
    refine room_yes ((great_not _).2 (by omega)) ?_
    unfold inB
    rw [decide_eq_true_eq]
    omega
end Go.Proofs.Ytlbaphijmonjoaa
