/- What alg tells of a binary64, of squares and their sum: bounds and room; the answers (pure). -/
import Derived.Test.YtiijfnaaekmpbaaGreatDoorRNX
import Derived.Test.YtiijfnaaekmpbaaGreatDoorTMS
import Derived.Test.YtiijfnaaekmpbaaGreatDoorDTm1
namespace Go.Proofs.YtiijfnaaekmpbaaGreatDoor
open Go.RowKit

theorem fa_can (x : Int) : CanD (fromP x) := by
  unfold fromP
  split
  · exact form_can _ _ _
  · exact Or.inl rfl
theorem fa_cnt (x : Int) : (countV x).toNat < 2 ^ 53 := by
  have := frac_bd x
  unfold countV
  split <;> omega
theorem fa_unit (x : Int) : -1074 ≤ unitV x ∧ unitV x ≤ 972 := by
  have := exp_bd x
  unfold unitV
  split <;> omega
theorem fa_bd (x : Int) : blen (fromP x).2.1 ≤ 53 ∧ -1074 ≤ (fromP x).2.2 ∧ (fromP x).2.2 ≤ 1030 := by
  unfold fromP
  split
  · unfold fromD
    have hc := (blen_le _ 53).2 (fa_cnt x)
    have hu := fa_unit x
    refine ⟨Nat.le_trans (blen_mono (form_amount_le _ _ _)) hc, form_lo _ _ _ _ hu.1 (by decide), ?_⟩
    by_cases h0 : (countV x).toNat = 0
    · rw [h0, form_zero]; decide
    · rw [form_pos _ h0]
      have := tz_le_blen (countV x).toNat
      show unitV x + (tz (countV x).toNat : Int) ≤ 1030
      omega
  · exact ⟨by decide, by decide, by decide⟩
theorem fa_right (x : Int) : rightB (fromP x).2.1 (fromP x).2.2 = true := by
  have := fa_bd x
  unfold rightB inB
  rw [(great_not _).2 (by omega)]
  simp
  omega
theorem sum_canA {x y : Bool × Nat × Int} (hx : CanD x) (hy : CanD y) : CanD (sumD x y) := by
  have ha : ∀ s A t b e, CanD (addHi s A t b e) := fun s A t b e => by
    unfold addHi
    split
    · exact form_can _ _ _
    · split <;> exact form_can _ _ _
  unfold sumD
  split
  · exact hy
  · split
    · exact hx
    · split <;> exact ha _ _ _ _ _

end Go.Proofs.YtiijfnaaekmpbaaGreatDoor
