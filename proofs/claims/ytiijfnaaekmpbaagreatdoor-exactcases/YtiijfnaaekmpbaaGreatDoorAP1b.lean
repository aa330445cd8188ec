/- What alg tells of a binary64, of squares and their sum: bounds and room; the answers (pure). -/
import Derived.Test.YtiijfnaaekmpbaaGreatDoorRNX
import Derived.Test.YtiijfnaaekmpbaaGreatDoorTMS
import Derived.Test.YtiijfnaaekmpbaaGreatDoorDTm1
namespace Go.Proofs.YtiijfnaaekmpbaaGreatDoor
open Go.RowKit
theorem fa_can (x : Int) : CanD (fromP x) := by
 unfold fromP
 split
 ·exact form_can _ _ _
 ·exact Or.inl rfl
theorem fa_cnt (x : Int) : (countV x).toNat < 2 ^ 53 := by
 have := frac_bd x
 unfold countV
 split <;> omega
theorem fa_unit (x : Int) : -1074 ≤ unitV x ∧ unitV x ≤ 972 := by
 have := exp_bd x
 unfold unitV
 split <;> omega
theorem fa_bd (x : Int) : blen (fromP x).2.1 ≤ 53 ∧ -1074 ≤ (fromP x).2.2 ∧ (fromP x).2.2 ≤ 1030 := by
 unfold fromP
 split
 ·unfold fromD
  have hc := (blen_le _ 53).2 (fa_cnt x)
  have hu := fa_unit x
  refine ⟨Nat.le_trans (blen_mono (form_amount_le _ _ _)) hc, form_lo _ _ _ _ hu.1 (by decide), ?_⟩
  by_cases h0 : (countV x).toNat = 0
  ·rw [h0, form_zero]; decide
  ·rw [form_pos _ h0]
   have := tz_le_blen (countV x).toNat
   show unitV x + (tz (countV x).toNat : Int) ≤ 1030
   omega
 ·exact ⟨by decide, by decide, by decide⟩
theorem fa_right (x : Int) : rightB (fromP x).2.1 (fromP x).2.2 = true := by
 have := fa_bd x
 unfold rightB inB
 rw [(great_not _).2 (by omega)]
 simp
 omega
theorem sum_canA {x y : Bool × Nat × Int} (hx : CanD x) (hy : CanD y) : CanD (sumD x y) := by
 have ha : ∀ s A t b e, CanD (addHi s A t b e) := fun s A t b e => by
  unfold addHi
  split
  ·exact form_can _ _ _
  ·split <;> exact form_can _ _ _
 unfold sumD
 split
 ·exact hy
 ·split
  ·exact hx
  ·split <;> exact ha _ _ _ _ _
theorem units_bd {p : Bool × Nat × Int} (hc : CanD p) (E : Int) (K : Nat) (hE : E ≤ p.2.2) (hE0 : -30000 ≤ E ∧ E ≤ 0) (hK : (K : Int) + E ≤ 30000) (h : (vI p E).natAbs < 2 ^ K) :
  roomE p = 0 ∧ roomP p = p ∧ rightB p.2.1 p.2.2 = true ∧ (p.2.1 ≠ 0 → p.2.2 + (blen p.2.1 : Int) ≤ K + E) := by
 have h4 : (vI p E).natAbs = p.2.1 * 2 ^ (p.2.2 - E).toNat := by
  unfold vI
  rw [Int.natAbs_mul, Int.natAbs_natCast]
  have : (sI p.1).natAbs = 1 := by unfold sI; split <;> rfl
  rw [this, Nat.one_mul]
 rw [h4] at h
 have hb : p.2.1 ≠ 0 → (blen p.2.1 : Int) + (p.2.2 - E) ≤ K := fun h0 => by
  have q := (blen_le _ _).2 h
  rw [blen_mul _ _ h0] at q
  omega
 have key : greatB p.2.1 = false ∧ inB p.2.2 = true := by
  by_cases h0 : p.2.1 = 0
  ·have hp : p = (false, 0, 0) := by
    rcases hc with q | q
    ·exact q
    ·rw [h0] at q; exact absurd q (by decide)
   rw [hp]
   exact ⟨by decide +kernel, by decide⟩
  ·have := hb h0
   refine ⟨(great_not _).2 (by omega), ?_⟩
   unfold inB
   rw [decide_eq_true_eq]
   omega
 obtain ⟨r1, r2⟩ := room_yes key.1 key.2
 refine ⟨r1, r2, ?_, fun h0 => by have := hb h0; omega⟩
 unfold rightB
 rw [key.1, key.2]
 rfl
end Go.Proofs.YtiijfnaaekmpbaaGreatDoor
