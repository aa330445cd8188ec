/- The document's dyadic numbers: Whole. The document's dyadic numbers: Add, Sub, Mul; the program's in the same words. -/
import Derived.Test.YtahpdcbmekgkfaaGreatDoorTMH
import Derived.Test.YtahpdcbmekgkfaaGreatDoorTMF
import Derived.Deep.LoopGhost
import Derived.Test.YtahpdcbmekgkfaaGreatDoorRD13
import Derived.Test.YtahpdcbmekgkfaaGreatDoorTMJ
import Derived.Test.YtahpdcbmekgkfaaGreatDoorNMX
import Derived.Test.YtahpdcbmekgkfaaGreatDoorTMQ

namespace Go.Proofs.YtahpdcbmekgkfaaGreatDoor
open Go.RowKit
def wholeD (p : Bool × Nat × Int) : Bool × Nat × Int := if 0 ≤ p.2.2 then p else formD p.1 (p.2.1 / 2 ^ (-p.2.2).toNat + (if p.1 = true then 1 else 0)) 0
theorem form_turn (t : Bool) (m : Nat) (f : Int) : formD (!t) m f = negD (formD t m f) := by
 by_cases h0 : m = 0
 ·rw [h0, form_zero, form_zero]; rfl
 ·rw [form_pos _ h0, form_pos _ h0]
  have h1 := (odd_part h0).1
  have h2 : ¬ m / 2 ^ tz m = 0 := fun q => by rw [q] at h1; exact absurd h1 (by decide)
  unfold negD
  simp [h2]
theorem sumlen (x y : Bool × Nat × Int) (hx : blen x.2.1 ≤ 10000000) (hy : blen y.2.1 ≤ 10000000) (ex : -20000000 ≤ x.2.2 ∧ x.2.2 ≤ 20000000) (ey : -20000000 ≤ y.2.2 ∧ y.2.2 ≤ 20000000) : (wO (sumD x y).2.1).length ≤ 2000001 := by
 have kx : (wO x.2.1).length ≤ 200000 := (words_len2 _ _).2 (by omega)
 have ky : (wO y.2.1).length ≤ 200000 := (words_len2 _ _).2 (by omega)
 by_cases h1 : x.2.1 = 0
 ·have : sumD x y = y := by unfold sumD; rw [if_pos h1]
  rw [this]; omega
 ·by_cases h2 : y.2.1 = 0
  ·have : sumD x y = x := by unfold sumD; rw [if_neg h1, if_pos h2]
   rw [this]; omega
  ·obtain ⟨ee, hee⟩ : ∃ ee : Int, min x.2.2 y.2.2 = ee := ⟨_, rfl⟩
   obtain ⟨i, hi⟩ : ∃ i : Nat, x.2.2 - ee = (i : Int) := ⟨(x.2.2 - ee).toNat, by omega⟩
   obtain ⟨j, hj⟩ : ∃ j : Nat, y.2.2 - ee = (j : Int) := ⟨(y.2.2 - ee).toNat, by omega⟩
   have hib : i ≤ 50000000 := by omega
   have hjb : j ≤ 50000000 := by omega
   have hMb : blen (x.2.1 * 2 ^ i) ≤ 60000000 := by rw [blen_mul _ _ h1]; omega
   have hNb : blen (y.2.1 * 2 ^ j) ≤ 60000000 := by rw [blen_mul _ _ h2]; omega
   have hMl : (wO (x.2.1 * 2 ^ i)).length ≤ 1000000 := (words_len2 _ _).2 (by omega)
   have hNl : (wO (y.2.1 * 2 ^ j)).length ≤ 1000000 := (words_len2 _ _).2 (by omega)
   have key : (sumD x y).2.1 ≤ x.2.1 * 2 ^ i + y.2.1 * 2 ^ j := by
    rw [plus_q x y h1 h2 ee hee i hi j hj]
    split
    ·exact form_amount_le _ _ _
    ·split
     ·exact Nat.le_trans (form_amount_le _ _ _) (by omega)
     ·exact Nat.le_trans (form_amount_le _ _ _) (by omega)
   have h3 := words_len_mono key
   have h4 := sum_wordsQ (x.2.1 * 2 ^ i) (y.2.1 * 2 ^ j)
   omega
end Go.Proofs.YtahpdcbmekgkfaaGreatDoor
