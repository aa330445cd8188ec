/- The document's dyadic numbers: the sum; both brought to their one form. -/
import Derived.Test.YtfgemlgmhlidmaaGreatDoorTMH
import Derived.Test.YtfgemlgmhlidmaaGreatDoorTMF
import Derived.Deep.CutRange
import Derived.Deep.RegionHeld3
namespace Go.Proofs.YtfgemlgmhlidmaaGreatDoor
open Go.RowKit

theorem bl_alloc {w W : World} (h : Below w.heap.size w W) (o : Obj) : Below w.heap.size w (W.alloc o) := Below.alloc h h.size o
theorem nz_len {n m : Nat} (h : n = (wordsOf m).length) (h0 : m ≠ 0) : ((n : Int) == 0) = false := by
  have : n ≠ 0 := fun q => h0 ((words_nil _).1 (List.length_eq_zero_iff.1 (by rw [← h]; exact q)))
  simp; omega
theorem plus_q (x y : Bool × Nat × Int) (hx : x.2.1 ≠ 0) (hy : y.2.1 ≠ 0) (ee : Int) (he : min x.2.2 y.2.2 = ee) (i : Nat) (hi : x.2.2 - ee = (i : Int)) (j : Nat) (hj : y.2.2 - ee = (j : Int)) :
    sumD x y = if x.1 = y.1 then formD x.1 (x.2.1 * 2 ^ i + y.2.1 * 2 ^ j) ee else if y.2.1 * 2 ^ j ≤ x.2.1 * 2 ^ i then formD x.1 (x.2.1 * 2 ^ i - y.2.1 * 2 ^ j) ee else formD y.1 (y.2.1 * 2 ^ j - x.2.1 * 2 ^ i) ee := by
  unfold sumD addHi
  rw [if_neg hx, if_neg hy]
  by_cases h : x.2.2 < y.2.2
  · have e1 : ee = x.2.2 := by omega
    have e2 : i = 0 := by omega
    have e3 : (y.2.2 - x.2.2).toNat = j := by omega
    rw [if_pos h, e3, e1, e2, Nat.pow_zero, Nat.mul_one]
    by_cases hs : x.1 = y.1
    · rw [if_pos hs.symm, if_pos hs, hs, Nat.add_comm]
    · rw [if_neg (fun q => hs q.symm), if_neg hs]
      by_cases hc : x.2.1 ≤ y.2.1 * 2 ^ j
      · by_cases hd : y.2.1 * 2 ^ j ≤ x.2.1
        · have : x.2.1 = y.2.1 * 2 ^ j := by omega
          rw [if_pos hc, if_pos hd, ← this, Nat.sub_self, form_zero, form_zero]
        · rw [if_pos hc, if_neg hd]
      · rw [if_neg hc, if_pos (by omega)]
  · have e1 : ee = y.2.2 := by omega
    have e2 : j = 0 := by omega
    have e3 : (x.2.2 - y.2.2).toNat = i := by omega
    rw [if_neg h, e3, e1, e2, Nat.pow_zero, Nat.mul_one]
attribute [local go_sem ↓] Go.wp_at_zero Go.wp_at_succ

end Go.Proofs.YtfgemlgmhlidmaaGreatDoor
