/- The walks of the document's products. The walk of the document's Mul. The document's dyadic numbers: the product. The document's dyadic numbers: Add, Sub, Mul; the program's in the same words. The document's dyadic numbers: Trim. The document's dyadic numbers: Cut; the program's Cut in the same words. -/
import Derived.Test.YtbhneifafnoaiaaGreatDoorNMX
import Derived.Test.YtbhneifafnoaiaaGreatDoorTMH
import Derived.Deep.LoopGhost
import Derived.Test.YtbhneifafnoaiaaGreatDoorRD13
import Derived.Test.YtbhneifafnoaiaaGreatDoorTMJ
import Derived.Test.YtbhneifafnoaiaaGreatDoorTMQ
import Derived.Test.YtbhneifafnoaiaaGreatDoorTMF

namespace Go.Proofs.YtbhneifafnoaiaaGreatDoor
open Go.RowKit
end Go.Proofs.YtbhneifafnoaiaaGreatDoor

namespace Go.Proofs.YtbhneifafnoaiaaGreatDoor
open Go.RowKit
end Go.Proofs.YtbhneifafnoaiaaGreatDoor

namespace Go.Proofs.YtbhneifafnoaiaaGreatDoor
open Go.RowKit
attribute [local go_sem ↓] Go.wp_at_zero Go.wp_at_succ
end Go.Proofs.YtbhneifafnoaiaaGreatDoor

namespace Go.Proofs.YtbhneifafnoaiaaGreatDoor
open Go.RowKit
def twE (b : Bool) (p : Bool × Nat × Int) : Int := if b = true then roomE p else 2
def twP (b : Bool) (p : Bool × Nat × Int) : Bool × Nat × Int := if b = true then roomP p else (false, 0, 0)
theorem form_turn (t : Bool) (m : Nat) (f : Int) : formD (!t) m f = negD (formD t m f) := by
 by_cases h0 : m = 0
 ·rw [h0, form_zero, form_zero]; rfl
 ·rw [form_pos _ h0, form_pos _ h0]
  have h1 := (odd_part h0).1
  have h2 : ¬ m / 2 ^ tz m = 0 := fun q => by rw [q] at h1; exact absurd h1 (by decide)
  unfold negD
  simp [h2]
theorem sumlen (x y : Bool × Nat × Int) (hx : blen x.2.1 ≤ 10000000) (hy : blen y.2.1 ≤ 10000000) (ex : -20000000 ≤ x.2.2 ∧ x.2.2 ≤ 20000000) (ey : -20000000 ≤ y.2.2 ∧ y.2.2 ≤ 20000000) : (wO (sumD x y).2.1).length ≤ 2000001 := by
 have kx : (wO x.2.1).length ≤ 200000 := (words_len2 _ _).2 (by omega)
 have ky : (wO y.2.1).length ≤ 200000 := (words_len2 _ _).2 (by omega)
 by_cases h1 : x.2.1 = 0
 ·have : sumD x y = y := by unfold sumD; rw [if_pos h1]
  rw [this]; omega
 ·by_cases h2 : y.2.1 = 0
  ·have : sumD x y = x := by unfold sumD; rw [if_neg h1, if_pos h2]
   rw [this]; omega
  ·obtain ⟨ee, hee⟩ : ∃ ee : Int, min x.2.2 y.2.2 = ee := ⟨_, rfl⟩
   obtain ⟨i, hi⟩ : ∃ i : Nat, x.2.2 - ee = (i : Int) := ⟨(x.2.2 - ee).toNat, by omega⟩
   obtain ⟨j, hj⟩ : ∃ j : Nat, y.2.2 - ee = (j : Int) := ⟨(y.2.2 - ee).toNat, by omega⟩
   have hib : i ≤ 50000000 := by omega
   have hjb : j ≤ 50000000 := by omega
   have hMb : blen (x.2.1 * 2 ^ i) ≤ 60000000 := by rw [blen_mul _ _ h1]; omega
   have hNb : blen (y.2.1 * 2 ^ j) ≤ 60000000 := by rw [blen_mul _ _ h2]; omega
   have hMl : (wO (x.2.1 * 2 ^ i)).length ≤ 1000000 := (words_len2 _ _).2 (by omega)
   have hNl : (wO (y.2.1 * 2 ^ j)).length ≤ 1000000 := (words_len2 _ _).2 (by omega)
   have key : (sumD x y).2.1 ≤ x.2.1 * 2 ^ i + y.2.1 * 2 ^ j := by
    rw [plus_q x y h1 h2 ee hee i hi j hj]
    split
    ·exact form_amount_le _ _ _
    ·split
     ·exact Nat.le_trans (form_amount_le _ _ _) (by omega)
     ·exact Nat.le_trans (form_amount_le _ _ _) (by omega)
   have h3 := words_len_mono key
   have h4 := sum_wordsQ (x.2.1 * 2 ^ i) (y.2.1 * 2 ^ j)
   omega
theorem pSub_calls (s : Bool) (a : Option Addr) (len cap : Nat) (xs : List Int) (e : Int) (t : Bool) (b : Option Addr) (len' cap' : Nat) (ys : List Int) (f : Int) (w : World) (h : IsW w a len cap xs) (hm : len ≤ 17592186044000) (h' : IsW w b len' cap' ys) (hm' : len' ≤ 17592186044000) (hT : Tab w) :
  Calls Tryz.prog 35 #[dyV s a len cap e, dyV t b len' cap' f] w fun r w' => ∃ v', r = .returned (.tuple #[v', .int .i64 (twE (rightB (val xs) e && rightB (val ys) f) (sumD (formD s (val xs) e) (negD (formD t (val ys) f))))]) ∧ DyAt w.heap.size w' v' (twP (rightB (val xs) e && rightB (val ys) f) (sumD (formD s (val xs) e) (negD (formD t (val ys) f)))) ∧ Below w.heap.size w w' := by
 cases hr : (rightB (val xs) e && rightB (val ys) f) with
 | false =>
  refine (dsub_not s a len cap xs e t b len' cap' ys f w h (by omega) h' (by omega) hr).mono ?_
  rintro r w' ⟨rfl, hb⟩
  exact ⟨_, rfl, dyAt_zero _ _, hb⟩
 | true =>
  obtain ⟨r1, r2⟩ := Bool.and_eq_true_iff.1 hr
  exact dsub_yes s a len cap xs e t b len' cap' ys f w h (by omega) h' (by omega) hT r1 r2
end Go.Proofs.YtbhneifafnoaiaaGreatDoor

namespace Go.Proofs.YtbhneifafnoaiaaGreatDoor
open Go.RowKit
end Go.Proofs.YtbhneifafnoaiaaGreatDoor

namespace Go.Proofs.YtbhneifafnoaiaaGreatDoor
open Go.RowKit
end Go.Proofs.YtbhneifafnoaiaaGreatDoor
