/- The walks of the document's products. The walk of the document's Mul. -/
import Derived.Test.YtjgnoaieplmoiaaGreatDoorNMM
import Derived.Test.YtjgnoaieplmoiaaGreatDoorNAR
import Derived.Deep.LoopGhost

namespace Go.Proofs.YtjgnoaieplmoiaaGreatDoor
open Go.RowKit

theorem half_parts (x y : Nat) : x * y = (x / 4294967296) * (y / 4294967296) * 18446744073709551616 + (x % 4294967296) * (y / 4294967296) * 4294967296 + (x / 4294967296) * (y % 4294967296) * 4294967296 + (x % 4294967296) * (y % 4294967296) := by
  have hx := Nat.div_add_mod x 4294967296
  have hy := Nat.div_add_mod y 4294967296
  conv => lhs; rw [← hx, ← hy]
  rw [Nat.add_mul, Nat.mul_add, Nat.mul_add]
  generalize x / 4294967296 = b
  generalize x % 4294967296 = a
  generalize y / 4294967296 = d
  generalize y % 4294967296 = c
  have e1 : 4294967296 * b * (4294967296 * d) = b * d * 18446744073709551616 := by rw [Nat.mul_mul_mul_comm, Nat.mul_comm (4294967296 * 4294967296)]
  have e2 : 4294967296 * b * c = b * c * 4294967296 := by rw [Nat.mul_assoc, Nat.mul_comm]
  have e3 : a * (4294967296 * d) = a * d * 4294967296 := by rw [Nat.mul_left_comm, Nat.mul_comm]
  rw [e1, e2, e3]; omega
theorem half_le (a c : Nat) (ha : a < 4294967296) (hc : c < 4294967296) : a * c ≤ 18446744065119617025 := by
  have := Nat.mul_le_mul (show a ≤ 4294967295 by omega) (show c ≤ 4294967295 by omega)
  omega

end Go.Proofs.YtjgnoaieplmoiaaGreatDoor

namespace Go.Proofs.YtjgnoaieplmoiaaGreatDoor
open Go.RowKit

theorem mulIn_step (M M' Y : List Int) (i j x y c t0 t hi : Nat) (hl : i + j < M'.length) (h0 : M'.getD (i + j) 0 = (t0 : Int)) (hy : Y.getD j 0 = (y : Int))
    (hv : val M' + 18446744073709551616 ^ (i + j) * c = val M + 18446744073709551616 ^ i * (x * low Y j)) (hw : t + 18446744073709551616 * hi = x * y + t0 + c) :
    val (M'.set (i + j) (t : Int)) + 18446744073709551616 ^ (i + (j + 1)) * hi = val M + 18446744073709551616 ^ i * (x * low Y (j + 1)) := by
  have e1 := val_set M' (i + j) (t : Int) hl
  rw [h0, Int.toNat_natCast, Int.toNat_natCast] at e1
  have e2 : low Y (j + 1) = low Y j + 18446744073709551616 ^ j * y := by show low Y j + _ * (Y.getD j 0).toNat = _; rw [hy, Int.toNat_natCast]
  have e3 := congrArg (18446744073709551616 ^ (i + j) * ·) hw
  simp only [Nat.mul_add] at e3
  have e4 : 18446744073709551616 ^ i * (x * (18446744073709551616 ^ j * y)) = 18446744073709551616 ^ (i + j) * (x * y) := by
    rw [Nat.pow_add, Nat.mul_left_comm x, Nat.mul_assoc]
  have e5 : 18446744073709551616 ^ (i + (j + 1)) * hi = 18446744073709551616 ^ (i + j) * (18446744073709551616 * hi) := by
    rw [← Nat.add_assoc, Nat.pow_succ, Nat.mul_assoc]
  rw [e2, Nat.mul_add, Nat.mul_add, e4, e5]
  omega
theorem mulOut_step (M M' X : List Int) (i m x c V : Nat) (hl : i + m < M'.length) (h0 : M'.getD (i + m) 0 = 0) (hx : X.getD i 0 = (x : Int))
    (hM : val M = low X i * V) (hv : val M' + 18446744073709551616 ^ (i + m) * c = val M + 18446744073709551616 ^ i * (x * V)) :
    val (M'.set (i + m) (c : Int)) = low X (i + 1) * V := by
  have e1 := val_set M' (i + m) (c : Int) hl
  rw [h0, Int.toNat_natCast, Int.toNat_zero, Nat.mul_zero, Nat.add_zero] at e1
  have e3 : low X (i + 1) = low X i + 18446744073709551616 ^ i * x := by show low X i + _ * (X.getD i 0).toNat = _; rw [hx, Int.toNat_natCast]
  rw [e1, hv, e3, Nat.add_mul, hM, Nat.mul_assoc]
theorem mul_split (x y : Nat) (hx : x < 18446744073709551616) (hy : y < 18446744073709551616) : mL x y + 18446744073709551616 * mH x y = x * y ∧ mL x y < 18446744073709551616 ∧ mH x y ≤ 18446744073709551614 := by
  have h1 : x * y ≤ 18446744073709551615 * 18446744073709551615 := Nat.mul_le_mul (by omega) (by omega)
  unfold mL mH
  generalize x * y = p at *
  omega

end Go.Proofs.YtjgnoaieplmoiaaGreatDoor
