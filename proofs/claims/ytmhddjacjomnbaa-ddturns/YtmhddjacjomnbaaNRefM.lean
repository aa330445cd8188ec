/- The walks of the document's products. -/
import Derived.Test.YtmhddjacjomnbaaNMul2
import Derived.Test.YtmhddjacjomnbaaNRefS
namespace Go.Proofs.Ytmhddjacjomnbaa
open Go.RowKit

theorem half_parts (x y : Nat) : x * y = (x / 4294967296) * (y / 4294967296) * 18446744073709551616 + (x % 4294967296) * (y / 4294967296) * 4294967296 + (x / 4294967296) * (y % 4294967296) * 4294967296 + (x % 4294967296) * (y % 4294967296) := by
  have hx := Nat.div_add_mod x 4294967296
  have hy := Nat.div_add_mod y 4294967296
  conv => lhs; rw [← hx, ← hy]
  rw [Nat.add_mul, Nat.mul_add, Nat.mul_add]
  generalize x / 4294967296 = b
  generalize x % 4294967296 = a
  generalize y / 4294967296 = d
  generalize y % 4294967296 = c
  have e1 : 4294967296 * b * (4294967296 * d) = b * d * 18446744073709551616 := by rw [Nat.mul_mul_mul_comm, Nat.mul_comm (4294967296 * 4294967296)]
  have e2 : 4294967296 * b * c = b * c * 4294967296 := by rw [Nat.mul_assoc, Nat.mul_comm]
  have e3 : a * (4294967296 * d) = a * d * 4294967296 := by rw [Nat.mul_left_comm, Nat.mul_comm]
  rw [e1, e2, e3]; omega
theorem half_le (a c : Nat) (ha : a < 4294967296) (hc : c < 4294967296) : a * c ≤ 18446744065119617025 := by
  have := Nat.mul_le_mul (show a ≤ 4294967295 by omega) (show c ≤ 4294967295 by omega)
  omega

end Go.Proofs.Ytmhddjacjomnbaa
