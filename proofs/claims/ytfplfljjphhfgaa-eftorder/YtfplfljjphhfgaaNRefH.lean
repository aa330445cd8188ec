/- The walks of the document's shifts. -/
import Derived.Test.YtfplfljjphhfgaaTMB
import Derived.Test.YtfplfljjphhfgaaNAdd
namespace Go.Proofs.Ytfplfljjphhfgaa
open Go.RowKit

theorem shl_snoc (xs L : List Int) (k sk s m x c y c' : Nat) (hm : m = 64 * sk + s) (hs : s < 64) (hl : L.length = sk + k) (hx : xs.getD k 0 = (x : Int))
    (hv : val L + 18446744073709551616 ^ (sk + k) * c = low xs k * 2 ^ m) (hy : y = c + x * 2 ^ s % 18446744073709551616) (hc : c' = x / 2 ^ (64 - s)) :
    val (L ++ [(y : Int)]) + 18446744073709551616 ^ (sk + (k + 1)) * c' = low xs (k + 1) * 2 ^ m := by
  have e3 : low xs (k + 1) = low xs k + 18446744073709551616 ^ k * x := by show low xs k + _ * (xs.getD k 0).toNat = _; rw [hx, Int.toNat_natCast]
  have e4 := shl_word x s hs
  rw [← hc] at e4
  have e5 : 18446744073709551616 ^ k * x * 2 ^ m = 18446744073709551616 ^ (sk + k) * (x * 2 ^ s) := by
    rw [hm, two64, two64, Nat.pow_add 2 (64 * sk) s, show 64 * (sk + k) = 64 * sk + 64 * k by omega, Nat.pow_add]
    simp only [Nat.mul_assoc, Nat.mul_left_comm, Nat.mul_comm]
  have e6 : 18446744073709551616 ^ (sk + k) * (x * 2 ^ s % 18446744073709551616 + 18446744073709551616 * c') = 18446744073709551616 ^ (sk + k) * (x * 2 ^ s % 18446744073709551616) + 18446744073709551616 ^ (sk + k) * 18446744073709551616 * c' := by rw [Nat.mul_add, Nat.mul_assoc]
  have e7 : 18446744073709551616 ^ (sk + k) * y = 18446744073709551616 ^ (sk + k) * c + 18446744073709551616 ^ (sk + k) * (x * 2 ^ s % 18446744073709551616) := by rw [hy, Nat.mul_add]
  have e8 : val [(y : Int)] = y := by simp [val]
  rw [e3, Nat.add_mul, ← hv, e5, ← e4, e6, val_append, hl, e8, e7, show sk + (k + 1) = sk + k + 1 by omega, Nat.pow_succ]
  generalize 18446744073709551616 ^ (sk + k) * 18446744073709551616 * c' = P
  generalize 18446744073709551616 ^ (sk + k) * (x * 2 ^ s % 18446744073709551616) = Q
  generalize 18446744073709551616 ^ (sk + k) * c = R
  omega
theorem or_words3 (c x s : Nat) (hs : s < 64) (hc : c < 2 ^ s) (hc2 : c < 18446744073709551616) : bits BinOp.or IntKind.u64 (IntKind.u64.wrap ((x : Int) * 2 ^ s)) (c : Int) = ((c + x * 2 ^ s % 18446744073709551616 : Nat) : Int) := by
  rw [mul_pow_cast, wrap_nat, u64_or_nat _ _ (Nat.mod_lt _ (by decide)) hc2, Nat.or_comm, (shl_room c x s hs hc).1]

end Go.Proofs.Ytfplfljjphhfgaa
