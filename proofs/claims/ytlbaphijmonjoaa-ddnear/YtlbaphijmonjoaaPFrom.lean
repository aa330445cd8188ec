/- The program's dyadic number of a float's bits. -/
import Derived.Test.YtlbaphijmonjoaaTMB
import Derived.Test.YtlbaphijmonjoaaBWalks2
import Derived.Deep.RegionWith
namespace Go.Proofs.Ytlbaphijmonjoaa
open Go.RowKit

def fromD (x : Int) : Bool × Nat × Int := formD (sgnB x) (countV x).toNat (unitV x)
def fromP (x : Int) : Bool × Nat × Int := if finB x = true then fromD x else (false, 0, 0)
theorem frac_bd (x : Int) : 0 ≤ fracV x ∧ fracV x < 4503599627370496 := by unfold fracV; omega
theorem exp_bd (x : Int) : 0 ≤ expV x ∧ expV x < 2048 := by unfold expV; omega
theorem or_hiddenN (f : Nat) (hf : f < 4503599627370496) : bits .or .u64 (f : Int) 4503599627370496 = ((f + 4503599627370496 : Nat) : Int) := by
  have h := u64_or_nat f 4503599627370496 (by omega) (by decide)
  have e : f ||| 4503599627370496 = f + 4503599627370496 := by
    have h2 := Nat.two_pow_add_eq_or_of_lt (i := 52) (b := f) (by omega) 1
    rw [Nat.mul_one] at h2
    rw [Nat.or_comm]
    have h3 : (2 : Nat) ^ 52 = 4503599627370496 := rfl
    rw [h3] at h2
    omega
  rw [e] at h
  exact h


end Go.Proofs.Ytlbaphijmonjoaa
