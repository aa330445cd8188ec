/- The walks of package bits, second part (lowest bits, whole and odd numbers), and of the statements' own helpers 'lives' and 'isNumber'. -/
import Derived.Test.YtlbaphijmonjoaaTMB
namespace Go.Proofs.Ytlbaphijmonjoaa
open Go.RowKit





/-- What is a number: its class is none of the two of what is none. -/
theorem class_num (x : Int) : (classV x == 5 || classV x == 6) = !numB x := by
  unfold classV numB expV fracV
  repeat' split
  all_goals simp
  all_goals omega
theorem class_bd (x : Int) : 1 ≤ classV x ∧ classV x ≤ 6 := by
  unfold classV; (repeat' split) <;> omega


end Go.Proofs.Ytlbaphijmonjoaa
