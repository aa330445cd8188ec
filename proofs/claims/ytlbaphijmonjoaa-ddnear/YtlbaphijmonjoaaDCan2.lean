/- The walks of Canon, Neg, Abs. -/
import Derived.Test.YtlbaphijmonjoaaTMB
namespace Go.Proofs.Ytlbaphijmonjoaa
open Go.RowKit

/-- Less a number in its one form; its amount. -/
def negD (p : Bool × Nat × Int) : Bool × Nat × Int := (!p.1 && !decide (p.2.1 = 0), p.2.1, p.2.2)
def absD (p : Bool × Nat × Int) : Bool × Nat × Int := (false, p.2.1, p.2.2)
theorem neg_sign {p : Bool × Nat × Int} {n : Nat} (h : n = (wordsOf p.2.1).length) : (!p.1 && !((n : Int) == 0)) = (negD p).1 := by
  have h1 : ((n : Int) == 0) = decide (p.2.1 = 0) := by
    rw [Bool.eq_iff_iff]
    simp only [beq_iff_eq, decide_eq_true_eq]
    rw [h, Int.natCast_eq_zero, List.length_eq_zero_iff, words_nil]
  unfold negD
  rw [h1]

attribute [local go_sem ↓] Go.wp_at_zero Go.wp_at_succ








end Go.Proofs.Ytlbaphijmonjoaa
