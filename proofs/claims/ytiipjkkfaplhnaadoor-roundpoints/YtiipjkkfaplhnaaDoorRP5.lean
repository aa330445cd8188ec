/- The statement RoundPoints: the walk, whole. -/
import Derived.Test.YtiipjkkfaplhnaaDoorRP4
namespace Go.Proofs.YtiipjkkfaplhnaaDoor
open Go.RowKit

theorem roundPoints_walk (x n : Int) (w : World) (ux : U x) (_hn : -9223372036854775808 ≤ n ∧ n ≤ 9223372036854775807) (hT : Tab w) :
    Calls Tryd.prog 6 #[.int .u64 x, .int .i64 n] w fun r w' => r = .returned (.bool true) ∧ Below w.heap.size w w' := by
  cases hx : finB x with
  | false => exact pt_bad x n w ux hT hx
  | true =>
    by_cases h0 : n < 1100
    · exact pt_lo x n w ux hT hx h0
    · by_cases h1 : 3000 < n
      · exact pt_hi x n w ux hT hx h0 h1
      · obtain ⟨-, -, -, -, -, t6, -⟩ := three x n ux hx ⟨by omega, by omega⟩
        rcases t6 with q | ⟨q1, q2⟩
        · exact pt_E x n w ux hT hx h0 h1 q
        · exact pt_Z x n w ux hT hx h0 h1 q1 q2
end Go.Proofs.YtiipjkkfaplhnaaDoor
