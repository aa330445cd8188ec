/- The walk of math/bits.Div64: a quotient of two words by one. -/
import Derived.Test.YtlbaphijmonjoaaTMB
import Derived.Test.YtlbaphijmonjoaaTMA
import Derived.BigRegion
namespace Go.Proofs.Ytlbaphijmonjoaa
open Go.RowKit

theorem nret_two {k l : IntKind} {a b c d : Int} (h : a = b) (h' : c = d) : Ending.returned (.tuple #[.int k a, .int l c]) = .returned (.tuple #[.int k b, .int l d]) := by rw [h, h']


end Go.Proofs.Ytlbaphijmonjoaa
