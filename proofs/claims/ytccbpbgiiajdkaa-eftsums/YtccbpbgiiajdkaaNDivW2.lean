/- The walk of math/bits.Div64: a quotient of two words by one. -/
import Derived.Test.YtccbpbgiiajdkaaTMB
import Derived.Test.YtccbpbgiiajdkaaTMA
import Derived.BigRegion
namespace Go.Proofs.Ytccbpbgiiajdkaa
open Go.RowKit

theorem nret_two {k l : IntKind} {a b c d : Int} (h : a = b) (h' : c = d) : Ending.returned (.tuple #[.int k a, .int l c]) = .returned (.tuple #[.int k b, .int l d]) := by rw [h, h']


end Go.Proofs.Ytccbpbgiiajdkaa
