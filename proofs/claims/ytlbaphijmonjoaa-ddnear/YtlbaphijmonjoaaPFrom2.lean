/- The program's dyadic number of a float's bits, whole. -/
import Derived.Test.YtlbaphijmonjoaaPFrom
namespace Go.Proofs.Ytlbaphijmonjoaa
open Go.RowKit

end Go.Proofs.Ytlbaphijmonjoaa
