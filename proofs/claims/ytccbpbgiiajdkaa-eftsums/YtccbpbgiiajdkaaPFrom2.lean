/- The program's dyadic number of a float's bits, whole. -/
import Derived.Test.YtccbpbgiiajdkaaPFrom
namespace Go.Proofs.Ytccbpbgiiajdkaa
open Go.RowKit

end Go.Proofs.Ytccbpbgiiajdkaa
