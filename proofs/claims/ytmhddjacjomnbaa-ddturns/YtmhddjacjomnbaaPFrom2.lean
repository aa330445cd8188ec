/- The program's dyadic number of a float's bits, whole. -/
import Derived.Test.YtmhddjacjomnbaaPFrom
namespace Go.Proofs.Ytmhddjacjomnbaa
open Go.RowKit

end Go.Proofs.Ytmhddjacjomnbaa
