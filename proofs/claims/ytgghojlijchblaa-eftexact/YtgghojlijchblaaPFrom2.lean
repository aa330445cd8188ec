/- The program's dyadic number of a float's bits, whole. -/
import Derived.Test.YtgghojlijchblaaPFrom
namespace Go.Proofs.Ytgghojlijchblaa
open Go.RowKit

end Go.Proofs.Ytgghojlijchblaa
