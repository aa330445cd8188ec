/- The program's dyadic number of a float's bits, whole. -/
import Derived.Test.YtfplfljjphhfgaaPFrom
namespace Go.Proofs.Ytfplfljjphhfgaa
open Go.RowKit

end Go.Proofs.Ytfplfljjphhfgaa
