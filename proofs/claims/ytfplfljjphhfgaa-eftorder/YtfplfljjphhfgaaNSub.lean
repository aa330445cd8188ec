/- The walk of the document's differences of naturals. -/
import Derived.Test.YtfplfljjphhfgaaNAdd
namespace Go.Proofs.Ytfplfljjphhfgaa
open Go.RowKit



end Go.Proofs.Ytfplfljjphhfgaa
