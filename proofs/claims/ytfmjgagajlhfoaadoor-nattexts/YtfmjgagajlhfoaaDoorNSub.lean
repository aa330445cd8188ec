/- The walk of the document's differences of naturals. -/
import Derived.Test.YtfmjgagajlhfoaaDoorNAdd
namespace Go.Proofs.YtfmjgagajlhfoaaDoor
open Go.RowKit