/- The walks of the document's sums and differences, or why there are none. -/
import Derived.Test.YtfmjgagajlhfoaaDoorNSub
import Derived.Test.YtfmjgagajlhfoaaDoorNProg7
namespace Go.Proofs.YtfmjgagajlhfoaaDoor
open Go.RowKit

theorem natAt_own {B cv : Nat} {w : World} {a : Option Addr} {r n : Nat} (h : Own B w a cv (wordsOf r)) (hn : (wordsOf r).length = n) : NatAt B w (.slice a n cv) r := ⟨a, n, cv, rfl, hn.symm, h.ownW (words_U _) hn⟩