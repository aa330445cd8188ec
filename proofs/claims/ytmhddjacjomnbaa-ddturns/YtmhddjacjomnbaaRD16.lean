/- The document's dyadic numbers: the product. -/
import Derived.Test.YtmhddjacjomnbaaRD13
import Derived.Test.YtmhddjacjomnbaaDTm1
import Derived.Test.YtmhddjacjomnbaaNRefM2
namespace Go.Proofs.Ytmhddjacjomnbaa
open Go.RowKit

theorem prod_words (u v : Nat) : (wordsOf (u * v)).length ≤ (wordsOf u).length + (wordsOf v).length := by
  refine (words_len2 _ _).2 ((blen_le _ _).2 ?_)
  have h1 := (blen_le _ _).1 ((words_len2 _ u).1 (Nat.le_refl _))
  have h2 := (blen_le _ _).1 ((words_len2 _ v).1 (Nat.le_refl _))
  have h3 := Nat.mul_lt_mul'' h1 h2
  rw [← Nat.pow_add] at h3
  rw [Nat.mul_add]
  exact h3
attribute [local go_sem ↓] Go.wp_at_zero Go.wp_at_succ


end Go.Proofs.Ytmhddjacjomnbaa
