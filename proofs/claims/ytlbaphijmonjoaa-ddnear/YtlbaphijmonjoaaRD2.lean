/- The document's dyadic numbers, second part: Canon, Same, Copy; the program's Canon in the same words. -/
import Derived.Test.YtlbaphijmonjoaaRD1
import Derived.Test.YtlbaphijmonjoaaDCan2
namespace Go.Proofs.Ytlbaphijmonjoaa
open Go.RowKit

/-- What Canon answers. -/
def canE (s : Bool) (m : Nat) (e : Int) : Int := if rightB m e = true then roomE (formD s m e) else 2
def canP (s : Bool) (m : Nat) (e : Int) : Bool × Nat × Int := if rightB m e = true then roomP (formD s m e) else (false, 0, 0)
theorem canE_yes {s : Bool} {m : Nat} {e : Int} (h : rightB m e = true) : canE s m e = roomE (formD s m e) ∧ canP s m e = roomP (formD s m e) := by unfold canE canP; rw [if_pos h, if_pos h]; exact ⟨rfl, rfl⟩
theorem canE_not {s : Bool} {m : Nat} {e : Int} (h : rightB m e = false) : canE s m e = 2 ∧ canP s m e = (false, 0, 0) := by unfold canE canP; rw [if_neg (by rw [h]; decide), if_neg (by rw [h]; decide)]; exact ⟨rfl, rfl⟩
theorem words_len_mono {m n : Nat} (h : m ≤ n) : (wordsOf m).length ≤ (wordsOf n).length := (words_len _ m).2 (Nat.lt_of_le_of_lt h ((words_len _ n).1 (Nat.le_refl _)))
theorem words_form_len (s : Bool) (xs : List Int) (e : Int) (hU : AllU xs) : (wordsOf (formD s (val xs) e).2.1).length ≤ xs.length := by
  have h1 := form_amount_le s (val xs) e
  have h2 := size_words xs hU
  have h3 := size_le xs
  have h4 : (wordsOf (formD s (val xs) e).2.1).length ≤ (wordsOf (val xs)).length := words_len_mono h1
  omega


end Go.Proofs.Ytlbaphijmonjoaa
