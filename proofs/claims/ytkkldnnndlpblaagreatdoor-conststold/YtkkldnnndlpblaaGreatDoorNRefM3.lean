/- The walk of the document's Product. -/
import Derived.Test.YtkkldnnndlpblaaGreatDoorNRefM2
namespace Go.Proofs.YtkkldnnndlpblaaGreatDoor
open Go.RowKit

theorem blen_prod (u v : Nat) (hu : 0 < blen u) (hv : 0 < blen v) : blen u + blen v ≤ blen (u * v) + 1 := by
  have a1 : ¬ u < 2 ^ (blen u - 1) := fun q => by have := (blen_le u (blen u - 1)).2 q; omega
  have a2 : ¬ v < 2 ^ (blen v - 1) := fun q => by have := (blen_le v (blen v - 1)).2 q; omega
  have h3 : 2 ^ (blen u - 1) * 2 ^ (blen v - 1) ≤ u * v := Nat.mul_le_mul (by omega) (by omega)
  rw [← Nat.pow_add] at h3
  rcases Nat.lt_or_ge (blen (u * v)) (blen u - 1 + (blen v - 1) + 1) with q | q
  · have h4 := (blen_le (u * v) (blen u - 1 + (blen v - 1))).1 (by omega)
    exact absurd h4 (by omega)
  · omega
theorem mul_words_le (u v k l : Nat) (hu : (wordsOf u).length ≤ k) (hv : (wordsOf v).length ≤ l) : (wordsOf (u * v)).length ≤ k + l := by
  rw [words_len, Nat.pow_add]
  exact Nat.mul_lt_mul'' ((words_len k u).1 hu) ((words_len l v).1 hv)
theorem great_no2 {n : Nat} (h : greatB n = false) : blen n ≤ 65536 ∧ (wordsOf n).length ≤ 1024 := by
  refine ⟨?_, by simpa [greatB] using h⟩
  rcases Nat.lt_or_ge 65536 (blen n) with q | q
  · rw [(great_iff n).2 q] at h; cases h
  · exact q
theorem mulR_long {u v : Nat} (h : (greatB u || greatB v) = false) (hb : 65537 < blen u + blen v) : mulR u v = (0, 3) := by
  have h1 := great_no2 (Bool.or_eq_false_iff.1 h).1
  have h2 := great_no2 (Bool.or_eq_false_iff.1 h).2
  have h3 := blen_prod u v (by omega) (by omega)
  rw [mulR_no h, fitR_yes ((great_iff _).2 (by omega))]

end Go.Proofs.YtkkldnnndlpblaaGreatDoor
