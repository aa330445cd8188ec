/- The walks of cuts. -/
import Derived.Test.YtmibejihmdkgaaaDoorDAdd2
namespace Go.Proofs.YtmibejihmdkgaaaDoor
open Go.RowKit

theorem shr_room2 {m j : Nat} (h : greatB m = false) (hj : 0 < j) : greatB (m / 2 ^ j) = false ∧ greatB (m / 2 ^ j + 1) = false := by
  have h1 := great_mono (Nat.div_le_self m (2 ^ j)) h
  refine ⟨h1, ?_⟩
  by_cases h0 : m = 0
  · subst h0; rw [Nat.zero_div]; exact great_one
  · refine great_mono ?_ h
    have h2 : m / 2 ^ j < m := Nat.div_lt_self (by omega) (Nat.one_lt_two_pow (by omega))
    exact h2

end Go.Proofs.YtmibejihmdkgaaaDoor
