/- The walks of sums of numbers: twice and one; level ones together. The walks of cuts. The walks of Int, Check, Zero. -/
import Derived.Test.YtkkldnnndlpblaaGreatDoorDGA
import Derived.Test.YtkkldnnndlpblaaGreatDoorDGB

namespace Go.Proofs.YtkkldnnndlpblaaGreatDoor
open Go.RowKit

theorem great_one : greatB 1 = false := (great_not 1).2 (by have := (blen_le 1 1).2 (by decide); omega)


theorem shr_room2 {m j : Nat} (h : greatB m = false) (hj : 0 < j) : greatB (m / 2 ^ j) = false ∧ greatB (m / 2 ^ j + 1) = false := by
  have h1 := great_mono (Nat.div_le_self m (2 ^ j)) h
  refine ⟨h1, ?_⟩
  by_cases h0 : m = 0
  · subst h0; rw [Nat.zero_div]; exact great_one
  · refine great_mono ?_ h
    have h2 : m / 2 ^ j < m := Nat.div_lt_self (by omega) (Nat.one_lt_two_pow (by omega))
    exact h2

/-- The next number of at most so many bits, down or up. -/
def cutD (x : Bool × Nat × Int) (pp : Int) (up : Bool) : Bool × Nat × Int := if (blen x.2.1 : Int) ≤ pp then x else formD x.1 (x.2.1 / 2 ^ (blen x.2.1 - pp).toNat + (if (!(up == x.1)) = true then 1 else 0)) (x.2.2 + ((blen x.2.1 - pp).toNat : Int))


def intD (i : Int) : Bool × Nat × Int := formD (decide (i < 0)) i.natAbs 0

end Go.Proofs.YtkkldnnndlpblaaGreatDoor
