/- The first question of dyad's statements. -/
import Derived.Test.YtognliaoonkmiaaGreatDoorPFA
import Derived.Test.YtognliaoonkmiaaGreatDoorRDA
import Derived.Test.YtognliaoonkmiaaGreatDoorDGA
import Derived.Test.YtognliaoonkmiaaGreatDoorDCmp2
namespace Go.Proofs.YtognliaoonkmiaaGreatDoor
open Go.RowKit

theorem words_one (n : Nat) (h0 : n ≠ 0) (h : n < 18446744073709551616) : wordsOf n = [(n : Int)] := by
  rw [wordsOf, dif_neg h0, Nat.div_eq_of_lt h, words_zero, Nat.mod_eq_of_lt h]

end Go.Proofs.YtognliaoonkmiaaGreatDoor
