/- Rounding of numbers with their sign: order, less a number (pure). What lies between two numbers that are rounded alike is rounded so; a number is a binary64 just if it is rounded exactly (pure). -/
import Derived.Test.YtognliaoonkmiaaGreatDoorRM0
import Derived.Test.YtognliaoonkmiaaGreatDoorRNV
import Derived.Test.YtognliaoonkmiaaGreatDoorRDE
import Derived.Test.YtognliaoonkmiaaGreatDoorDTo4

namespace Go.Proofs.YtognliaoonkmiaaGreatDoor
open Go.RowKit

theorem cmp_le (x y : Int) : Lib.compareInt x y ≤ 0 ↔ x ≤ y := by
  unfold Lib.compareInt
  split
  · constructor <;> omega
  · split <;> constructor <;> omega

end Go.Proofs.YtognliaoonkmiaaGreatDoor

namespace Go.Proofs.YtognliaoonkmiaaGreatDoor
open Go.RowKit

/-- the order of two numbers in units of 2^-K -/
theorem cmp_T (s : Bool) (m : Nat) (e : Int) (t : Bool) (m' : Nat) (f : Int) (K : Nat) (hK : K = 32768) (he : -32768 ≤ e) (hf : -32768 ≤ f) : cmpD (formD s m e) (formD t m' f) ≤ 0 ↔ sI s * ((m * 2 ^ (e + K).toNat : Nat) : Int) ≤ sI t * ((m' * 2 ^ (f + K).toNat : Nat) : Int) := by
  rw [vI_cmp _ _ K (form_lo _ _ _ _ (by omega) (by omega)) (form_lo _ _ _ _ (by omega) (by omega)), cmp_le, vI_form _ _ _ _ (by omega), vI_form _ _ _ _ (by omega)]
  rw [show (e - -(K : Int)).toNat = (e + K).toNat by omega, show (f - -(K : Int)).toNat = (f + K).toNat by omega]
theorem T_zero (m z : Nat) : m * 2 ^ z = 0 ↔ m = 0 := by
  have := Nat.two_pow_pos z
  constructor
  · intro h
    rcases Nat.mul_eq_zero.1 h with k | k
    · exact k
    · omega
  · intro h; rw [h, Nat.zero_mul]
end Go.Proofs.YtognliaoonkmiaaGreatDoor
