/- Rounding a dyadic number to the nearest binary64, in numbers: what the program's quarters tell and what the document's cut comes to are one. Tiny numbers: the program's question and the document's are one; the flags of a rounding. -/
import Derived.Test.YtiijfnaaekmpbaaGreatDoorTMB
import Derived.Test.YtiijfnaaekmpbaaGreatDoorDVal

namespace Go.Proofs.YtiijfnaaekmpbaaGreatDoor
open Go.RowKit
def fl2 (m : Nat) (k : Int) : Nat := if k ≤ 0 then m * 2 ^ (-k).toNat else m / 2 ^ k.toNat
def half2 (m : Nat) (k : Int) : Bool := if k ≤ 0 then false else m.testBit (k.toNat - 1)
def over2 (m : Nat) (k : Int) : Bool := if k ≤ 0 then false else lostB m (k.toNat - 1)
def up2 (m : Nat) (k : Int) : Bool := half2 m k && (over2 m k || decide (fl2 m k % 2 = 1))
def rdW2 (m : Nat) (k : Int) : Nat := fl2 m k + (up2 m k).toNat
theorem bit_div (m n : Nat) : m.testBit n = decide (m / 2 ^ n % 2 = 1) := Nat.testBit_eq_decide_div_mod_eq
theorem form_lo (s : Bool) (m : Nat) (e K : Int) (h : K ≤ e) (h0 : K ≤ 0) : K ≤ (formD s m e).2.2 := by
 unfold formD
 split
 ·exact h0
 ·show K ≤ e + (tz m : Int); omega
end Go.Proofs.YtiijfnaaekmpbaaGreatDoor
