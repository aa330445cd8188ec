/- Plain facts on the words of binary64 numbers (fields, signs, the ladder of numbers, the total order, last bits): the functions that the walks speak of, and what Go's bit operations on uint64 come to; for every whole number from 0 to 2^64 - 1. -/
import Derived.WalkKit
import Derived.Laws.BitsAllLaws
import Derived.Lib.TrailingZeros
namespace Go.Proofs.YtkkccnpmcbpdnaaGreatDoor
open Go.RowKit

/-- A uint64. -/
def U (x : Int) : Prop := 0 ≤ x ∧ x ≤ 18446744073709551615

def absV (x : Int) : Int := x % 9223372036854775808
def negV (x : Int) : Int := (x + 9223372036854775808) % 18446744073709551616
def expV (x : Int) : Int := x / 4503599627370496 % 2048
def fracV (x : Int) : Int := x % 4503599627370496
def sgnB (x : Int) : Bool := decide (9223372036854775808 ≤ x)
def numB (x : Int) : Bool := decide (x % 9223372036854775808 ≤ 9218868437227405312)
def finB (x : Int) : Bool := decide (x % 9223372036854775808 < 9218868437227405312)
def rungV (x : Int) : Int := if 9223372036854775808 ≤ x then 9223372036854775808 - x else x
def placeV (x : Int) : Int := if 9223372036854775808 ≤ x then 18446744073709551615 - x else x + 9223372036854775808
def upV (x : Int) : Int :=
  if ¬ x % 9223372036854775808 ≤ 9218868437227405312 ∨ x = 9218868437227405312 then x
  else if x % 9223372036854775808 = 0 then 1 else if 9223372036854775808 ≤ x then x - 1 else x + 1
def downV (x : Int) : Int := negV (upV (negV x))
def lessB (x y : Int) : Bool := numB x && numB y && decide (rungV x < rungV y)
def classV (x : Int) : Int :=
  if expV x = 0 then (if fracV x = 0 then 1 else 2)
  else if expV x < 2047 then 3 else if fracV x = 0 then 4 else if 2251799813685248 ≤ fracV x then 5 else 6
def cmpV (x y : Int) : Int := if x < y then -1 else if y < x then 1 else 0
def ordV (x y : Int) : Int := cmpV (placeV x) (placeV y)
def stepsE (x y : Int) : Int := if ¬ (numB x = true ∧ numB y = true) then 5 else if rungV y < rungV x then 2 else 0
def stepsV (x y : Int) : Int := if stepsE x y = 0 then rungV y - rungV x else 0
def joinE (e f : Int) : Int := if e < 0 ∨ 2047 < e ∨ 4503599627370495 < f then 2 else 0
def joinV (s : Bool) (e f : Int) : Int := if joinE e f = 0 then (if s then 9223372036854775808 else 0) + e * 4503599627370496 + f else 0
def lastE (x : Int) : Int := if finB x then 0 else 5
def unitV (x : Int) : Int := if expV x = 0 then -1074 else expV x - 1075
def lastV (x : Int) : Int := if finB x then unitV x else 0
def countV (x : Int) : Int := if expV x = 0 then fracV x else fracV x + 4503599627370496
def tzV (x : Int) : Int := (Lib.ctz 64 x.toNat : Int)
def lowV (x : Int) : Int := if countV x = 0 then 0 else unitV x + tzV (countV x)
def lowB (x : Int) : Bool := decide (countV x = 0)
def wholeB (x : Int) : Bool := finB x && (lowB x || decide (0 ≤ lowV x))
def oddB (x : Int) : Bool := finB x && !lowB x && (lowV x == 0)

/-! ### bit operations -/
theorem and_sign (x : Int) (h : U x) : bits .and .u64 x 9223372036854775808 = if 9223372036854775808 ≤ x then 9223372036854775808 else 0 := by
  obtain ⟨h0, h1⟩ := h
  obtain ⟨n, rfl⟩ := Int.eq_ofNat_of_zero_le h0
  rw [u64_and _ _ h0 (by omega) (by omega) (by omega)]
  have e := nat_bit 63 n
  have k : (2 : Nat) ^ 63 = 9223372036854775808 := by decide
  rw [k] at e
  simp only [Int.reduceToNat, Int.toNat_natCast]
  rw [e]
  split <;> omega
theorem and_quiet (x : Int) (h : U x) (hf : x < 4503599627370496) : bits .and .u64 x 2251799813685248 = if 2251799813685248 ≤ x then 2251799813685248 else 0 := by
  obtain ⟨h0, h1⟩ := h
  obtain ⟨n, rfl⟩ := Int.eq_ofNat_of_zero_le h0
  rw [u64_and _ _ h0 (by omega) (by omega) (by omega)]
  have e := nat_bit 51 n
  have k : (2 : Nat) ^ 51 = 2251799813685248 := by decide
  rw [k] at e
  simp only [Int.reduceToNat, Int.toNat_natCast]
  rw [e]
  split <;> omega
theorem and_frac (x : Int) (h : U x) : bits .and .u64 x 4503599627370495 = fracV x := by
  obtain ⟨h0, h1⟩ := h
  obtain ⟨n, rfl⟩ := Int.eq_ofNat_of_zero_le h0
  rw [u64_and _ _ h0 (by omega) (by omega) (by omega)]
  simp only [Int.reduceToNat, Int.toNat_natCast, nat_mask52, fracV]
  omega
theorem and_exp (x : Int) (h : U x) : bits .and .u64 (x / 4503599627370496) 2047 = expV x := by
  obtain ⟨h0, h1⟩ := h
  obtain ⟨n, hn⟩ := Int.eq_ofNat_of_zero_le (show 0 ≤ x / 4503599627370496 by omega)
  rw [u64_and _ _ (by omega) (by omega) (by omega) (by omega), expV, hn]
  simp only [Int.reduceToNat, Int.toNat_natCast, nat_mask11]
  omega
theorem andNot_sign (x : Int) (h : U x) : bits .andNot .u64 x 9223372036854775808 = absV x := by
  obtain ⟨h0, h1⟩ := h
  obtain ⟨n, rfl⟩ := Int.eq_ofNat_of_zero_le h0
  rw [u64_andNot _ _ h0 (by omega) (by omega) (by omega)]
  have e := Nat.and_two_pow_sub_one_eq_mod n 63
  have k : (2 : Nat) ^ 63 - 1 = 9223372036854775807 := by decide
  have k' : (2 : Nat) ^ 63 = 9223372036854775808 := by decide
  rw [k, k'] at e
  simp only [Int.reduceToNat, Int.toNat_natCast, Nat.reduceSub, absV]
  rw [e]
  omega
theorem nat_xor_top (n : Nat) (h : n < 18446744073709551616) : n ^^^ 9223372036854775808 = (n + 9223372036854775808) % 18446744073709551616 := by
  have k : (9223372036854775808 : Nat) = 2 ^ 63 := by decide
  by_cases hs : n < 9223372036854775808
  · have h1 : n ^^^ 2 ^ 63 = n ||| 2 ^ 63 := by
      apply Nat.eq_of_testBit_eq
      intro i
      rw [Nat.testBit_xor, Nat.testBit_or, Nat.testBit_two_pow]
      by_cases hi : 63 = i
      · subst hi
        rw [Nat.testBit_lt_two_pow (by rw [← k]; exact hs)]
        rfl
      · simp [hi]
    rw [k, h1, Nat.or_comm, nat_join 63 (2 ^ 63) n (by decide) (by rw [← k]; exact hs), ← k]
    omega
  · obtain ⟨m, rfl⟩ : ∃ m, n = m + 9223372036854775808 := ⟨n - 9223372036854775808, by omega⟩
    have h3 : m < 2 ^ 63 := by rw [← k]; omega
    have h1 : m + 9223372036854775808 = m ^^^ 2 ^ 63 := by
      apply Nat.eq_of_testBit_eq
      intro i
      rw [Nat.add_comm, k, ← nat_join 63 (2 ^ 63) _ (by decide) h3, Nat.testBit_xor, Nat.testBit_or, Nat.testBit_two_pow]
      by_cases hi : 63 = i
      · subst hi
        rw [Nat.testBit_lt_two_pow h3]
        rfl
      · simp [hi]
    have h4 : (m + 9223372036854775808) ^^^ 9223372036854775808 = m := by
      rw [h1, k, Nat.xor_assoc, Nat.xor_self, Nat.xor_zero]
    rw [h4]
    omega
theorem xor_sign (x : Int) (h : U x) : bits .xor .u64 x 9223372036854775808 = negV x := by
  obtain ⟨h0, h1⟩ := h
  obtain ⟨n, rfl⟩ := Int.eq_ofNat_of_zero_le h0
  rw [u64_xor _ _ h0 (by omega) (by omega) (by omega)]
  simp only [Int.reduceToNat, Int.toNat_natCast, negV]
  rw [nat_xor_top n (by omega)]
  omega
theorem nat_xor_all (n : Nat) (h : n < 18446744073709551616) : n ^^^ 18446744073709551615 = 18446744073709551615 - n := by
  have k : (18446744073709551615 : Nat) = 2 ^ 64 - 1 := by decide
  rw [k]
  apply Nat.eq_of_testBit_eq
  intro i
  have k2 : (2 : Nat) ^ 64 = 18446744073709551616 := by decide
  rw [Nat.testBit_xor, Nat.testBit_two_pow_sub_one, Nat.sub_sub, Nat.add_comm, Nat.testBit_two_pow_sub_succ (by omega)]
  by_cases hi : i < 64
  · simp [hi]
  · rw [Nat.testBit_lt_two_pow (Nat.lt_of_lt_of_le (show n < 2 ^ 64 by omega) (Nat.pow_le_pow_right (by decide) (by omega)))]
    simp [hi]
theorem place_bits (x : Int) (h : U x) :
    bits .xor .u64 x (bits .or .u64 (IntKind.u64.wrap (wrap64 x / 9223372036854775808)) 9223372036854775808) = placeV x := by
  obtain ⟨h0, h1⟩ := h
  by_cases hs : 9223372036854775808 ≤ x
  · have e1 : IntKind.u64.wrap (wrap64 x / 9223372036854775808) = 18446744073709551615 := by
      rw [IntKind.wrap_u64]; unfold wrap64; omega
    have e2 : bits .or .u64 18446744073709551615 9223372036854775808 = 18446744073709551615 := by decide
    obtain ⟨n, rfl⟩ := Int.eq_ofNat_of_zero_le h0
    rw [e1, e2, u64_xor _ _ h0 (by omega) (by omega) (by omega)]
    simp only [Int.reduceToNat, Int.toNat_natCast]
    rw [nat_xor_all n (by omega), placeV, if_pos hs]
    omega
  · have e1 : IntKind.u64.wrap (wrap64 x / 9223372036854775808) = 0 := by
      rw [IntKind.wrap_u64]; unfold wrap64; omega
    have e2 : bits .or .u64 0 9223372036854775808 = 9223372036854775808 := by decide
    rw [e1, e2, xor_sign x ⟨h0, h1⟩, placeV, if_neg hs, negV]
    omega
theorem or_hidden (f : Int) (h0 : 0 ≤ f) (h1 : f < 4503599627370496) : bits .or .u64 f 4503599627370496 = f + 4503599627370496 := by
  obtain ⟨n, rfl⟩ := Int.eq_ofNat_of_zero_le h0
  rw [u64_or _ _ h0 (by omega) (by omega) (by omega)]
  have k : (4503599627370496 : Nat) = 2 ^ 52 := by decide
  simp only [Int.reduceToNat, Int.toNat_natCast]
  rw [Nat.or_comm, k, nat_join 52 (2 ^ 52) n (by decide) (by rw [← k]; omega), ← k]
  omega
theorem or_fields (e f : Int) (h0 : 0 ≤ e) (h1 : e ≤ 2047) (h2 : 0 ≤ f) (h3 : f ≤ 4503599627370495) : bits .or .u64 (e * 4503599627370496) f = e * 4503599627370496 + f := by
  obtain ⟨m, rfl⟩ := Int.eq_ofNat_of_zero_le h0
  obtain ⟨n, rfl⟩ := Int.eq_ofNat_of_zero_le h2
  rw [u64_or _ _ (by omega) (by omega) h2 (by omega)]
  have k : (4503599627370496 : Nat) = 2 ^ 52 := by decide
  have e1 : ((m : Int) * 4503599627370496).toNat = m * 4503599627370496 := by omega
  rw [e1, Int.toNat_natCast, nat_join 52 (m * 4503599627370496) n (by rw [k]; exact Nat.mul_mod_left _ _) (by rw [← k]; omega)]
  omega
theorem or_top (y : Int) (h0 : 0 ≤ y) (h1 : y < 9223372036854775808) : bits .or .u64 y 9223372036854775808 = y + 9223372036854775808 := by
  obtain ⟨n, rfl⟩ := Int.eq_ofNat_of_zero_le h0
  rw [u64_or _ _ h0 (by omega) (by omega) (by omega)]
  have k : (9223372036854775808 : Nat) = 2 ^ 63 := by decide
  simp only [Int.reduceToNat, Int.toNat_natCast]
  rw [Nat.or_comm, k, nat_join 63 (2 ^ 63) n (by decide) (by rw [← k]; omega), ← k]
  omega

/-! ### bounds -/
theorem fracV_bd (x : Int) : 0 ≤ fracV x ∧ fracV x < 4503599627370496 := by unfold fracV; omega
theorem expV_bd (x : Int) : 0 ≤ expV x ∧ expV x ≤ 2047 := by unfold expV; omega
theorem absV_bd (x : Int) : 0 ≤ absV x ∧ absV x < 9223372036854775808 := by unfold absV; omega
theorem absV_U (x : Int) : U (absV x) := by unfold U absV; omega
theorem negV_U (x : Int) : U (negV x) := by unfold U negV; omega
theorem upV_U (x : Int) (h : U x) : U (upV x) := by unfold U upV at *; (repeat' split) <;> omega
theorem placeV_U (x : Int) (h : U x) : U (placeV x) := by unfold U placeV at *; split <;> omega
theorem countV_bd (x : Int) : 0 ≤ countV x ∧ countV x < 9007199254740992 := by
  have := fracV_bd x; unfold countV; split <;> omega
theorem countV_U (x : Int) : U (countV x) := by have := countV_bd x; unfold U; omega
theorem unitV_bd (x : Int) : -1074 ≤ unitV x ∧ unitV x ≤ 972 := by have := expV_bd x; unfold unitV; split <;> omega
theorem tzV_bd (x : Int) (h : U x) : 0 ≤ tzV x ∧ tzV x ≤ 64 := by
  unfold tzV
  refine ⟨by omega, ?_⟩
  by_cases h0 : x.toNat = 0
  · rw [h0]; decide
  · have := (Lib.lowest_bit 64 x.toNat h0 (by unfold U at h; have : (2 : Nat) ^ 64 = 18446744073709551616 := by decide
                                              omega)).2
    omega
theorem lowV_bd (x : Int) : -1074 ≤ lowV x ∧ lowV x ≤ 1036 := by
  have h1 := unitV_bd x; have h2 := tzV_bd _ (countV_U x); unfold lowV; split <;> omega
theorem tz_spec (x : Int) (h0 : 0 < x) (h1 : x ≤ 18446744073709551615) : ∃ k m : Nat, tzV x = k ∧ x = 2 ^ k * (2 * m + 1) := by
  obtain ⟨n, rfl⟩ := Int.eq_ofNat_of_zero_le (show 0 ≤ x by omega)
  have hn : n < 2 ^ 64 := by have : (2 : Nat) ^ 64 = 18446744073709551616 := by decide
                             omega
  obtain ⟨m, hm, _⟩ := Lib.ctzFrom_spec 64 n (by omega) hn
  refine ⟨Lib.ctzFrom 64 n, m, ?_, ?_⟩
  · unfold tzV; rw [Int.toNat_natCast, Lib.ctz, if_neg (by omega)]
  · have := congrArg (fun z : Nat => (z : Int)) hm
    simpa using this
theorem joinV_U (s : Bool) (e f : Int) (h : 0 ≤ f) : U (joinV s e f) := by
  unfold joinV joinE U; cases s <;> (repeat' split) <;> simp_all <;> omega
end Go.Proofs.YtkkccnpmcbpdnaaGreatDoor
