/- imports only The walks of package nat, second part: copies, answers, how many bits, which is the greater, single bits. Plain facts on the words of binary64 numbers (fields, signs, the ladder of numbers, the total order, last bits): the functions that the walks speak of, and what Go's bit operations on uint64 come to; for every whole number from 0 to 2^64 - 1. The walks of package bits: what each of its functions answers, for every uint64, in whatever memory. The walks of package nat, third part: Norm, Of, Len, Low, Bit, Cmp. The walks of package nat, fourth part: Norm, Of, Len, Low, Bit, Cmp as they are called. Lists of words in memory: made, and one word set. The walks of package nat, fifth part: sums and differences of words. The walks of package nat, sixth part: sums and differences, word by word. The walks of package nat, seventh part: Add and Sub as they are called. Plain facts behind math/bits.Div64: a digit of 32 bits of a quotient by two such digits, guessed and put right. Plain facts for the walk of math/bits.Div64: what its words come to. The walks of shifts to the left. The walks of shifts to the right. The walks of Shl and Shr as they are called. Plain facts on dyadic numbers: the one form. The calls of package nat (no quotients, no powers) where what they come to is known: the answers' slices, read. The walks of package dyad, first part: the numbers' small methods; the one form. The walk of canonical: the one form. The walk of told: a number handed out with words of its own. The walk of right, of one number and of two. The walk of made: what a way makes of numbers that are right, if it has room. The walks of reckoned, of, size, top, sign, shifted. -/
import Derived.Shelf.Small.Bits
import Derived.Shelf.Small.Wraps
import Derived.Shelf.Strconv.Itoa0
import Derived.Test.YtlbaphijmonjoaaProg
import Derived.Test.YtlbaphijmonjoaaTMA
import Derived.WalkKit
import Derived.Laws.BitsAllLaws
import Derived.Lib.TrailingZeros
import Derived.Test.YtlbaphijmonjoaaRows
import Derived.WalkSpells
import Derived.WalkLawsBesides
import Derived.Laws.OwnMore
import Derived.OwnWalk
import Derived.Laws.Externs
import Derived.Shelf.Spec.BitsCarry
import Derived.BigRegion
import Derived.Deep.RegionHeld3
import Derived.Deep.DrawnRows
import Derived.Deep.AppendLies
import Derived.LoopN

namespace Go.Proofs.Ytlbaphijmonjoaa
open Go.RowKit

/-- A natural in memory of the call's own, from block B on. -/
def NatAt (B : Nat) (w : World) (v : Value) (r : Nat) : Prop := ∃ (ao : Option Addr) (n c : Nat), v = .slice ao n c ∧ n = (wordsOf r).length ∧ OwnW B w ao n c (wordsOf r)
theorem natAt_nil (B : Nat) (w : World) : NatAt B w (.slice none 0 0) 0 := ⟨none, 0, 0, rfl, by rw [words_zero]; rfl, by rw [words_zero]; exact ownW_nil B w⟩
theorem NatAt.keep {B : Nat} {w w' : World} {v : Value} {r : Nat} (h : NatAt B w v r) (hb : Below w.heap.size w w') : NatAt B w' v r := by
  obtain ⟨ao, n, c, e1, e2, h3⟩ := h
  exact ⟨ao, n, c, e1, e2, h3.keep hb⟩
theorem NatAt.low {B B' : Nat} {w : World} {v : Value} {r : Nat} (h : NatAt B w v r) (hB : B' ≤ B) : NatAt B' w v r := by
  obtain ⟨ao, n, c, e1, e2, h3⟩ := h
  exact ⟨ao, n, c, e1, e2, h3.low hB⟩
theorem words_le (xs : List Int) (h : AllU xs) : (wordsOf (val xs)).length ≤ xs.length := by have := size_words xs h; have := size_le xs; omega
theorem below_one (w : World) (o : Obj) : Below w.heap.size w (w.alloc o) := (Below.refl _ _).alloc (Nat.le_refl _) o



end Go.Proofs.Ytlbaphijmonjoaa

namespace Go.Proofs.Ytlbaphijmonjoaa
open Go.RowKit

/-- A uint64. -/
def U (x : Int) : Prop := 0 ≤ x ∧ x ≤ 18446744073709551615

def absV (x : Int) : Int := x % 9223372036854775808
def negV (x : Int) : Int := (x + 9223372036854775808) % 18446744073709551616
def expV (x : Int) : Int := x / 4503599627370496 % 2048
def fracV (x : Int) : Int := x % 4503599627370496
def sgnB (x : Int) : Bool := decide (9223372036854775808 ≤ x)
def numB (x : Int) : Bool := decide (x % 9223372036854775808 ≤ 9218868437227405312)
def finB (x : Int) : Bool := decide (x % 9223372036854775808 < 9218868437227405312)
def rungV (x : Int) : Int := if 9223372036854775808 ≤ x then 9223372036854775808 - x else x
def placeV (x : Int) : Int := if 9223372036854775808 ≤ x then 18446744073709551615 - x else x + 9223372036854775808
def upV (x : Int) : Int :=
  if ¬ x % 9223372036854775808 ≤ 9218868437227405312 ∨ x = 9218868437227405312 then x
  else if x % 9223372036854775808 = 0 then 1 else if 9223372036854775808 ≤ x then x - 1 else x + 1
def downV (x : Int) : Int := negV (upV (negV x))
def lessB (x y : Int) : Bool := numB x && numB y && decide (rungV x < rungV y)
def classV (x : Int) : Int :=
  if expV x = 0 then (if fracV x = 0 then 1 else 2)
  else if expV x < 2047 then 3 else if fracV x = 0 then 4 else if 2251799813685248 ≤ fracV x then 5 else 6
def cmpV (x y : Int) : Int := if x < y then -1 else if y < x then 1 else 0
def ordV (x y : Int) : Int := cmpV (placeV x) (placeV y)
def stepsE (x y : Int) : Int := if ¬ (numB x = true ∧ numB y = true) then 5 else if rungV y < rungV x then 2 else 0
def stepsV (x y : Int) : Int := if stepsE x y = 0 then rungV y - rungV x else 0
def joinE (e f : Int) : Int := if e < 0 ∨ 2047 < e ∨ 4503599627370495 < f then 2 else 0
def joinV (s : Bool) (e f : Int) : Int := if joinE e f = 0 then (if s then 9223372036854775808 else 0) + e * 4503599627370496 + f else 0
def lastE (x : Int) : Int := if finB x then 0 else 5
def unitV (x : Int) : Int := if expV x = 0 then -1074 else expV x - 1075
def lastV (x : Int) : Int := if finB x then unitV x else 0
def countV (x : Int) : Int := if expV x = 0 then fracV x else fracV x + 4503599627370496
def tzV (x : Int) : Int := (Lib.ctz 64 x.toNat : Int)
def lowV (x : Int) : Int := if countV x = 0 then 0 else unitV x + tzV (countV x)
def lowB (x : Int) : Bool := decide (countV x = 0)
def wholeB (x : Int) : Bool := finB x && (lowB x || decide (0 ≤ lowV x))
def oddB (x : Int) : Bool := finB x && !lowB x && (lowV x == 0)

/-! ### bit operations -/
theorem and_sign (x : Int) (h : U x) : bits .and .u64 x 9223372036854775808 = if 9223372036854775808 ≤ x then 9223372036854775808 else 0 := by
  obtain ⟨h0, h1⟩ := h
  obtain ⟨n, rfl⟩ := Int.eq_ofNat_of_zero_le h0
  rw [u64_and _ _ h0 (by omega) (by omega) (by omega)]
  have e := nat_bit 63 n
  have k : (2 : Nat) ^ 63 = 9223372036854775808 := by decide
  rw [k] at e
  simp only [Int.reduceToNat, Int.toNat_natCast]
  rw [e]
  split <;> omega
theorem and_quiet (x : Int) (h : U x) (hf : x < 4503599627370496) : bits .and .u64 x 2251799813685248 = if 2251799813685248 ≤ x then 2251799813685248 else 0 := by
  obtain ⟨h0, h1⟩ := h
  obtain ⟨n, rfl⟩ := Int.eq_ofNat_of_zero_le h0
  rw [u64_and _ _ h0 (by omega) (by omega) (by omega)]
  have e := nat_bit 51 n
  have k : (2 : Nat) ^ 51 = 2251799813685248 := by decide
  rw [k] at e
  simp only [Int.reduceToNat, Int.toNat_natCast]
  rw [e]
  split <;> omega
theorem and_frac (x : Int) (h : U x) : bits .and .u64 x 4503599627370495 = fracV x := by
  obtain ⟨h0, h1⟩ := h
  obtain ⟨n, rfl⟩ := Int.eq_ofNat_of_zero_le h0
  rw [u64_and _ _ h0 (by omega) (by omega) (by omega)]
  simp only [Int.reduceToNat, Int.toNat_natCast, nat_mask52, fracV]
  omega
theorem and_exp (x : Int) (h : U x) : bits .and .u64 (x / 4503599627370496) 2047 = expV x := by
  obtain ⟨h0, h1⟩ := h
  obtain ⟨n, hn⟩ := Int.eq_ofNat_of_zero_le (show 0 ≤ x / 4503599627370496 by omega)
  rw [u64_and _ _ (by omega) (by omega) (by omega) (by omega), expV, hn]
  simp only [Int.reduceToNat, Int.toNat_natCast, nat_mask11]
  omega
theorem andNot_sign (x : Int) (h : U x) : bits .andNot .u64 x 9223372036854775808 = absV x := by
  obtain ⟨h0, h1⟩ := h
  obtain ⟨n, rfl⟩ := Int.eq_ofNat_of_zero_le h0
  rw [u64_andNot _ _ h0 (by omega) (by omega) (by omega)]
  have e := Nat.and_two_pow_sub_one_eq_mod n 63
  have k : (2 : Nat) ^ 63 - 1 = 9223372036854775807 := by decide
  have k' : (2 : Nat) ^ 63 = 9223372036854775808 := by decide
  rw [k, k'] at e
  simp only [Int.reduceToNat, Int.toNat_natCast, Nat.reduceSub, absV]
  rw [e]
  omega
theorem nat_xor_top (n : Nat) (h : n < 18446744073709551616) : n ^^^ 9223372036854775808 = (n + 9223372036854775808) % 18446744073709551616 := by
  have k : (9223372036854775808 : Nat) = 2 ^ 63 := by decide
  by_cases hs : n < 9223372036854775808
  · have h1 : n ^^^ 2 ^ 63 = n ||| 2 ^ 63 := by
      apply Nat.eq_of_testBit_eq
      intro i
      rw [Nat.testBit_xor, Nat.testBit_or, Nat.testBit_two_pow]
      by_cases hi : 63 = i
      · subst hi
        rw [Nat.testBit_lt_two_pow (by rw [← k]; exact hs)]
        rfl
      · simp [hi]
    rw [k, h1, Nat.or_comm, nat_join 63 (2 ^ 63) n (by decide) (by rw [← k]; exact hs), ← k]
    omega
  · obtain ⟨m, rfl⟩ : ∃ m, n = m + 9223372036854775808 := ⟨n - 9223372036854775808, by omega⟩
    have h3 : m < 2 ^ 63 := by rw [← k]; omega
    have h1 : m + 9223372036854775808 = m ^^^ 2 ^ 63 := by
      apply Nat.eq_of_testBit_eq
      intro i
      rw [Nat.add_comm, k, ← nat_join 63 (2 ^ 63) _ (by decide) h3, Nat.testBit_xor, Nat.testBit_or, Nat.testBit_two_pow]
      by_cases hi : 63 = i
      · subst hi
        rw [Nat.testBit_lt_two_pow h3]
        rfl
      · simp [hi]
    have h4 : (m + 9223372036854775808) ^^^ 9223372036854775808 = m := by
      rw [h1, k, Nat.xor_assoc, Nat.xor_self, Nat.xor_zero]
    rw [h4]
    omega
theorem xor_sign (x : Int) (h : U x) : bits .xor .u64 x 9223372036854775808 = negV x := by
  obtain ⟨h0, h1⟩ := h
  obtain ⟨n, rfl⟩ := Int.eq_ofNat_of_zero_le h0
  rw [u64_xor _ _ h0 (by omega) (by omega) (by omega)]
  simp only [Int.reduceToNat, Int.toNat_natCast, negV]
  rw [nat_xor_top n (by omega)]
  omega
theorem nat_xor_all (n : Nat) (h : n < 18446744073709551616) : n ^^^ 18446744073709551615 = 18446744073709551615 - n := by
  have k : (18446744073709551615 : Nat) = 2 ^ 64 - 1 := by decide
  rw [k]
  apply Nat.eq_of_testBit_eq
  intro i
  have k2 : (2 : Nat) ^ 64 = 18446744073709551616 := by decide
  rw [Nat.testBit_xor, Nat.testBit_two_pow_sub_one, Nat.sub_sub, Nat.add_comm, Nat.testBit_two_pow_sub_succ (by omega)]
  by_cases hi : i < 64
  · simp [hi]
  · rw [Nat.testBit_lt_two_pow (Nat.lt_of_lt_of_le (show n < 2 ^ 64 by omega) (Nat.pow_le_pow_right (by decide) (by omega)))]
    simp [hi]
theorem place_bits (x : Int) (h : U x) :
    bits .xor .u64 x (bits .or .u64 (IntKind.u64.wrap (wrap64 x / 9223372036854775808)) 9223372036854775808) = placeV x := by
  obtain ⟨h0, h1⟩ := h
  by_cases hs : 9223372036854775808 ≤ x
  · have e1 : IntKind.u64.wrap (wrap64 x / 9223372036854775808) = 18446744073709551615 := by
      rw [IntKind.wrap_u64]; unfold wrap64; omega
    have e2 : bits .or .u64 18446744073709551615 9223372036854775808 = 18446744073709551615 := by decide
    obtain ⟨n, rfl⟩ := Int.eq_ofNat_of_zero_le h0
    rw [e1, e2, u64_xor _ _ h0 (by omega) (by omega) (by omega)]
    simp only [Int.reduceToNat, Int.toNat_natCast]
    rw [nat_xor_all n (by omega), placeV, if_pos hs]
    omega
  · have e1 : IntKind.u64.wrap (wrap64 x / 9223372036854775808) = 0 := by
      rw [IntKind.wrap_u64]; unfold wrap64; omega
    have e2 : bits .or .u64 0 9223372036854775808 = 9223372036854775808 := by decide
    rw [e1, e2, xor_sign x ⟨h0, h1⟩, placeV, if_neg hs, negV]
    omega
theorem or_hidden (f : Int) (h0 : 0 ≤ f) (h1 : f < 4503599627370496) : bits .or .u64 f 4503599627370496 = f + 4503599627370496 := by
  obtain ⟨n, rfl⟩ := Int.eq_ofNat_of_zero_le h0
  rw [u64_or _ _ h0 (by omega) (by omega) (by omega)]
  have k : (4503599627370496 : Nat) = 2 ^ 52 := by decide
  simp only [Int.reduceToNat, Int.toNat_natCast]
  rw [Nat.or_comm, k, nat_join 52 (2 ^ 52) n (by decide) (by rw [← k]; omega), ← k]
  omega
theorem or_fields (e f : Int) (h0 : 0 ≤ e) (h1 : e ≤ 2047) (h2 : 0 ≤ f) (h3 : f ≤ 4503599627370495) : bits .or .u64 (e * 4503599627370496) f = e * 4503599627370496 + f := by
  obtain ⟨m, rfl⟩ := Int.eq_ofNat_of_zero_le h0
  obtain ⟨n, rfl⟩ := Int.eq_ofNat_of_zero_le h2
  rw [u64_or _ _ (by omega) (by omega) h2 (by omega)]
  have k : (4503599627370496 : Nat) = 2 ^ 52 := by decide
  have e1 : ((m : Int) * 4503599627370496).toNat = m * 4503599627370496 := by omega
  rw [e1, Int.toNat_natCast, nat_join 52 (m * 4503599627370496) n (by rw [k]; exact Nat.mul_mod_left _ _) (by rw [← k]; omega)]
  omega
theorem or_top (y : Int) (h0 : 0 ≤ y) (h1 : y < 9223372036854775808) : bits .or .u64 y 9223372036854775808 = y + 9223372036854775808 := by
  obtain ⟨n, rfl⟩ := Int.eq_ofNat_of_zero_le h0
  rw [u64_or _ _ h0 (by omega) (by omega) (by omega)]
  have k : (9223372036854775808 : Nat) = 2 ^ 63 := by decide
  simp only [Int.reduceToNat, Int.toNat_natCast]
  rw [Nat.or_comm, k, nat_join 63 (2 ^ 63) n (by decide) (by rw [← k]; omega), ← k]
  omega

/-! ### bounds -/
theorem fracV_bd (x : Int) : 0 ≤ fracV x ∧ fracV x < 4503599627370496 := by unfold fracV; omega
theorem expV_bd (x : Int) : 0 ≤ expV x ∧ expV x ≤ 2047 := by unfold expV; omega
theorem absV_bd (x : Int) : 0 ≤ absV x ∧ absV x < 9223372036854775808 := by unfold absV; omega
theorem absV_U (x : Int) : U (absV x) := by unfold U absV; omega
theorem negV_U (x : Int) : U (negV x) := by unfold U negV; omega
theorem upV_U (x : Int) (h : U x) : U (upV x) := by unfold U upV at *; (repeat' split) <;> omega
theorem placeV_U (x : Int) (h : U x) : U (placeV x) := by unfold U placeV at *; split <;> omega
theorem countV_bd (x : Int) : 0 ≤ countV x ∧ countV x < 9007199254740992 := by
  have := fracV_bd x; unfold countV; split <;> omega
theorem countV_U (x : Int) : U (countV x) := by have := countV_bd x; unfold U; omega
theorem unitV_bd (x : Int) : -1074 ≤ unitV x ∧ unitV x ≤ 972 := by have := expV_bd x; unfold unitV; split <;> omega
theorem tzV_bd (x : Int) (h : U x) : 0 ≤ tzV x ∧ tzV x ≤ 64 := by
  unfold tzV
  refine ⟨by omega, ?_⟩
  by_cases h0 : x.toNat = 0
  · rw [h0]; decide
  · have := (Lib.lowest_bit 64 x.toNat h0 (by unfold U at h; have : (2 : Nat) ^ 64 = 18446744073709551616 := by decide
                                              omega)).2
    omega
theorem lowV_bd (x : Int) : -1074 ≤ lowV x ∧ lowV x ≤ 1036 := by
  have h1 := unitV_bd x; have h2 := tzV_bd _ (countV_U x); unfold lowV; split <;> omega
theorem tz_spec (x : Int) (h0 : 0 < x) (h1 : x ≤ 18446744073709551615) : ∃ k m : Nat, tzV x = k ∧ x = 2 ^ k * (2 * m + 1) := by
  obtain ⟨n, rfl⟩ := Int.eq_ofNat_of_zero_le (show 0 ≤ x by omega)
  have hn : n < 2 ^ 64 := by have : (2 : Nat) ^ 64 = 18446744073709551616 := by decide
                             omega
  obtain ⟨m, hm, _⟩ := Lib.ctzFrom_spec 64 n (by omega) hn
  refine ⟨Lib.ctzFrom 64 n, m, ?_, ?_⟩
  · unfold tzV; rw [Int.toNat_natCast, Lib.ctz, if_neg (by omega)]
  · have := congrArg (fun z : Nat => (z : Int)) hm
    simpa using this
theorem joinV_U (s : Bool) (e f : Int) (h : 0 ≤ f) : U (joinV s e f) := by
  unfold joinV joinE U; cases s <;> (repeat' split) <;> simp_all <;> omega
end Go.Proofs.Ytlbaphijmonjoaa

namespace Go.Proofs.Ytlbaphijmonjoaa
open Go.RowKit


theorem bcell {W w1 : World} (hb : Below W.heap.size W w1) : (∀ b o, b < W.heap.size → w1.cell? ⟨b, o, none⟩ = W.cell? ⟨b, o, none⟩) ∧ (∀ b o, b < W.heap.size → w1.frozen? ⟨b, o, none⟩ = W.frozen? ⟨b, o, none⟩) :=
  ⟨fun b o h => hb.cell (p := ⟨b, o, none⟩) h, fun b o h => hb.frozen (p := ⟨b, o, none⟩) h⟩
theorem below_trans {a b c : World} (h : Below a.heap.size a b) (k : Below b.heap.size b c) : Below a.heap.size a c := h.trans (k.mono h.size)
theorem below_alloc (w : World) (o : Obj) : Below w.heap.size w (w.alloc o) := (Below.refl _ _).alloc (Nat.le_refl _) o
theorem ret_int {k : IntKind} {a b : Int} (h : a = b) : Ending.returned (.int k a) = .returned (.int k b) := by rw [h]
theorem ret_bool {a b : Bool} (h : a = b) : Ending.returned (.bool a) = .returned (.bool b) := by rw [h]















theorem rungV_bd (x : Int) (h : U x) : -9223372036854775807 ≤ rungV x ∧ rungV x ≤ 9223372036854775807 := by
  unfold U at h; unfold rungV; split <;> omega
theorem steps_wrap (a b : Int) (h : a ≤ b) (ha : -9223372036854775807 ≤ a) (hb : b ≤ 9223372036854775807) :
    IntKind.u64.wrap (IntKind.u64.wrap b - IntKind.u64.wrap a) = b - a := by
  simp only [IntKind.wrap_u64]; omega


theorem tz_key (x a : Nat) (hx : x < 18446744073709551616) (hx0 : x ≠ 0) (hlow : x &&& (18446744073709551616 - x) = a) :
    IntKind.u64.wrap (bits BinOp.and IntKind.u64 (x : Int) (IntKind.u64.wrap (-(x : Int))) * 285870213051353865) / 288230376151711744 = ((a * 285870213051353865 % 18446744073709551616 / 288230376151711744 : Nat) : Int) := by
  have e1 : IntKind.u64.wrap (-(x : Int)) = ((18446744073709551616 - x : Nat) : Int) := by rw [IntKind.wrap_u64]; omega
  rw [e1, u64_and_nat x _ hx (by omega), hlow, IntKind.wrap_u64]
  omega



end Go.Proofs.Ytlbaphijmonjoaa

namespace Go.Proofs.Ytlbaphijmonjoaa
open Go.RowKit


theorem cmp_len (u v : Nat) (h : (wordsOf u).length ≠ (wordsOf v).length) : Lib.compareInt ((wordsOf u).length : Nat) ((wordsOf v).length : Nat) = cmpN u v := by
  have k1 := words_len (wordsOf u).length
  have k2 := words_len (wordsOf v).length
  have a1 := (k1 u).1 (Nat.le_refl _)
  have a2 := (k2 v).1 (Nat.le_refl _)
  have b1 := k1 v
  have b2 := k2 u
  unfold Lib.compareInt cmpN
  by_cases c : (wordsOf u).length < (wordsOf v).length
  · have : ¬ v < 18446744073709551616 ^ (wordsOf u).length := fun q => by have := b1.2 q; omega
    rw [if_pos (by omega), if_pos (by omega)]
  · have : ¬ u < 18446744073709551616 ^ (wordsOf v).length := fun q => by have := b2.2 q; omega
    rw [if_neg (by omega), if_pos (by omega), if_neg (by omega), if_pos (by omega)]

end Go.Proofs.Ytlbaphijmonjoaa

namespace Go.Proofs.Ytlbaphijmonjoaa
open Go.RowKit

theorem great_of_len {v n : Nat} (hn : n = (wordsOf v).length) (h : 1024 < n) : greatB v = true := by rw [greatB, ← hn]; simpa using h
theorem fit_of_len {v n : Nat} (hn : n = (wordsOf v).length) (h : ¬ 1024 < n) : greatB v = false := by rw [greatB, ← hn]; simpa using h
theorem len_of_great {v n : Nat} (hn : n = (wordsOf v).length) (h : greatB v = true) : 1024 < n := by rw [greatB, ← hn] at h; simpa using h
theorem len_of_fit {v n : Nat} (hn : n = (wordsOf v).length) (h : greatB v = false) : n ≤ 1024 := by rw [greatB, ← hn] at h; simpa using h





theorem tz_at (v k : Nat) (x : Int) (hx : x = (wordsOf v).getD k 0) (h0 : 0 < x) (hz : ∀ i, i < k → (wordsOf v).getD i 0 = 0) : tz v = k * 64 + tz x.toNat := by
  have hg := (words_U v).get k
  have hl : val ((wordsOf v).take k) = 0 := by
    rw [← low_take]
    have : ∀ j, j ≤ k → low (wordsOf v) j = 0 := fun j => by
      induction j with
      | zero => intro _; rfl
      | succ j ih => intro hj; show low (wordsOf v) j + _ = 0; rw [ih (by omega), hz j (by omega)]; simp
    exact this k (Nat.le_refl _)
  have hk : k < (wordsOf v).length := by
    rcases Nat.lt_or_ge k (wordsOf v).length with h | h
    · exact h
    · rw [show (wordsOf v).getD k 0 = 0 by simp [List.getD, h]] at hx; omega
  have e := val_split (wordsOf v) (k + 1)
  rw [val_words, val_take_succ _ k hk, hl, ← hx, Nat.zero_add, two64, two64, Nat.min_eq_left (by omega)] at e
  have e2 : v = 2 ^ (64 * k) * (x.toNat + 2 ^ 64 * val ((wordsOf v).drop (k + 1))) := by
    rw [Nat.mul_add, ← Nat.mul_assoc, ← Nat.pow_add, show 64 * k + 64 = 64 * (k + 1) by omega]; exact e
  rw [e2, tz_shift _ _ (by omega), tz_low 64 x.toNat _ (by omega) (by have : (2 : Nat) ^ 64 = 18446744073709551616 := rfl; omega)]; omega



theorem bit_spell2 (x : Int) (k : Nat) (h : 0 ≤ x) (h1 : x ≤ 18446744073709551615) : (bits .and .u64 (x / 2 ^ k) 1 == 1) = decide (x.toNat / 2 ^ k % 2 = 1) := by
  obtain ⟨n, rfl⟩ := Int.eq_ofNat_of_zero_le h
  have e : ((n : Int) / 2 ^ k) = ((n / 2 ^ k : Nat) : Int) := by rw [Int.natCast_ediv, Int.natCast_pow]; rfl
  have hle : n / 2 ^ k ≤ n := Nat.div_le_self _ _
  rw [e, show (1 : Int) = ((1 : Nat) : Int) from rfl, u64_and_nat _ 1 (by omega) (by omega), Nat.and_one_is_mod, Int.toNat_natCast]
  rw [Bool.eq_iff_iff]; simp; omega


end Go.Proofs.Ytlbaphijmonjoaa

namespace Go.Proofs.Ytlbaphijmonjoaa
open Go.RowKit

theorem IsW.other {w : World} {a : Option Addr} {len cap : Nat} {xs : List Int} (h : IsW w a len cap xs) (p : Addr) (u : Value) (hp : ∀ b off, a = some ⟨b, off, none⟩ → p.block ≠ b) : IsW (w.setCell p u) a len cap xs := by
  refine ⟨h.1, h.2.1, h.2.2.1, fun i hi => ?_⟩
  obtain ⟨b, off, e1, e2, e3⟩ := h.2.2.2 i hi
  refine ⟨b, off, e1, by rw [World.size_setCell]; exact e2, ?_⟩
  exact (World.cell?_setCell_other (w := w) (a := p) (b := ⟨b, off + i, none⟩) (v := u) (fun e => hp b off e1 (by rw [e]))).trans e3
theorem OwnW.other {B : Nat} {w : World} {a : Option Addr} {len cap : Nat} {xs : List Int} (h : OwnW B w a len cap xs) (p : Addr) (u : Value) (hp : ∀ b off, a = some ⟨b, off, none⟩ → p.block ≠ b) : OwnW B (w.setCell p u) a len cap xs := by
  refine ⟨h.1.other p u hp, fun b off i e hi => ?_⟩
  rw [World.frozen?_setCell]
  exact h.2 b off i e hi
theorem OwnW.set {B g off : Nat} {w : World} {len cap : Nat} {xs : List Int} (h : OwnW B w (some ⟨g, off, none⟩) len cap xs) {i : Nat} (hi : i < len) {v : Int} (h0 : 0 ≤ v) (h1 : v ≤ 18446744073709551615) :
    OwnW B (w.setCell ⟨g, off + i, none⟩ (.int .u64 v)) (some ⟨g, off, none⟩) len cap (xs.set i v) := by
  refine ⟨⟨by rw [List.length_set]; exact h.1.1, h.1.2.1.set h0 h1, h.1.2.2.1, fun j hj => ?_⟩, fun b off' j e hj => ?_⟩
  · obtain ⟨b, o, e1, e2, e3⟩ := h.1.2.2.2 j hj
    simp only [Option.some.injEq, Addr.mk.injEq, and_true] at e1
    obtain ⟨rfl, rfl⟩ := e1
    refine ⟨g, off, rfl, by rw [World.size_setCell]; exact e2, ?_⟩
    rw [getD_set xs i j v (by have := h.1.1; omega)]
    by_cases hij : i = j
    · subst hij; rw [if_pos rfl]; exact World.cell?_setCell_same w _ _ e3
    · rw [if_neg hij]; exact (World.cell?_setCell_other (w := w) (a := ⟨g, off + i, none⟩) (b := ⟨g, off + j, none⟩) (v := .int .u64 v) (fun e => hij (Nat.add_left_cancel (congrArg Addr.off e)))).trans e3
  · rw [World.frozen?_setCell]
    exact h.2 b off' j e hj
theorem nat_T : Try.prog.underlying 28 = some (.slice 47) := Try.underlying28
theorem own_zeros {B : Nat} {w : World} {n : Nat} (g : Nat) (h : w.ownsRow B 47 1 (.slice (some ⟨g, 0, none⟩) n n) n (madeCells (Value.int .u64 0).cells (n * 1)).toList) : OwnW B w (some ⟨g, 0, none⟩) n n (zeros n) := by
  have e : (madeCells (Value.int .u64 0).cells (n * 1)).toList = (zeros n).map (Value.int .u64) := by
    rw [show (Value.int .u64 0).cells = #[Value.int .u64 0] from rfl, toList_madeCells_one, Nat.mul_one, zeros, List.map_replicate]
  have hO : Own B w (some ⟨g, 0, none⟩) n (zeros n) := by
    unfold Own; rw [zeros_len, ← e]; exact h
  exact hO.ownW (zeros_U n) (zeros_len n)
/-- make of so many words, of either type of list. -/
theorem make_words (t : TypeId) (ht : Try.prog.underlying t = some (.slice 47)) (w : World) (n : Nat) (hn : n ≤ 17592186044416) :
    ∃ w1, (Instr.makeSlice t (.int .i64 (n : Int)) (.int .i64 (n : Int))).run Try.prog w = .ok (.slice (some ⟨w.heap.size, 0, none⟩) n n) w1 ∧ OwnW w.heap.size w1 (some ⟨w.heap.size, 0, none⟩) n n (zeros n) ∧ Below w.heap.size w w1 ∧ w.heap.size < w1.heap.size := by
  obtain ⟨i0, hi, hz0, hz1, hz2⟩ := info_parts word_info
  obtain ⟨w', h1, h2, h3⟩ := run_make_full (P := Try.prog) w w.heap.size t 47 i0 (.int .u64 0) 1 ht hi hz0 hz1 .i64 .i64 n (by rw [hz2]; omega) (by unfold maxLen; omega) (Nat.le_refl _)
  refine ⟨w', h1, own_zeros _ h2, (Below.refl _ _).grown h3 (Nat.le_refl _) (fun q hq => by cases hq), ?_⟩
  rcases h2.2 with ⟨e, _⟩ | ⟨g, cap, cur, e, _, hh, _⟩
  · cases e
  · simp only [Value.slice.injEq, Option.some.injEq, Addr.mk.injEq, and_true] at e
    obtain ⟨rfl, _⟩ := e.1
    exact (Array.getElem?_eq_some_iff.1 hh).1
end Go.Proofs.Ytlbaphijmonjoaa

namespace Go.Proofs.Ytlbaphijmonjoaa
open Go.RowKit

/-- What a difference of two words borrows. -/
def bor (x y b : Nat) : Nat := if x < y + b then 1 else 0
theorem bor_le (x y b : Nat) : bor x y b ≤ 1 := by unfold bor; split <;> omega
/-- The word that is left of two, and one borrowed. -/
def dif (x y b : Nat) : Nat := (x + 18446744073709551616 - y - b) % 18446744073709551616
theorem dif_lt (x y b : Nat) : dif x y b < 18446744073709551616 := Nat.mod_lt _ (by decide)
theorem dif_spec (x y b : Nat) (hx : x < 18446744073709551616) (hy : y < 18446744073709551616) (hb : b ≤ 1) : dif x y b + y + b = x + 18446744073709551616 * bor x y b := by
  unfold dif bor; split <;> omega


end Go.Proofs.Ytlbaphijmonjoaa

namespace Go.Proofs.Ytlbaphijmonjoaa
open Go.RowKit

theorem add_set (xs ys M : List Int) (k x y c s c' : Nat) (hk : k < M.length) (hz : M.getD k 0 = 0) (hx : xs.getD k 0 = (x : Int)) (hy : ys.getD k 0 = (y : Int))
    (hv : val M + 18446744073709551616 ^ k * c = low xs k + low ys k) (hw : s + 18446744073709551616 * c' = x + y + c) :
    val (M.set k (s : Int)) + 18446744073709551616 ^ (k + 1) * c' = low xs (k + 1) + low ys (k + 1) := by
  have e0 := val_set M k (s : Int) hk
  rw [hz] at e0
  have e1 : low xs (k + 1) = low xs k + 18446744073709551616 ^ k * x := by show low xs k + _ * (xs.getD k 0).toNat = _; rw [hx, Int.toNat_natCast]
  have e2 : low ys (k + 1) = low ys k + 18446744073709551616 ^ k * y := by show low ys k + _ * (ys.getD k 0).toNat = _; rw [hy, Int.toNat_natCast]
  have e4 := congrArg (18446744073709551616 ^ k * ·) hw
  simp only [Nat.mul_add] at e4
  rw [Int.toNat_natCast] at e0
  rw [e1, e2, Nat.pow_succ, Nat.mul_assoc]
  simp at e0
  omega
theorem sub_set (xs ys M : List Int) (k x y c s c' : Nat) (hk : k < M.length) (hz : M.getD k 0 = 0) (hx : xs.getD k 0 = (x : Int)) (hy : ys.getD k 0 = (y : Int))
    (hv : val M + low ys k = low xs k + 18446744073709551616 ^ k * c) (hw : s + y + c = x + 18446744073709551616 * c') :
    val (M.set k (s : Int)) + low ys (k + 1) = low xs (k + 1) + 18446744073709551616 ^ (k + 1) * c' := by
  have e0 := val_set M k (s : Int) hk
  rw [hz] at e0
  have e1 : low xs (k + 1) = low xs k + 18446744073709551616 ^ k * x := by show low xs k + _ * (xs.getD k 0).toNat = _; rw [hx, Int.toNat_natCast]
  have e2 : low ys (k + 1) = low ys k + 18446744073709551616 ^ k * y := by show low ys k + _ * (ys.getD k 0).toNat = _; rw [hy, Int.toNat_natCast]
  have e4 := congrArg (18446744073709551616 ^ k * ·) hw
  simp only [Nat.mul_add] at e4
  rw [Int.toNat_natCast] at e0
  rw [e1, e2, Nat.pow_succ, Nat.mul_assoc]
  simp at e0
  omega
theorem word_nat (xs : List Int) (h : AllU xs) (k : Nat) : ∃ x : Nat, xs.getD k 0 = (x : Int) ∧ x < 18446744073709551616 := by
  have := h.get k
  exact ⟨(xs.getD k 0).toNat, by omega, by omega⟩
theorem set_past (M : List Int) (k : Nat) (v : Int) (hk : k < M.length) (h : ∀ j, k ≤ j → M.getD j 0 = 0) : ∀ j, k + 1 ≤ j → (M.set k v).getD j 0 = 0 := fun j hj => by
  rw [getD_set M k j v hk, if_neg (by omega)]; exact h j (by omega)


end Go.Proofs.Ytlbaphijmonjoaa

namespace Go.Proofs.Ytlbaphijmonjoaa
open Go.RowKit

theorem plus_val (xs ys M : List Int) (K c : Nat) (hx : AllU xs) (hy : AllU ys) (hxl : xs.length ≤ K) (hyl : ys.length ≤ K) (h : val M + 18446744073709551616 ^ (K + 1) * c = low xs (K + 1) + low ys (K + 1)) : val M = val xs + val ys := by
  rw [low_all xs _ (by omega), low_all ys _ (by omega)] at h
  have h1 : val xs < 18446744073709551616 ^ K := Nat.lt_of_lt_of_le (val_lt xs hx) (Nat.pow_le_pow_right (by decide) hxl)
  have h2 : val ys < 18446744073709551616 ^ K := Nat.lt_of_lt_of_le (val_lt ys hy) (Nat.pow_le_pow_right (by decide) hyl)
  have hc : c = 0 := by
    rcases Nat.eq_zero_or_pos c with h0 | h0
    · exact h0
    · rw [Nat.pow_succ] at h
      generalize 18446744073709551616 ^ K = P at h h1 h2
      have h3 : P * 18446744073709551616 ≤ P * 18446744073709551616 * c := Nat.le_mul_of_pos_right _ h0
      generalize P * 18446744073709551616 * c = Q at h h3
      omega
  rw [hc, Nat.mul_zero, Nat.add_zero] at h
  exact h
theorem less_val (xs ys M : List Int) (n c : Nat) (hM : AllU M) (hMl : M.length = n) (hxl : xs.length ≤ n) (hyl : ys.length ≤ n) (hle : val ys ≤ val xs) (h : val M + low ys n = low xs n + 18446744073709551616 ^ n * c) : val M = val xs - val ys := by
  rw [low_all xs _ hxl, low_all ys _ hyl] at h
  have h1 := val_lt M hM
  rw [hMl] at h1
  have hc : c = 0 := by
    rcases Nat.eq_zero_or_pos c with h0 | h0
    · exact h0
    · generalize 18446744073709551616 ^ n = P at h h1
      have h3 : P ≤ P * c := Nat.le_mul_of_pos_right _ h0
      generalize P * c = Q at h h3
      omega
  rw [hc, Nat.mul_zero, Nat.add_zero] at h
  omega



/-- The sum, or why there is none. -/
def addR (u v : Nat) : Nat × Int := if (greatB u || greatB v) = true then (0, 3) else fitR (u + v)
/-- The difference, or why there is none. -/
def subR (u v : Nat) : Nat × Int := if (greatB u || greatB v) = true then (0, 3) else if u < v then (0, 31) else (u - v, 0)
theorem addR_yes {u v : Nat} (h : (greatB u || greatB v) = true) : addR u v = (0, 3) := by unfold addR; rw [if_pos h]
theorem addR_no {u v : Nat} (h : (greatB u || greatB v) = false) : addR u v = fitR (u + v) := by unfold addR; rw [if_neg (by rw [h]; decide)]
theorem subR_yes {u v : Nat} (h : (greatB u || greatB v) = true) : subR u v = (0, 3) := by unfold subR; rw [if_pos h]
theorem subR_less {u v : Nat} (h : (greatB u || greatB v) = false) (hl : u < v) : subR u v = (0, 31) := by unfold subR; rw [if_neg (by rw [h]; decide), if_pos hl]
theorem subR_no {u v : Nat} (h : (greatB u || greatB v) = false) (hl : v ≤ u) : subR u v = (u - v, 0) := by unfold subR; rw [if_neg (by rw [h]; decide), if_neg (by omega)]
theorem words_mono {u v : Nat} (h : v ≤ u) : (wordsOf v).length ≤ (wordsOf u).length := by
  rw [words_len]; exact Nat.lt_of_le_of_lt h ((words_len _ u).1 (Nat.le_refl _))


end Go.Proofs.Ytlbaphijmonjoaa

namespace Go.Proofs.Ytlbaphijmonjoaa
open Go.RowKit

/-- The guess q with the rest r of the upper part, ahead of a test. -/
def Guess (u32 u1 y1 y0 q r : Nat) : Prop := q * y1 + r = u32 ∧ (u32 * 4294967296 + u1) / (y1 * 4294967296 + y0) ≤ q ∧ q ≤ 4294967297
theorem guess_start (u32 u1 y1 y0 : Nat) (hy0 : y0 < 4294967296) (hy1 : 2147483648 ≤ y1) (hu1 : u1 < 4294967296) (hu : u32 < y1 * 4294967296 + y0) : Guess u32 u1 y1 y0 (u32 / y1) (u32 % y1) := by
  have h1 := Nat.div_add_mod u32 y1
  refine ⟨by rw [Nat.mul_comm]; exact h1, ?_, ?_⟩
  · have h2 : (u32 * 4294967296 + u1) / (y1 * 4294967296 + y0) ≤ (u32 * 4294967296 + u1) / (y1 * 4294967296) := Nat.div_le_div_left (by omega) (by omega)
    rw [Nat.mul_comm y1, ← Nat.div_div_eq_div_mul, show (u32 * 4294967296 + u1) / 4294967296 = u32 by omega] at h2
    rw [Nat.mul_comm y1]; exact h2
  · have h3 : u32 / y1 < 4294967298 := by
      rw [Nat.div_lt_iff_lt_mul (by omega)]; omega
    omega
theorem guess_test (u32 u1 y1 y0 q r : Nat) (h : Guess u32 u1 y1 y0 q r) : q * y0 ≤ 4294967296 * r + u1 ↔ q * (y1 * 4294967296 + y0) ≤ u32 * 4294967296 + u1 := by
  have e : q * (y1 * 4294967296 + y0) = q * y1 * 4294967296 + q * y0 := by rw [Nat.mul_add, Nat.mul_assoc]
  have h1 := h.1
  rw [e]; omega
theorem guess_step (u32 u1 y1 y0 q r : Nat) (hu1 : u1 < 4294967296) (hu : u32 < y1 * 4294967296 + y0) (h : Guess u32 u1 y1 y0 q r) (hc : 4294967296 ≤ q ∨ 4294967296 * r + u1 < q * y0) : 1 ≤ q ∧ Guess u32 u1 y1 y0 (q - 1) (r + y1) := by
  have ht := guess_test u32 u1 y1 y0 q r h
  obtain ⟨h1, h2, h3⟩ := h
  have hq : (u32 * 4294967296 + u1) / (y1 * 4294967296 + y0) < q := by
    rcases hc with hc | hc
    · have : (u32 * 4294967296 + u1) / (y1 * 4294967296 + y0) < 4294967296 := by
        rw [Nat.div_lt_iff_lt_mul (by omega)]; omega
      omega
    · rw [Nat.div_lt_iff_lt_mul (by omega)]
      omega
  have q1 : 1 ≤ q := Nat.lt_of_le_of_lt (Nat.zero_le _) hq
  refine ⟨q1, ?_, Nat.le_sub_one_of_lt hq, Nat.le_trans (Nat.sub_le _ _) h3⟩
  obtain ⟨p, rfl⟩ : ∃ p, q = p + 1 := ⟨q - 1, by clear hq h2; omega⟩
  rw [Nat.add_sub_cancel]; rw [Nat.add_mul, Nat.one_mul] at h1; omega
theorem guess_end (u32 u1 y1 y0 q r : Nat) (hy1 : 2147483648 ≤ y1) (h : Guess u32 u1 y1 y0 q r) (hc : q * y0 ≤ 4294967296 * r + u1) : q = (u32 * 4294967296 + u1) / (y1 * 4294967296 + y0) := by
  have ht := (guess_test u32 u1 y1 y0 q r h).1 hc
  have := (Nat.le_div_iff_mul_le (show 0 < y1 * 4294967296 + y0 by omega)).2 ht
  have := h.2.1
  omega
theorem guess_break (u32 u1 y1 y0 q r : Nat) (hy0 : y0 < 4294967296) (hy1 : 2147483648 ≤ y1) (h : Guess u32 u1 y1 y0 q r) (hq : q ≤ 4294967296) (hr : 4294967296 ≤ r) : q = (u32 * 4294967296 + u1) / (y1 * 4294967296 + y0) := by
  refine guess_end u32 u1 y1 y0 q r hy1 h ?_
  have h1 : q * y0 ≤ 4294967296 * y0 := Nat.mul_le_mul_right _ hq
  omega
/-- Two digits make the quotient of a word and a word by a word whose top bit is set; all of it shifted. -/
theorem two_digits (y u q1 : Nat) (u1 u0 : Nat) (hy : 0 < y) (h1 : q1 = (u * 4294967296 + u1) / y) :
    q1 * 4294967296 + ((u * 4294967296 + u1) % y * 4294967296 + u0) / y = (u * 18446744073709551616 + u1 * 4294967296 + u0) / y ∧ ((u * 4294967296 + u1) % y * 4294967296 + u0) % y = (u * 18446744073709551616 + u1 * 4294967296 + u0) % y := by
  have e := Nat.div_add_mod (u * 4294967296 + u1) y
  rw [← h1] at e
  have e2 : u * 18446744073709551616 + u1 * 4294967296 + u0 = ((u * 4294967296 + u1) % y * 4294967296 + u0) + y * (q1 * 4294967296) := by
    rw [← Nat.mul_assoc]; omega
  rw [e2, Nat.add_mul_div_left _ _ hy, Nat.add_mul_mod_self_left]
  exact ⟨Nat.add_comm _ _, rfl⟩
end Go.Proofs.Ytlbaphijmonjoaa

namespace Go.Proofs.Ytlbaphijmonjoaa
open Go.RowKit

/-- The shift that brings a word's top bit up. -/
theorem lead_shift (y : Nat) (h0 : 0 < y) (hy : y < 18446744073709551616) : ∃ s : Nat, s < 64 ∧ (64 - (Lib.bitLen y : Int)) = (s : Int) ∧ 9223372036854775808 ≤ y * 2 ^ s ∧ y * 2 ^ s < 18446744073709551616 := by
  have hb := blen_lib y (by have : (2 : Nat) ^ 64 = 18446744073709551616 := rfl; omega)
  have h1 : blen y ≤ 64 := by rw [blen_le]; have : (2 : Nat) ^ 64 = 18446744073709551616 := rfl; omega
  have h2 : blen y ≠ 0 := fun e => by have := (blen_nil y).1 e; omega
  refine ⟨64 - blen y, by omega, by rw [hb]; omega, ?_, ?_⟩
  · have := Nat.mul_le_mul_right (2 ^ (64 - blen y)) (blen_ge y (by omega))
    rw [← Nat.pow_add, show blen y - 1 + (64 - blen y) = 63 by omega] at this
    exact this
  · have := Nat.mul_lt_mul_of_pos_right (lt_blen y) (Nat.pow_pos (n := 64 - blen y) (show 0 < 2 by decide))
    rw [← Nat.pow_add, show blen y + (64 - blen y) = 64 by omega] at this
    exact this
theorem mul_pow_cast (x s : Nat) : ((x : Int) * 2 ^ s) = ((x * 2 ^ s : Nat) : Int) := by rw [Int.natCast_mul, Int.natCast_pow]; rfl
theorem div_pow_cast (x s : Nat) : ((x : Int) / 2 ^ s) = ((x / 2 ^ s : Nat) : Int) := by rw [Int.natCast_ediv, Int.natCast_pow]; rfl
theorem wrap_nat (x : Nat) : IntKind.u64.wrap (x : Int) = ((x % 18446744073709551616 : Nat) : Int) := by rw [IntKind.wrap_u64]; omega
theorem wrap_small (x : Nat) (h : x < 18446744073709551616) : IntKind.u64.wrap (x : Int) = (x : Int) := by rw [wrap_nat, Nat.mod_eq_of_lt h]
theorem and_mask (x : Nat) (h : x < 18446744073709551616) : bits .and .u64 (x : Int) 4294967295 = ((x % 4294967296 : Nat) : Int) := by
  have e : x &&& 4294967295 = x % 4294967296 := Nat.and_two_pow_sub_one_eq_mod x 32
  rw [show (4294967295 : Int) = ((4294967295 : Nat) : Int) from rfl, u64_and_nat x 4294967295 h (by decide), e]
theorem div64_parts (hi lo y s : Nat) (hl : lo < 18446744073709551616) (h0 : hi < y) (hs : s < 64) (hY0 : 9223372036854775808 ≤ y * 2 ^ s) (hY1 : y * 2 ^ s < 18446744073709551616) :
    ∃ Y U V y1 y0 v1 v0 : Nat, IntKind.u64.wrap ((y : Int) * 2 ^ s) = (Y : Int) ∧ bits BinOp.or IntKind.u64 (IntKind.u64.wrap ((hi : Int) * 2 ^ s)) ((lo : Int) / 2 ^ (64 - s)) = (U : Int) ∧ IntKind.u64.wrap ((lo : Int) * 2 ^ s) = (V : Int) ∧ (Y : Int) / 4294967296 = (y1 : Int) ∧ bits BinOp.and IntKind.u64 (Y : Int) 4294967295 = (y0 : Int) ∧ (V : Int) / 4294967296 = (v1 : Int) ∧ bits BinOp.and IntKind.u64 (V : Int) 4294967295 = (v0 : Int) ∧
      Y = y1 * 4294967296 + y0 ∧ y0 < 4294967296 ∧ 2147483648 ≤ y1 ∧ y1 < 4294967296 ∧ v1 < 4294967296 ∧ v0 < 4294967296 ∧ U < Y ∧ Y = y * 2 ^ s ∧ U * 18446744073709551616 + v1 * 4294967296 + v0 = (hi * 18446744073709551616 + lo) * 2 ^ s := by
  have hpos : 0 < 2 ^ s := Nat.pow_pos (by decide)
  have hlo : lo / 2 ^ (64 - s) < 2 ^ s := by
    rw [Nat.div_lt_iff_lt_mul (Nat.pow_pos (by decide)), ← Nat.pow_add, show s + (64 - s) = 64 by omega]; exact hl
  have hhi : hi * 2 ^ s + 2 ^ s ≤ y * 2 ^ s := by
    have := Nat.mul_le_mul_right (2 ^ s) (show hi + 1 ≤ y from h0)
    rw [Nat.add_mul, Nat.one_mul] at this; exact this
  have hor : (hi * 2 ^ s ||| lo / 2 ^ (64 - s)) = hi * 2 ^ s + lo / 2 ^ (64 - s) := by
    rw [Nat.mul_comm]; exact (Nat.two_pow_add_eq_or_of_lt hlo hi).symm
  have hsw := shl_word lo s hs
  have hV : lo * 2 ^ s % 18446744073709551616 < 18446744073709551616 := Nat.mod_lt _ (by decide)
  refine ⟨y * 2 ^ s, hi * 2 ^ s + lo / 2 ^ (64 - s), lo * 2 ^ s % 18446744073709551616, y * 2 ^ s / 4294967296, y * 2 ^ s % 4294967296, lo * 2 ^ s % 18446744073709551616 / 4294967296, lo * 2 ^ s % 18446744073709551616 % 4294967296, ?_, ?_, ?_, ?_, ?_, ?_, ?_, ?_, ?_, ?_, ?_, ?_, ?_, ?_, rfl, ?_⟩
  · rw [mul_pow_cast, wrap_small _ hY1]
  · rw [mul_pow_cast, wrap_small _ (by omega), div_pow_cast, u64_or_nat _ _ (by omega) (by omega), hor]
  · rw [mul_pow_cast, wrap_nat]
  · omega
  · exact and_mask _ hY1
  · omega
  · exact and_mask _ hV
  · omega
  · exact Nat.mod_lt _ (by decide)
  · omega
  · omega
  · omega
  · exact Nat.mod_lt _ (by decide)
  · omega
  · rw [Nat.add_mul, Nat.add_mul, ← hsw]
    generalize lo / 2 ^ (64 - s) = L at *
    generalize lo * 2 ^ s % 18446744073709551616 = V at *
    rw [Nat.mul_right_comm hi 18446744073709551616 (2 ^ s)]
    omega
/-- A digit's first guess, as the words have it. -/
theorem digit_parts (U v y1 y0 : Nat) (hU : U < 18446744073709551616) (hy0 : y0 < 4294967296) (hy1 : 2147483648 ≤ y1) (hy2 : y1 < 4294967296) (hv : v < 4294967296) (hu : U < y1 * 4294967296 + y0) :
    ∃ q r : Nat, (U : Int) / (y1 : Int) = (q : Int) ∧ IntKind.u64.wrap ((U : Int) - IntKind.u64.wrap ((q : Int) * (y1 : Int))) = (r : Int) ∧ r < 4294967296 ∧ Guess U v y1 y0 q r := by
  have hg := guess_start U v y1 y0 hy0 hy1 hv hu
  have hm := Nat.mod_lt U (show 0 < y1 by omega)
  have hd := Nat.div_add_mod U y1
  have hdl := Nat.div_le_self U y1
  refine ⟨U / y1, U % y1, ?_, ?_, by omega, hg⟩
  · rw [← Int.natCast_ediv]
  · have e : ((U / y1 : Nat) : Int) * (y1 : Int) = ((y1 * (U / y1) : Nat) : Int) := by rw [Int.natCast_mul, Int.mul_comm]
    rw [e, wrap_small _ (by omega), IntKind.wrap_u64]
    generalize y1 * (U / y1) = p at *
    generalize U % y1 = r at *
    omega
theorem mul_words (q y : Nat) (h : q * y < 18446744073709551616) : IntKind.u64.wrap ((q : Int) * (y : Int)) = ((q * y : Nat) : Int) := by rw [← Int.natCast_mul, wrap_small _ h]
theorem digit_rest (U v Y q : Nat) (hY : 0 < Y) (hYl : Y < 18446744073709551616) (h : q = (U * 4294967296 + v) / Y) :
    IntKind.u64.wrap (IntKind.u64.wrap (IntKind.u64.wrap ((U : Int) * 4294967296) + (v : Int)) - IntKind.u64.wrap ((q : Int) * (Y : Int))) = (((U * 4294967296 + v) % Y : Nat) : Int) := by
  have hd := Nat.div_add_mod (U * 4294967296 + v) Y
  have hm := Nat.mod_lt (U * 4294967296 + v) hY
  rw [← h] at hd
  rw [← Int.natCast_mul, Nat.mul_comm q Y]
  simp only [IntKind.wrap_u64]
  generalize Y * q = p at *
  generalize (U * 4294967296 + v) % Y = r at *
  omega
theorem div64_end (hi lo y s U v1 v0 Y q1 q0 : Nat) (hy : 0 < y) (hY : Y = y * 2 ^ s) (hU : U * 18446744073709551616 + v1 * 4294967296 + v0 = (hi * 18446744073709551616 + lo) * 2 ^ s) (h1 : q1 = (U * 4294967296 + v1) / Y) (h0 : q0 = ((U * 4294967296 + v1) % Y * 4294967296 + v0) / Y) :
    q1 * 4294967296 + q0 = (hi * 18446744073709551616 + lo) / y ∧ ((U * 4294967296 + v1) % Y * 4294967296 + v0) % Y / 2 ^ s = (hi * 18446744073709551616 + lo) % y := by
  have hp : 0 < 2 ^ s := Nat.pow_pos (by decide)
  have hYp : 0 < Y := by rw [hY]; exact Nat.mul_pos hy hp
  obtain ⟨t1, t2⟩ := two_digits Y U q1 v1 v0 hYp h1
  rw [h0, t1, t2, hU, hY, Nat.mul_div_mul_right _ _ hp, Nat.mul_mod_mul_right]
  exact ⟨rfl, Nat.mul_div_cancel _ hp⟩
theorem two_words_cast (hi lo : Nat) : (((hi * 18446744073709551616 + lo : Nat) : Int)) = (hi : Int) * 18446744073709551616 + (lo : Int) := by
  rw [Int.natCast_add, Int.natCast_mul]; rfl
theorem end_quo (hi lo y q1 q0 : Nat) (h : q1 * 4294967296 + q0 = (hi * 18446744073709551616 + lo) / y) : (q1 : Int) * 4294967296 + (q0 : Int) = ((hi : Int) * 18446744073709551616 + (lo : Int)) / (y : Int) := by
  rw [← two_words_cast, ← Int.natCast_ediv, ← h, Int.natCast_add, Int.natCast_mul]; rfl
theorem end_rem (hi lo y t : Nat) (h : t = (hi * 18446744073709551616 + lo) % y) : (t : Int) = ((hi : Int) * 18446744073709551616 + (lo : Int)) % (y : Int) := by
  rw [← two_words_cast, ← Int.natCast_emod, ← h]
end Go.Proofs.Ytlbaphijmonjoaa

namespace Go.Proofs.Ytlbaphijmonjoaa
open Go.RowKit

theorem shl_set (xs M : List Int) (k sk sh m x c y z : Nat) (hm : m = 64 * sk + sh) (hsh : sh < 64) (hl : sk + k + 1 < M.length) (hc : M.getD (sk + k) 0 = (c : Int)) (hz0 : M.getD (sk + k + 1) 0 = 0) (hx : xs.getD k 0 = (x : Int))
    (hv : val M = low xs k * 2 ^ m) (hy : y = c + x * 2 ^ sh % 18446744073709551616) (hz : z = x / 2 ^ (64 - sh)) :
    val ((M.set (sk + k) (y : Int)).set (sk + k + 1) (z : Int)) = low xs (k + 1) * 2 ^ m := by
  have e1 := val_set M (sk + k) (y : Int) (by omega)
  have e2 := val_set (M.set (sk + k) (y : Int)) (sk + k + 1) (z : Int) (by rw [List.length_set]; omega)
  rw [getD_set M _ _ _ (by omega), if_neg (by omega), hz0] at e2
  rw [hc, Int.toNat_natCast, Int.toNat_natCast] at e1
  rw [Int.toNat_natCast, Int.toNat_zero, Nat.mul_zero, Nat.add_zero, Nat.pow_succ] at e2
  have e3 : low xs (k + 1) = low xs k + 18446744073709551616 ^ k * x := by show low xs k + _ * (xs.getD k 0).toNat = _; rw [hx, Int.toNat_natCast]
  have e4 := shl_word x sh hsh
  rw [← hz] at e4
  have e5 : 18446744073709551616 ^ k * x * 2 ^ m = 18446744073709551616 ^ (sk + k) * (x * 2 ^ sh) := by
    rw [hm, two64, two64, Nat.pow_add 2 (64 * sk) sh, show 64 * (sk + k) = 64 * sk + 64 * k by omega, Nat.pow_add]
    simp only [Nat.mul_assoc, Nat.mul_left_comm, Nat.mul_comm]
  rw [e3, Nat.add_mul, ← hv, e5, ← e4, e2]
  have e7 : 18446744073709551616 ^ (sk + k) * y = 18446744073709551616 ^ (sk + k) * c + 18446744073709551616 ^ (sk + k) * (x * 2 ^ sh % 18446744073709551616) := by rw [hy, Nat.mul_add]
  rw [e7] at e1
  have e6 : 18446744073709551616 ^ (sk + k) * (x * 2 ^ sh % 18446744073709551616 + 18446744073709551616 * z) = 18446744073709551616 ^ (sk + k) * (x * 2 ^ sh % 18446744073709551616) + 18446744073709551616 ^ (sk + k) * 18446744073709551616 * z := by rw [Nat.mul_add, Nat.mul_assoc]
  rw [e6]
  clear e7 e6
  generalize 18446744073709551616 ^ (sk + k) * 18446744073709551616 * z = P at *
  generalize 18446744073709551616 ^ (sk + k) * (x * 2 ^ sh % 18446744073709551616) = Q at *
  generalize 18446744073709551616 ^ (sk + k) * c = R at *
  omega
theorem or_words (c x s : Nat) (hs : s < 64) (hc : c < 2 ^ s) (hc2 : c < 18446744073709551616) : bits BinOp.or IntKind.u64 (c : Int) (IntKind.u64.wrap ((x : Int) * 2 ^ s)) = ((c + x * 2 ^ s % 18446744073709551616 : Nat) : Int) := by
  rw [mul_pow_cast, wrap_nat, u64_or_nat _ _ hc2 (Nat.mod_lt _ (by decide)), (shl_room c x s hs hc).1]
theorem pow_le_word (s : Nat) (h : s < 64) : 2 ^ s ≤ 9223372036854775808 := by
  have := Nat.pow_le_pow_right (show 0 < 2 by decide) (show s ≤ 63 by omega)
  exact this
theorem word_nat2 (xs : List Int) (h : AllU xs) (k : Nat) : ∃ x : Nat, xs.getD k 0 = (x : Int) ∧ x < 18446744073709551616 := by
  have := h.get k
  exact ⟨(xs.getD k 0).toNat, by omega, by omega⟩

end Go.Proofs.Ytlbaphijmonjoaa

namespace Go.Proofs.Ytlbaphijmonjoaa
open Go.RowKit

theorem or_words2 (x y s : Nat) (hs : s < 64) (hx : x < 18446744073709551616) : bits BinOp.or IntKind.u64 ((x : Int) / 2 ^ s) (IntKind.u64.wrap ((y : Int) * 2 ^ (64 - s))) = ((x / 2 ^ s + y * 2 ^ (64 - s) % 18446744073709551616 : Nat) : Int) := by
  have hd : x / 2 ^ s ≤ x := Nat.div_le_self _ _
  rw [mul_pow_cast, div_pow_cast, wrap_nat, u64_or_nat _ _ (by omega) (Nat.mod_lt _ (by decide)), shr_room x y s hs hx]
theorem shr_at (xs : List Int) (hU : AllU xs) (k sk s m x y : Nat) (hm : m = 64 * sk + s) (hs : s < 64) (hx : xs.getD (sk + k) 0 = (x : Int)) (hy : xs.getD (sk + k + 1) 0 = (y : Int)) :
    val xs / 2 ^ m / 18446744073709551616 ^ k % 18446744073709551616 = x / 2 ^ s + y * 2 ^ (64 - s) % 18446744073709551616 := by
  have e1 := val_word xs hU (sk + k)
  have e2 := val_word xs hU (sk + k + 1)
  rw [hx, Int.toNat_natCast] at e1
  rw [hy, Int.toNat_natCast] at e2
  have e3 := word_shr (val xs) (sk + k) s hs
  rw [e1, e2] at e3
  rw [← e3, Nat.div_div_eq_div_mul]
  congr 2
  rw [hm, two64, two64, ← Nat.pow_add, ← Nat.pow_add]; congr 1; omega
theorem shr_word_lt (x y s : Nat) (hs : s < 64) (hx : x < 18446744073709551616) : x / 2 ^ s + y * 2 ^ (64 - s) % 18446744073709551616 < 18446744073709551616 := by
  by_cases h0 : s = 0
  · subst h0
    rw [show 64 - 0 = 64 from rfl, show (2 : Nat) ^ 64 = 18446744073709551616 from rfl, Nat.mul_mod_left]; simp; exact hx
  · have h1 : x / 2 ^ s < 2 ^ (64 - s) := by
      rw [Nat.div_lt_iff_lt_mul (Nat.pow_pos (by decide)), ← Nat.pow_add, show 64 - s + s = 64 by omega]; exact hx
    exact (shl_room _ y (64 - s) (by omega) h1).2

end Go.Proofs.Ytlbaphijmonjoaa

namespace Go.Proofs.Ytlbaphijmonjoaa
open Go.RowKit

theorem low_mod (xs : List Int) (h : AllU xs) : ∀ k, low xs k = val xs % 18446744073709551616 ^ k
  | 0 => by rw [Nat.pow_zero, Nat.mod_one]; rfl
  | k + 1 => by
    show low xs k + 18446744073709551616 ^ k * (xs.getD k 0).toNat = _
    rw [low_mod xs h k, ← val_word xs h k, Nat.pow_succ, Nat.mod_mul]
theorem low_zero (xs : List Int) : ∀ k, (∀ j, j < k → xs.getD j 0 = 0) → low xs k = 0
  | 0, _ => rfl
  | k + 1, h => by
    show low xs k + 18446744073709551616 ^ k * (xs.getD k 0).toNat = 0
    rw [low_zero xs k (fun j hj => h j (by omega)), h k (by omega)]; simp
theorem low_pos (xs : List Int) (k j : Nat) (hj : j < k) (h : 0 < xs.getD j 0) : low xs k ≠ 0 := by
  induction k with
  | zero => omega
  | succ k ih =>
    show low xs k + 18446744073709551616 ^ k * (xs.getD k 0).toNat ≠ 0
    by_cases e : j = k
    · subst e
      have : 0 < 18446744073709551616 ^ j * (xs.getD j 0).toNat := Nat.mul_pos (Nat.pow_pos (by decide)) (by omega)
      omega
    · have := ih (by omega); omega


/-- A shift to the left, or why there is none. -/
def shlR (u : Nat) (m : Int) : Nat × Int := if greatB u = true then (0, 3) else if m < 0 then (0, 2) else if u = 0 then (0, 0) else if 65536 - (blen u : Int) < m then (0, 3) else (u * 2 ^ m.toNat, 0)
theorem shlR_great {u : Nat} {m : Int} (h : greatB u = true) : shlR u m = (0, 3) := by unfold shlR; rw [if_pos h]
theorem shlR_neg {u : Nat} {m : Int} (h : greatB u = false) (h2 : m < 0) : shlR u m = (0, 2) := by unfold shlR; rw [if_neg (by rw [h]; decide), if_pos h2]
theorem shlR_zero {u : Nat} {m : Int} (h : greatB u = false) (h2 : 0 ≤ m) (h3 : u = 0) : shlR u m = (0, 0) := by unfold shlR; rw [if_neg (by rw [h]; decide), if_neg (by omega), if_pos h3]
theorem shlR_many {u : Nat} {m : Int} (h : greatB u = false) (h2 : 0 ≤ m) (h3 : u ≠ 0) (h4 : 65536 - (blen u : Int) < m) : shlR u m = (0, 3) := by unfold shlR; rw [if_neg (by rw [h]; decide), if_neg (by omega), if_neg h3, if_pos h4]
theorem shlR_fit {u : Nat} {m : Int} (h : greatB u = false) (h2 : 0 ≤ m) (h3 : u ≠ 0) (h4 : m ≤ 65536 - (blen u : Int)) : shlR u m = (u * 2 ^ m.toNat, 0) := by unfold shlR; rw [if_neg (by rw [h]; decide), if_neg (by omega), if_neg h3, if_neg (by omega)]
theorem blen_mul (u m : Nat) (h : u ≠ 0) : blen (u * 2 ^ m) = m + blen u := by
  have := blen_shift m 0 u (Nat.pow_pos (by decide)) h
  rw [Nat.zero_add, Nat.mul_comm] at this; exact this


/-- A shift to the right, or why there is none. -/
def shrE (u : Nat) (m : Int) : Int := if greatB u = true then 3 else if m < 0 then 2 else 0
def shrQ (u : Nat) (m : Int) : Nat := if greatB u = true then 0 else if m < 0 then 0 else u / 2 ^ m.toNat
def shrL (u : Nat) (m : Int) : Bool := if greatB u = true then false else if m < 0 then false else lostB u m.toNat
theorem shr_great {u : Nat} {m : Int} (h : greatB u = true) : shrE u m = 3 ∧ shrQ u m = 0 ∧ shrL u m = false := by simp [shrE, shrQ, shrL, h]
theorem shr_neg {u : Nat} {m : Int} (h : greatB u = false) (h2 : m < 0) : shrE u m = 2 ∧ shrQ u m = 0 ∧ shrL u m = false := by simp [shrE, shrQ, shrL, h, h2]
theorem shr_fit {u j : Nat} (h : greatB u = false) : shrE u (j : Int) = 0 ∧ shrQ u (j : Int) = u / 2 ^ j ∧ shrL u (j : Int) = lostB u j := by
  have : ¬ (j : Int) < 0 := by omega
  simp [shrE, shrQ, shrL, h, this]

end Go.Proofs.Ytlbaphijmonjoaa

namespace Go.Proofs.Ytlbaphijmonjoaa
open Go.RowKit

/-- The one form of a number: its sign, its odd amount, its exponent. -/
def formD (s : Bool) (m : Nat) (e : Int) : Bool × Nat × Int := if m = 0 then (false, 0, 0) else (s, m / 2 ^ tz m, e + (tz m : Int))
theorem form_zero (s : Bool) (e : Int) : formD s 0 e = (false, 0, 0) := by unfold formD; rw [if_pos rfl]
theorem form_pos (s : Bool) {m : Nat} (h : m ≠ 0) (e : Int) : formD s m e = (s, m / 2 ^ tz m, e + (tz m : Int)) := by unfold formD; rw [if_neg h]
theorem odd_part {m : Nat} (h : m ≠ 0) : m / 2 ^ tz m % 2 = 1 ∧ m / 2 ^ tz m * 2 ^ tz m = m := by
  obtain ⟨k, hk⟩ := ntz_spec m h
  have hp : 0 < 2 ^ tz m := Nat.pow_pos (by decide)
  have e1 : m / 2 ^ tz m = 2 * k + 1 := by
    conv => lhs; rw [hk]
    rw [tz_of, Nat.mul_div_cancel_left _ hp]
  rw [e1]
  refine ⟨by omega, ?_⟩
  rw [Nat.mul_comm]; exact hk.symm
theorem form_odd (s : Bool) {m : Nat} (h : m % 2 = 1) (e : Int) : formD s m e = (s, m, e) := by
  rw [form_pos s (by omega), tz_odd m h, Nat.pow_zero, Nat.div_one]; simp
theorem form_shift (s : Bool) (m k : Nat) (e : Int) : formD s (m * 2 ^ k) e = formD s m (e + (k : Int)) := by
  by_cases h : m = 0
  · rw [h, Nat.zero_mul, form_zero, form_zero]
  · have hp : 0 < 2 ^ k := Nat.pow_pos (by decide)
    have h2 : m * 2 ^ k ≠ 0 := Nat.mul_ne_zero h (by omega)
    have ht : tz (m * 2 ^ k) = k + tz m := by rw [Nat.mul_comm]; exact tz_shift k m h
    rw [form_pos s h2, form_pos s h, ht, Nat.pow_add, Nat.mul_comm m, Nat.mul_div_mul_left _ _ hp]
    congr 2
    omega
/-- A number in its one form. -/
def CanD (p : Bool × Nat × Int) : Prop := p = (false, 0, 0) ∨ p.2.1 % 2 = 1
theorem form_can (s : Bool) (m : Nat) (e : Int) : CanD (formD s m e) := by
  by_cases h : m = 0
  · rw [h, form_zero]; exact Or.inl rfl
  · rw [form_pos s h]; exact Or.inr (odd_part h).1
theorem form_of_can {p : Bool × Nat × Int} (h : CanD p) : formD p.1 p.2.1 p.2.2 = p := by
  rcases h with h | h
  · rw [h]; exact form_zero _ _
  · exact form_odd _ h _
theorem form_amount_le (s : Bool) (m : Nat) (e : Int) : (formD s m e).2.1 ≤ m := by
  by_cases h : m = 0
  · rw [h, form_zero]; exact Nat.le_refl _
  · rw [form_pos s h]; exact Nat.div_le_self _ _
/-- Exponents in their bounds; numbers that are right. -/
def inB (e : Int) : Bool := decide (-32768 ≤ e ∧ e ≤ 32768)
def rightB (m : Nat) (e : Int) : Bool := !greatB m && inB e
theorem inB_yes {e : Int} (h : inB e = true) : -32768 ≤ e ∧ e ≤ 32768 := by unfold inB at h; simpa using h
theorem rightB_yes {m : Nat} {e : Int} (h : rightB m e = true) : greatB m = false ∧ -32768 ≤ e ∧ e ≤ 32768 := by
  unfold rightB at h
  rw [Bool.and_eq_true] at h
  exact ⟨by simpa using h.1, inB_yes h.2⟩
theorem tz_le_blen (m : Nat) : tz m ≤ blen m := by
  by_cases h : m = 0
  · rw [h, tz_zero]; exact Nat.zero_le _
  · have h1 := (odd_part h).2
    have h2 := lt_blen m
    have h3 : 1 * 2 ^ tz m ≤ m / 2 ^ tz m * 2 ^ tz m := Nat.mul_le_mul_right _ (by
      have h5 := (odd_part h).1
      rcases Nat.eq_zero_or_pos (m / 2 ^ tz m) with q | q
      · rw [q] at h5; omega
      · exact q)
    rcases Nat.lt_or_ge (blen m) (tz m) with q | q
    · have := Nat.pow_le_pow_right (show 0 < 2 by decide) (Nat.le_of_lt q)
      omega
    · exact q
end Go.Proofs.Ytlbaphijmonjoaa

namespace Go.Proofs.Ytlbaphijmonjoaa
open Go.RowKit

theorem zero_len : (wordsOf 0).length ≤ 1024 := by rw [words_zero]; simp
theorem fitR_len (u : Nat) : (wordsOf (fitR u).1).length ≤ 1024 := by
  unfold fitR
  split
  · exact zero_len
  · rename_i h
    exact (great_len u).1 (by simpa using h)
theorem addR_len (u v : Nat) : (wordsOf (addR u v).1).length ≤ 1024 := by
  unfold addR
  split
  · exact zero_len
  · exact fitR_len _
theorem subR_len (u v : Nat) : (wordsOf (subR u v).1).length ≤ 1024 := by
  unfold subR
  split
  · exact zero_len
  · rename_i h
    rw [Bool.not_eq_true, Bool.or_eq_false_iff] at h
    split
    · exact zero_len
    · exact (great_len _).1 (great_mono (Nat.sub_le _ _) h.1)
theorem shlR_len (u : Nat) (i : Int) : (wordsOf (shlR u i).1).length ≤ 1024 := by
  unfold shlR
  split
  · exact zero_len
  · split
    · exact zero_len
    · split
      · exact zero_len
      · split
        · exact zero_len
        · rename_i h1 h2 h3 h4
          simp only
          obtain ⟨j, rfl⟩ := Int.eq_ofNat_of_zero_le (show 0 ≤ i by omega)
          rw [Int.toNat_natCast, ← great_len, great_not, blen_mul _ _ h3]; omega
theorem shrQ_len (u : Nat) (i : Int) : (wordsOf (shrQ u i)).length ≤ 1024 := by
  unfold shrQ
  split
  · exact zero_len
  · split
    · exact zero_len
    · rename_i h1 h2
      rw [← great_len]
      exact great_mono (Nat.div_le_self _ _) (by simpa using h1)
theorem NatAt.open {B : Nat} {w : World} {v : Value} {r : Nat} (h : NatAt B w v r) (hl : (wordsOf r).length ≤ 1024) : ∃ (ao : Option Addr) (n c : Nat), v = .slice ao n c ∧ Hid (n = (wordsOf r).length) ∧ n ≤ 1024 ∧ OwnW B w ao n c (wordsOf r) := by
  obtain ⟨ao, n, c, rfl, hn, hO⟩ := h
  exact ⟨ao, n, c, rfl, hn, by omega, hO⟩

section
variable {a a' : Option Addr} {len cap len' cap' : Nat} {xs ys : List Int} {w : World}






end
end Go.Proofs.Ytlbaphijmonjoaa

namespace Go.Proofs.Ytlbaphijmonjoaa
open Go.RowKit

/-- A number as a value. -/
abbrev numV (s : Bool) (a : Option Addr) (n c : Nat) (e : Int) (g : Bool) : Value := .agg #[.bool s, .slice a n c, .int .i64 e, .bool g]
/-- A dyadic number as a value. -/
abbrev dyV (s : Bool) (a : Option Addr) (n c : Nat) (e : Int) : Value := .agg #[.bool s, .slice a n c, .int .i64 e]
theorem dcarry_cell {W W' : World} (hb : Below W.heap.size W W') {p : Addr} {v : Value} (h : W.cell? p = some v) : W'.cell? p = some v := (hb.cell (World.block_lt_of_cell? _ _ h)).trans h
theorem dcarry_frozen {W W' : World} (hb : Below W.heap.size W W') {p : Addr} {v : Value} (h : W.cell? p = some v) (hf : W.frozen? p = false) : W'.frozen? p = false := (hb.frozen (World.block_lt_of_cell? _ _ h)).trans hf

theorem OwnW.far {B : Nat} {w : World} {a : Option Addr} {len cap : Nat} {xs : List Int} (h : OwnW B w a len cap xs) (p : Addr) (u : Value) (hp : p.block < B) : OwnW B (w.setCell p u) a len cap xs := by
  refine ⟨⟨h.1.1, h.1.2.1, h.1.2.2.1, fun i hi => ?_⟩, fun b off i e hi => ?_⟩
  · obtain ⟨b, off, e1, e2, e3⟩ := h.1.2.2.2 i hi
    have hB := (h.2 b off i e1 hi).1
    exact ⟨b, off, e1, by simpa using e2, (World.cell?_setCell_other w _ _ _ (fun e => by have := congrArg Addr.block e; simp at this; omega)).trans e3⟩
  · have := h.2 b off i e hi
    exact ⟨this.1, (World.frozen?_setCell w _ _ _).trans this.2⟩
theorem zero_dy {w W' : World} {r : Nat} (hb : Below (w.alloc (.cells #[.bool false, .slice none 0 0, .int .i64 0] 30)).heap.size (w.alloc (.cells #[.bool false, .slice none 0 0, .int .i64 0] 30)) W') (hr : r = w.heap.size) :
    W'.cell? ⟨r, 0, none⟩ = some (.bool false) ∧ W'.cell? ⟨r, 1, none⟩ = some (.slice none 0 0) ∧ W'.cell? ⟨r, 2, none⟩ = some (.int .i64 0) ∧ W'.frozen? ⟨r, 0, none⟩ = false ∧ W'.frozen? ⟨r, 1, none⟩ = false ∧ W'.frozen? ⟨r, 2, none⟩ = false := by
  subst hr
  exact ⟨dcarry_cell hb (by go_simp), dcarry_cell hb (by go_simp), dcarry_cell hb (by go_simp), dcarry_frozen hb (v := .bool false) (by go_simp) (by go_simp), dcarry_frozen hb (v := .slice none 0 0) (by go_simp) (by go_simp), dcarry_frozen hb (v := .int .i64 0) (by go_simp) (by go_simp)⟩


section
variable (s : Bool) (a : Option Addr) (n c : Nat) (e : Int) (g : Bool) (w : World)





end
end Go.Proofs.Ytlbaphijmonjoaa

namespace Go.Proofs.Ytlbaphijmonjoaa
open Go.RowKit

/-- What canonical makes: of a number that is too great, nothing. -/
def canG (s : Bool) (u : Nat) (e : Int) : Bool × Nat × Int := if greatB u = true then (false, 0, 0) else formD s u e
theorem canG_yes {s : Bool} {u : Nat} {e : Int} (h : greatB u = true) : canG s u e = (false, 0, 0) := by unfold canG; rw [if_pos h]
theorem canG_no {s : Bool} {u : Nat} {e : Int} (h : greatB u = false) : canG s u e = formD s u e := by unfold canG; rw [if_neg (by rw [h]; decide)]







theorem form_words_ne {m n : Nat} (h : m ≠ 0) (hn : n = (wordsOf (m / 2 ^ tz m)).length) : n ≠ 0 := fun q => by
  have h1 := (words_nil _).1 (List.length_eq_zero_iff.1 (by rw [← hn]; exact q))
  have h2 := (odd_part h).1
  rw [h1] at h2; omega
end Go.Proofs.Ytlbaphijmonjoaa

namespace Go.Proofs.Ytlbaphijmonjoaa
open Go.RowKit

theorem isW_news {w : World} {ad : Addr} {n c : Nat} {xs : List Int} (h : IsW w (some ad) n c xs) : ∀ j u, (xs.map (Value.int .u64))[j]? = some u → w.cell? (ad.add j) = some u := by
  intro j u hj
  have hjl : j < n := by
    have := (List.getElem?_eq_some_iff.1 hj).1
    simp at this; have := h.1; omega
  obtain ⟨b2, off2, e2, _, q2⟩ := h.2.2.2 j hjl
  simp only [Option.some.injEq] at e2
  subst e2
  have hu : u = .int .u64 (xs.getD j 0) := by
    simp only [List.getElem?_map] at hj
    have hj2 : xs[j]? = some (xs.getD j 0) := by
      rw [List.getElem?_eq_getElem (by have := h.1; omega)]; simp [List.getD, show j < xs.length by have := h.1; omega]
    rw [hj2] at hj
    simpa using hj.symm
  rw [hu]
  by_cases h00 : j = 0
  · subst h00; simpa [Addr.add] using q2
  · simpa [Addr.add, h00] using q2

attribute [local go_sem ↓] Go.wp_at_zero Go.wp_at_succ


/-- A number in its one form, in memory: nothing is nil. -/
def NumAt (B : Nat) (w : World) (v : Value) (p : Bool × Nat × Int) : Prop := ∃ (ao : Option Addr) (n c : Nat), v = numV p.1 ao n c p.2.2 false ∧ Hid (n = (wordsOf p.2.1).length) ∧ Hid (n = 0 → ao = none ∧ c = 0) ∧ n ≤ 1024 ∧ OwnW B w ao n c (wordsOf p.2.1)
/-- A dyadic number that is handed out. -/
def DyAt (B : Nat) (w : World) (v : Value) (p : Bool × Nat × Int) : Prop := ∃ (ao : Option Addr) (n c : Nat), v = dyV p.1 ao n c p.2.2 ∧ Hid (n = (wordsOf p.2.1).length) ∧ n ≤ 1024 ∧ OwnW B w ao n c (wordsOf p.2.1)
theorem NumAt.keep {B : Nat} {w w' : World} {v : Value} {p : Bool × Nat × Int} (h : NumAt B w v p) (hb : Below w.heap.size w w') : NumAt B w' v p := by
  obtain ⟨ao, n, c, h1, h2, h3, h4, h5⟩ := h
  exact ⟨ao, n, c, h1, h2, h3, h4, h5.keep hb⟩
theorem NumAt.low {B B' : Nat} {w : World} {v : Value} {p : Bool × Nat × Int} (h : NumAt B w v p) (hB : B' ≤ B) : NumAt B' w v p := by
  obtain ⟨ao, n, c, h1, h2, h3, h4, h5⟩ := h
  exact ⟨ao, n, c, h1, h2, h3, h4, h5.low hB⟩
theorem DyAt.keep {B : Nat} {w w' : World} {v : Value} {p : Bool × Nat × Int} (h : DyAt B w v p) (hb : Below w.heap.size w w') : DyAt B w' v p := by
  obtain ⟨ao, n, c, h1, h2, h4, h5⟩ := h
  exact ⟨ao, n, c, h1, h2, h4, h5.keep hb⟩
theorem DyAt.low {B B' : Nat} {w : World} {v : Value} {p : Bool × Nat × Int} (h : DyAt B w v p) (hB : B' ≤ B) : DyAt B' w v p := by
  obtain ⟨ao, n, c, h1, h2, h4, h5⟩ := h
  exact ⟨ao, n, c, h1, h2, h4, h5.low hB⟩
theorem dyAt_zero (B : Nat) (w : World) : DyAt B w (dyV false none 0 0 0) (false, 0, 0) := ⟨none, 0, 0, rfl, by rw [words_zero]; rfl, by omega, by rw [words_zero]; exact ownW_nil _ _⟩
theorem numAt_zero (B : Nat) (w : World) : NumAt B w (numV false none 0 0 0 false) (false, 0, 0) := ⟨none, 0, 0, rfl, by rw [words_zero]; rfl, fun _ => ⟨rfl, rfl⟩, by omega, by rw [words_zero]; exact ownW_nil _ _⟩

end Go.Proofs.Ytlbaphijmonjoaa

namespace Go.Proofs.Ytlbaphijmonjoaa
open Go.RowKit

theorem rightB_great {m : Nat} {e : Int} (h : greatB m = true) : rightB m e = false := by unfold rightB; rw [h]; rfl
theorem rightB_fit {m : Nat} {e : Int} (h : greatB m = false) : rightB m e = inB e := by unfold rightB; rw [h]; rfl

end Go.Proofs.Ytlbaphijmonjoaa

namespace Go.Proofs.Ytlbaphijmonjoaa
open Go.RowKit

/-- What is handed out of what was reckoned, if it has room. -/
def roomB (p : Bool × Nat × Int) : Bool := !greatB p.2.1 && inB p.2.2
/-- What a way makes: a number, or one that is too great to be told. -/
def NumR (B : Nat) (w : World) (v : Value) (p : Bool × Nat × Int) : Prop := (greatB p.2.1 = false ∧ NumAt B w v p) ∨ (greatB p.2.1 = true ∧ v = numV false none 0 0 0 true)


/-- The error and the number that are handed out of what was reckoned. -/
def roomE (p : Bool × Nat × Int) : Int := if roomB p = true then 0 else 3
def roomP (p : Bool × Nat × Int) : Bool × Nat × Int := if roomB p = true then p else (false, 0, 0)
theorem room_yes {p : Bool × Nat × Int} (hg : greatB p.2.1 = false) (hI : inB p.2.2 = true) : roomE p = 0 ∧ roomP p = p := by
  have h : roomB p = true := by unfold roomB; rw [hg, hI]; rfl
  unfold roomE roomP; rw [if_pos h, if_pos h]; exact ⟨rfl, rfl⟩
theorem room_no {p : Bool × Nat × Int} (hg : greatB p.2.1 = true ∨ inB p.2.2 = false) : roomE p = 3 ∧ roomP p = (false, 0, 0) := by
  have h : ¬ roomB p = true := by
    unfold roomB
    rcases hg with q | q <;> rw [q] <;> simp
  unfold roomE roomP; rw [if_neg h, if_neg h]; exact ⟨rfl, rfl⟩











end Go.Proofs.Ytlbaphijmonjoaa

namespace Go.Proofs.Ytlbaphijmonjoaa
open Go.RowKit








end Go.Proofs.Ytlbaphijmonjoaa
