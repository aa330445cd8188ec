/- Plain facts for the walk of math/bits.Div64: what its words come to. -/
import Derived.Test.YtfmjgagajlhfoaaDoorNDiv64
import Derived.Test.YtfmjgagajlhfoaaDoorBits
namespace Go.Proofs.YtfmjgagajlhfoaaDoor
open Go.RowKit

/-- The shift that brings a word's top bit up. -/
theorem lead_shift (y : Nat) (h0 : 0 < y) (hy : y < 18446744073709551616) : ∃ s : Nat, s < 64 ∧ (64 - (Lib.bitLen y : Int)) = (s : Int) ∧ 9223372036854775808 ≤ y * 2 ^ s ∧ y * 2 ^ s < 18446744073709551616 := by
  have hb := blen_lib y (by have : (2 : Nat) ^ 64 = 18446744073709551616 := rfl; omega)
  have h1 : blen y ≤ 64 := by rw [blen_le]; have : (2 : Nat) ^ 64 = 18446744073709551616 := rfl; omega
  have h2 : blen y ≠ 0 := fun e => by have := (blen_nil y).1 e; omega
  refine ⟨64 - blen y, by omega, by rw [hb]; omega, ?_, ?_⟩
  · have := Nat.mul_le_mul_right (2 ^ (64 - blen y)) (blen_ge y (by omega))
    rw [← Nat.pow_add, show blen y - 1 + (64 - blen y) = 63 by omega] at this
    exact this
  · have := Nat.mul_lt_mul_of_pos_right (lt_blen y) (Nat.pow_pos (n := 64 - blen y) (show 0 < 2 by decide))
    rw [← Nat.pow_add, show blen y + (64 - blen y) = 64 by omega] at this
    exact this
theorem mul_pow_cast (x s : Nat) : ((x : Int) * 2 ^ s) = ((x * 2 ^ s : Nat) : Int) := by rw [Int.natCast_mul, Int.natCast_pow]; rfl
theorem div_pow_cast (x s : Nat) : ((x : Int) / 2 ^ s) = ((x / 2 ^ s : Nat) : Int) := by rw [Int.natCast_ediv, Int.natCast_pow]; rfl
theorem wrap_nat (x : Nat) : IntKind.u64.wrap (x : Int) = ((x % 18446744073709551616 : Nat) : Int) := by rw [IntKind.wrap_u64]; omega
theorem wrap_small (x : Nat) (h : x < 18446744073709551616) : IntKind.u64.wrap (x : Int) = (x : Int) := by rw [wrap_nat, Nat.mod_eq_of_lt h]
theorem and_mask (x : Nat) (h : x < 18446744073709551616) : bits .and .u64 (x : Int) 4294967295 = ((x % 4294967296 : Nat) : Int) := by
  have e : x &&& 4294967295 = x % 4294967296 := Nat.and_two_pow_sub_one_eq_mod x 32
  rw [show (4294967295 : Int) = ((4294967295 : Nat) : Int) from rfl, u64_and_nat x 4294967295 h (by decide), e]
theorem div64_parts (hi lo y s : Nat) (hl : lo < 18446744073709551616) (h0 : hi < y) (hs : s < 64) (hY0 : 9223372036854775808 ≤ y * 2 ^ s) (hY1 : y * 2 ^ s < 18446744073709551616) :
    ∃ Y U V y1 y0 v1 v0 : Nat, IntKind.u64.wrap ((y : Int) * 2 ^ s) = (Y : Int) ∧ bits BinOp.or IntKind.u64 (IntKind.u64.wrap ((hi : Int) * 2 ^ s)) ((lo : Int) / 2 ^ (64 - s)) = (U : Int) ∧ IntKind.u64.wrap ((lo : Int) * 2 ^ s) = (V : Int) ∧ (Y : Int) / 4294967296 = (y1 : Int) ∧ bits BinOp.and IntKind.u64 (Y : Int) 4294967295 = (y0 : Int) ∧ (V : Int) / 4294967296 = (v1 : Int) ∧ bits BinOp.and IntKind.u64 (V : Int) 4294967295 = (v0 : Int) ∧
      Y = y1 * 4294967296 + y0 ∧ y0 < 4294967296 ∧ 2147483648 ≤ y1 ∧ y1 < 4294967296 ∧ v1 < 4294967296 ∧ v0 < 4294967296 ∧ U < Y ∧ Y = y * 2 ^ s ∧ U * 18446744073709551616 + v1 * 4294967296 + v0 = (hi * 18446744073709551616 + lo) * 2 ^ s := by
  have hpos : 0 < 2 ^ s := Nat.pow_pos (by decide)
  have hlo : lo / 2 ^ (64 - s) < 2 ^ s := by
    rw [Nat.div_lt_iff_lt_mul (Nat.pow_pos (by decide)), ← Nat.pow_add, show s + (64 - s) = 64 by omega]; exact hl
  have hhi : hi * 2 ^ s + 2 ^ s ≤ y * 2 ^ s := by
    have := Nat.mul_le_mul_right (2 ^ s) (show hi + 1 ≤ y from h0)
    rw [Nat.add_mul, Nat.one_mul] at this; exact this
  have hor : (hi * 2 ^ s ||| lo / 2 ^ (64 - s)) = hi * 2 ^ s + lo / 2 ^ (64 - s) := by
    rw [Nat.mul_comm]; exact (Nat.two_pow_add_eq_or_of_lt hlo hi).symm
  have hsw := shl_word lo s hs
  have hV : lo * 2 ^ s % 18446744073709551616 < 18446744073709551616 := Nat.mod_lt _ (by decide)
  refine ⟨y * 2 ^ s, hi * 2 ^ s + lo / 2 ^ (64 - s), lo * 2 ^ s % 18446744073709551616, y * 2 ^ s / 4294967296, y * 2 ^ s % 4294967296, lo * 2 ^ s % 18446744073709551616 / 4294967296, lo * 2 ^ s % 18446744073709551616 % 4294967296, ?_, ?_, ?_, ?_, ?_, ?_, ?_, ?_, ?_, ?_, ?_, ?_, ?_, ?_, rfl, ?_⟩
  · rw [mul_pow_cast, wrap_small _ hY1]
  · rw [mul_pow_cast, wrap_small _ (by omega), div_pow_cast, u64_or_nat _ _ (by omega) (by omega), hor]
  · rw [mul_pow_cast, wrap_nat]
  · omega
  · exact and_mask _ hY1
  · omega
  · exact and_mask _ hV
  · omega
  · exact Nat.mod_lt _ (by decide)
  · omega
  · omega
  · omega
  · exact Nat.mod_lt _ (by decide)
  · omega
  · rw [Nat.add_mul, Nat.add_mul, ← hsw]
    generalize lo / 2 ^ (64 - s) = L at *
    generalize lo * 2 ^ s % 18446744073709551616 = V at *
    rw [Nat.mul_right_comm hi 18446744073709551616 (2 ^ s)]
    omega
/-- A digit's first guess, as the words have it. -/
theorem digit_parts (U v y1 y0 : Nat) (hU : U < 18446744073709551616) (hy0 : y0 < 4294967296) (hy1 : 2147483648 ≤ y1) (hy2 : y1 < 4294967296) (hv : v < 4294967296) (hu : U < y1 * 4294967296 + y0) :
    ∃ q r : Nat, (U : Int) / (y1 : Int) = (q : Int) ∧ IntKind.u64.wrap ((U : Int) - IntKind.u64.wrap ((q : Int) * (y1 : Int))) = (r : Int) ∧ r < 4294967296 ∧ Guess U v y1 y0 q r := by
  have hg := guess_start U v y1 y0 hy0 hy1 hv hu
  have hm := Nat.mod_lt U (show 0 < y1 by omega)
  have hd := Nat.div_add_mod U y1
  have hdl := Nat.div_le_self U y1
  refine ⟨U / y1, U % y1, ?_, ?_, by omega, hg⟩
  · rw [← Int.natCast_ediv]
  · have e : ((U / y1 : Nat) : Int) * (y1 : Int) = ((y1 * (U / y1) : Nat) : Int) := by rw [Int.natCast_mul, Int.mul_comm]
    rw [e, wrap_small _ (by omega), IntKind.wrap_u64]
    generalize y1 * (U / y1) = p at *
    generalize U % y1 = r at *
    omega
theorem mul_words (q y : Nat) (h : q * y < 18446744073709551616) : IntKind.u64.wrap ((q : Int) * (y : Int)) = ((q * y : Nat) : Int) := by rw [← Int.natCast_mul, wrap_small _ h]
theorem digit_rest (U v Y q : Nat) (hY : 0 < Y) (hYl : Y < 18446744073709551616) (h : q = (U * 4294967296 + v) / Y) :
    IntKind.u64.wrap (IntKind.u64.wrap (IntKind.u64.wrap ((U : Int) * 4294967296) + (v : Int)) - IntKind.u64.wrap ((q : Int) * (Y : Int))) = (((U * 4294967296 + v) % Y : Nat) : Int) := by
  have hd := Nat.div_add_mod (U * 4294967296 + v) Y
  have hm := Nat.mod_lt (U * 4294967296 + v) hY
  rw [← h] at hd
  rw [← Int.natCast_mul, Nat.mul_comm q Y]
  simp only [IntKind.wrap_u64]
  generalize Y * q = p at *
  generalize (U * 4294967296 + v) % Y = r at *
  omega
theorem div64_end (hi lo y s U v1 v0 Y q1 q0 : Nat) (hy : 0 < y) (hY : Y = y * 2 ^ s) (hU : U * 18446744073709551616 + v1 * 4294967296 + v0 = (hi * 18446744073709551616 + lo) * 2 ^ s) (h1 : q1 = (U * 4294967296 + v1) / Y) (h0 : q0 = ((U * 4294967296 + v1) % Y * 4294967296 + v0) / Y) :
    q1 * 4294967296 + q0 = (hi * 18446744073709551616 + lo) / y ∧ ((U * 4294967296 + v1) % Y * 4294967296 + v0) % Y / 2 ^ s = (hi * 18446744073709551616 + lo) % y := by
  have hp : 0 < 2 ^ s := Nat.pow_pos (by decide)
  have hYp : 0 < Y := by rw [hY]; exact Nat.mul_pos hy hp
  obtain ⟨t1, t2⟩ := two_digits Y U q1 v1 v0 hYp h1
  rw [h0, t1, t2, hU, hY, Nat.mul_div_mul_right _ _ hp, Nat.mul_mod_mul_right]
  exact ⟨rfl, Nat.mul_div_cancel _ hp⟩
theorem two_words_cast (hi lo : Nat) : (((hi * 18446744073709551616 + lo : Nat) : Int)) = (hi : Int) * 18446744073709551616 + (lo : Int) := by
  rw [Int.natCast_add, Int.natCast_mul]; rfl
theorem end_quo (hi lo y q1 q0 : Nat) (h : q1 * 4294967296 + q0 = (hi * 18446744073709551616 + lo) / y) : (q1 : Int) * 4294967296 + (q0 : Int) = ((hi : Int) * 18446744073709551616 + (lo : Int)) / (y : Int) := by
  rw [← two_words_cast, ← Int.natCast_ediv, ← h, Int.natCast_add, Int.natCast_mul]; rfl
theorem end_rem (hi lo y t : Nat) (h : t = (hi * 18446744073709551616 + lo) % y) : (t : Int) = ((hi : Int) * 18446744073709551616 + (lo : Int)) % (y : Int) := by
  rw [← two_words_cast, ← Int.natCast_emod, ← h]
end Go.Proofs.YtfmjgagajlhfoaaDoor
