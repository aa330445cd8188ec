/- Plain facts behind math/bits.Div64: a digit of 32 bits of a quotient by two such digits, guessed and put right. -/
import Derived.Test.YtfmjgagajlhfoaaDoorNShift
namespace Go.Proofs.YtfmjgagajlhfoaaDoor
open Go.RowKit

/-- The guess q with the rest r of the upper part, ahead of a test. -/
def Guess (u32 u1 y1 y0 q r : Nat) : Prop := q * y1 + r = u32 ∧ (u32 * 4294967296 + u1) / (y1 * 4294967296 + y0) ≤ q ∧ q ≤ 4294967297
theorem guess_start (u32 u1 y1 y0 : Nat) (hy0 : y0 < 4294967296) (hy1 : 2147483648 ≤ y1) (hu1 : u1 < 4294967296) (hu : u32 < y1 * 4294967296 + y0) : Guess u32 u1 y1 y0 (u32 / y1) (u32 % y1) := by
  have h1 := Nat.div_add_mod u32 y1
  refine ⟨by rw [Nat.mul_comm]; exact h1, ?_, ?_⟩
  · have h2 : (u32 * 4294967296 + u1) / (y1 * 4294967296 + y0) ≤ (u32 * 4294967296 + u1) / (y1 * 4294967296) := Nat.div_le_div_left (by omega) (by omega)
    rw [Nat.mul_comm y1, ← Nat.div_div_eq_div_mul, show (u32 * 4294967296 + u1) / 4294967296 = u32 by omega] at h2
    rw [Nat.mul_comm y1]; exact h2
  · have h3 : u32 / y1 < 4294967298 := by
      rw [Nat.div_lt_iff_lt_mul (by omega)]; omega
    omega
theorem guess_test (u32 u1 y1 y0 q r : Nat) (h : Guess u32 u1 y1 y0 q r) : q * y0 ≤ 4294967296 * r + u1 ↔ q * (y1 * 4294967296 + y0) ≤ u32 * 4294967296 + u1 := by
  have e : q * (y1 * 4294967296 + y0) = q * y1 * 4294967296 + q * y0 := by rw [Nat.mul_add, Nat.mul_assoc]
  have h1 := h.1
  rw [e]; omega
theorem guess_step (u32 u1 y1 y0 q r : Nat) (hu1 : u1 < 4294967296) (hu : u32 < y1 * 4294967296 + y0) (h : Guess u32 u1 y1 y0 q r) (hc : 4294967296 ≤ q ∨ 4294967296 * r + u1 < q * y0) : 1 ≤ q ∧ Guess u32 u1 y1 y0 (q - 1) (r + y1) := by
  have ht := guess_test u32 u1 y1 y0 q r h
  obtain ⟨h1, h2, h3⟩ := h
  have hq : (u32 * 4294967296 + u1) / (y1 * 4294967296 + y0) < q := by
    rcases hc with hc | hc
    · have : (u32 * 4294967296 + u1) / (y1 * 4294967296 + y0) < 4294967296 := by
        rw [Nat.div_lt_iff_lt_mul (by omega)]; omega
      omega
    · rw [Nat.div_lt_iff_lt_mul (by omega)]
      omega
  have q1 : 1 ≤ q := Nat.lt_of_le_of_lt (Nat.zero_le _) hq
  refine ⟨q1, ?_, Nat.le_sub_one_of_lt hq, Nat.le_trans (Nat.sub_le _ _) h3⟩
  obtain ⟨p, rfl⟩ : ∃ p, q = p + 1 := ⟨q - 1, by clear hq h2; omega⟩
  rw [Nat.add_sub_cancel]; rw [Nat.add_mul, Nat.one_mul] at h1; omega
theorem guess_end (u32 u1 y1 y0 q r : Nat) (hy1 : 2147483648 ≤ y1) (h : Guess u32 u1 y1 y0 q r) (hc : q * y0 ≤ 4294967296 * r + u1) : q = (u32 * 4294967296 + u1) / (y1 * 4294967296 + y0) := by
  have ht := (guess_test u32 u1 y1 y0 q r h).1 hc
  have := (Nat.le_div_iff_mul_le (show 0 < y1 * 4294967296 + y0 by omega)).2 ht
  have := h.2.1
  omega
theorem guess_break (u32 u1 y1 y0 q r : Nat) (hy0 : y0 < 4294967296) (hy1 : 2147483648 ≤ y1) (h : Guess u32 u1 y1 y0 q r) (hq : q ≤ 4294967296) (hr : 4294967296 ≤ r) : q = (u32 * 4294967296 + u1) / (y1 * 4294967296 + y0) := by
  refine guess_end u32 u1 y1 y0 q r hy1 h ?_
  have h1 : q * y0 ≤ 4294967296 * y0 := Nat.mul_le_mul_right _ hq
  omega
/-- Two digits make the quotient of a word and a word by a word whose top bit is set; all of it shifted. -/
theorem two_digits (y u q1 : Nat) (u1 u0 : Nat) (hy : 0 < y) (h1 : q1 = (u * 4294967296 + u1) / y) :
    q1 * 4294967296 + ((u * 4294967296 + u1) % y * 4294967296 + u0) / y = (u * 18446744073709551616 + u1 * 4294967296 + u0) / y ∧ ((u * 4294967296 + u1) % y * 4294967296 + u0) % y = (u * 18446744073709551616 + u1 * 4294967296 + u0) % y := by
  have e := Nat.div_add_mod (u * 4294967296 + u1) y
  rw [← h1] at e
  have e2 : u * 18446744073709551616 + u1 * 4294967296 + u0 = ((u * 4294967296 + u1) % y * 4294967296 + u0) + y * (q1 * 4294967296) := by
    rw [← Nat.mul_assoc]; omega
  rw [e2, Nat.add_mul_div_left _ _ hy, Nat.add_mul_mod_self_left]
  exact ⟨Nat.add_comm _ _, rfl⟩
end Go.Proofs.YtfmjgagajlhfoaaDoor
