/- Plain facts on dyadic numbers: the one form. -/
import Derived.Test.YticjhheceoeilaaDoorNShs
namespace Go.Proofs.YticjhheceoeilaaDoor
open Go.RowKit

/-- The one form of a number: its sign, its odd amount, its exponent. -/
def formD (s : Bool) (m : Nat) (e : Int) : Bool × Nat × Int := if m = 0 then (false, 0, 0) else (s, m / 2 ^ tz m, e + (tz m : Int))
theorem form_zero (s : Bool) (e : Int) : formD s 0 e = (false, 0, 0) := by unfold formD; rw [if_pos rfl]
theorem form_pos (s : Bool) {m : Nat} (h : m ≠ 0) (e : Int) : formD s m e = (s, m / 2 ^ tz m, e + (tz m : Int)) := by unfold formD; rw [if_neg h]
theorem odd_part {m : Nat} (h : m ≠ 0) : m / 2 ^ tz m % 2 = 1 ∧ m / 2 ^ tz m * 2 ^ tz m = m := by
  obtain ⟨k, hk⟩ := ntz_spec m h
  have hp : 0 < 2 ^ tz m := Nat.pow_pos (by decide)
  have e1 : m / 2 ^ tz m = 2 * k + 1 := by
    conv => lhs; rw [hk]
    rw [tz_of, Nat.mul_div_cancel_left _ hp]
  rw [e1]
  refine ⟨by omega, ?_⟩
  rw [Nat.mul_comm]; exact hk.symm
theorem form_odd (s : Bool) {m : Nat} (h : m % 2 = 1) (e : Int) : formD s m e = (s, m, e) := by
  rw [form_pos s (by omega), tz_odd m h, Nat.pow_zero, Nat.div_one]; simp
theorem form_shift (s : Bool) (m k : Nat) (e : Int) : formD s (m * 2 ^ k) e = formD s m (e + (k : Int)) := by
  by_cases h : m = 0
  · rw [h, Nat.zero_mul, form_zero, form_zero]
  · have hp : 0 < 2 ^ k := Nat.pow_pos (by decide)
    have h2 : m * 2 ^ k ≠ 0 := Nat.mul_ne_zero h (by omega)
    have ht : tz (m * 2 ^ k) = k + tz m := by rw [Nat.mul_comm]; exact tz_shift k m h
    rw [form_pos s h2, form_pos s h, ht, Nat.pow_add, Nat.mul_comm m, Nat.mul_div_mul_left _ _ hp]
    congr 2
    omega
/-- A number in its one form. -/
def CanD (p : Bool × Nat × Int) : Prop := p = (false, 0, 0) ∨ p.2.1 % 2 = 1
theorem form_can (s : Bool) (m : Nat) (e : Int) : CanD (formD s m e) := by
  by_cases h : m = 0
  · rw [h, form_zero]; exact Or.inl rfl
  · rw [form_pos s h]; exact Or.inr (odd_part h).1
theorem form_of_can {p : Bool × Nat × Int} (h : CanD p) : formD p.1 p.2.1 p.2.2 = p := by
  rcases h with h | h
  · rw [h]; exact form_zero _ _
  · exact form_odd _ h _
theorem form_amount_le (s : Bool) (m : Nat) (e : Int) : (formD s m e).2.1 ≤ m := by
  by_cases h : m = 0
  · rw [h, form_zero]; exact Nat.le_refl _
  · rw [form_pos s h]; exact Nat.div_le_self _ _
/-- Exponents in their bounds; numbers that are right. -/
def inB (e : Int) : Bool := decide (-32768 ≤ e ∧ e ≤ 32768)
def rightB (m : Nat) (e : Int) : Bool := !greatB m && inB e
theorem inB_yes {e : Int} (h : inB e = true) : -32768 ≤ e ∧ e ≤ 32768 := by unfold inB at h; simpa using h
theorem rightB_yes {m : Nat} {e : Int} (h : rightB m e = true) : greatB m = false ∧ -32768 ≤ e ∧ e ≤ 32768 := by
  unfold rightB at h
  rw [Bool.and_eq_true] at h
  exact ⟨by simpa using h.1, inB_yes h.2⟩
theorem tz_le_blen (m : Nat) : tz m ≤ blen m := by
  by_cases h : m = 0
  · rw [h, tz_zero]; exact Nat.zero_le _
  · have h1 := (odd_part h).2
    have h2 := lt_blen m
    have h3 : 1 * 2 ^ tz m ≤ m / 2 ^ tz m * 2 ^ tz m := Nat.mul_le_mul_right _ (by
      have h5 := (odd_part h).1
      rcases Nat.eq_zero_or_pos (m / 2 ^ tz m) with q | q
      · rw [q] at h5; omega
      · exact q)
    rcases Nat.lt_or_ge (blen m) (tz m) with q | q
    · have := Nat.pow_le_pow_right (show 0 < 2 by decide) (Nat.le_of_lt q)
      omega
    · exact q
end Go.Proofs.YticjhheceoeilaaDoor
