/- Plain facts on naturals: how many words, how many bits, the lowest bit; what is answered where a number is too great. -/
import Derived.Test.YtfmjgagajlhfoaaDoorNPure
import Derived.Lib.TrailingZeros
import Derived.Lib.ItoaNum
namespace Go.Proofs.YtfmjgagajlhfoaaDoor
open Go.RowKit

theorem words_len (k : Nat) : ∀ n : Nat, (wordsOf n).length ≤ k ↔ n < 18446744073709551616 ^ k := by
  induction k with
  | zero => intro n; rw [Nat.le_zero, List.length_eq_zero_iff, words_nil]; simp
  | succ k ih =>
    intro n
    by_cases e : n = 0
    · subst e; rw [words_zero]; simp; exact Nat.pow_pos (by decide)
    · rw [words_pos n e, List.length_cons, Nat.succ_le_succ_iff, ih, Nat.pow_succ, Nat.div_lt_iff_lt_mul (by decide)]
theorem two64 (k : Nat) : (18446744073709551616 : Nat) ^ k = 2 ^ (64 * k) := by
  rw [Nat.pow_mul]
/-- How many bits a natural has. -/
def blen (n : Nat) : Nat := if n = 0 then 0 else Nat.log2 n + 1
theorem blen_le (n k : Nat) : blen n ≤ k ↔ n < 2 ^ k := by
  unfold blen
  by_cases e : n = 0
  · subst e; simp; exact Nat.pow_pos (by decide)
  · rw [if_neg e, Nat.succ_le_iff, Nat.log2_lt e]
theorem lt_blen (n : Nat) : n < 2 ^ blen n := (blen_le n _).1 (Nat.le_refl _)
theorem blen_zero : blen 0 = 0 := rfl
theorem blen_nil (n : Nat) : blen n = 0 ↔ n = 0 := by
  unfold blen; by_cases e : n = 0 <;> simp [e]
theorem blen_ge (n : Nat) (h : n ≠ 0) : 2 ^ (blen n - 1) ≤ n := by
  have h1 : ¬ blen n ≤ blen n - 1 := by have := (blen_nil n).1; omega
  rw [blen_le] at h1; omega
theorem blen_shift (k lo t : Nat) (hl : lo < 2 ^ k) (ht : t ≠ 0) : blen (lo + 2 ^ k * t) = k + blen t := by
  have key : ∀ m, lo + 2 ^ k * t < 2 ^ m ↔ k + blen t ≤ m := fun m => by
    by_cases hm : m < k
    · have h1 : 2 ^ m < 2 ^ k := Nat.pow_lt_pow_right (by decide) hm
      have h2 : 2 ^ k * 1 ≤ 2 ^ k * t := Nat.mul_le_mul_left _ (by omega)
      constructor <;> intro h <;> omega
    · obtain ⟨j, rfl⟩ : ∃ j, m = k + j := ⟨m - k, by omega⟩
      rw [Nat.add_le_add_iff_left, blen_le, Nat.pow_add]
      constructor
      · intro h
        have : 2 ^ k * t < 2 ^ k * 2 ^ j := by omega
        exact Nat.lt_of_mul_lt_mul_left this
      · intro h
        have h2 : 2 ^ k * (t + 1) ≤ 2 ^ k * 2 ^ j := Nat.mul_le_mul_left _ h
        rw [Nat.mul_add, Nat.mul_one] at h2; omega
  have h1 := (key (k + blen t)).2 (Nat.le_refl _)
  have h2 := (key (blen (lo + 2 ^ k * t))).1 (lt_blen _)
  have h3 := (blen_le _ _).2 h1
  omega
theorem blen_mono {a b : Nat} (h : a ≤ b) : blen a ≤ blen b := (blen_le _ _).2 (Nat.lt_of_le_of_lt h (lt_blen b))
theorem blen_lib (x : Nat) (h : x < 2 ^ 64) : Lib.bitLen x = blen x := by
  by_cases e : x = 0
  · subst e; rfl
  · obtain ⟨h1, h2, h3⟩ := Lib.bitLenAux_bounds 64 x h e
    have h4 := (blen_le x _).2 h3
    have h5 := lt_blen x
    show Lib.bitLenAux 64 x = _
    by_cases h6 : blen x < Lib.bitLenAux 64 x
    · have : 2 ^ blen x ≤ 2 ^ (Lib.bitLenAux 64 x - 1) := Nat.pow_le_pow_right (by decide) (by omega)
      omega
    · omega
theorem words_len2 (k n : Nat) : (wordsOf n).length ≤ k ↔ blen n ≤ 64 * k := by rw [words_len, two64, blen_le]
/-- Too great: more words than the limit. -/
def greatB (n : Nat) : Bool := decide (1024 < (wordsOf n).length)
theorem great_iff (n : Nat) : greatB n = true ↔ 65536 < blen n := by
  have h1 := words_len2 1024 n
  unfold greatB
  rw [decide_eq_true_iff]
  omega
theorem great_not (n : Nat) : greatB n = false ↔ blen n ≤ 65536 := by
  have := great_iff n
  cases h : greatB n <;> simp [h] at this ⊢ <;> omega
theorem great_len (n : Nat) : greatB n = false ↔ (wordsOf n).length ≤ 1024 := by
  unfold greatB; rw [decide_eq_false_iff_not]; omega
theorem great_mono {a b : Nat} (h : a ≤ b) (hb : greatB b = false) : greatB a = false := by
  rw [great_not] at *; have := blen_mono h; omega
theorem great_zero : greatB 0 = false := by rw [great_not]; decide
/-- A number, or ErrMany. -/
def fitR (n : Nat) : Nat × Int := if greatB n = true then (0, 3) else (n, 0)
theorem fitR_yes {n : Nat} (h : greatB n = true) : fitR n = (0, 3) := by unfold fitR; rw [if_pos h]
theorem fitR_no {n : Nat} (h : greatB n = false) : fitR n = (n, 0) := by unfold fitR; rw [if_neg (by rw [h]; decide)]
/-- How many bits 0 a natural ends with. -/
def tz (n : Nat) : Nat := if n = 0 then 0 else if n % 2 = 1 then 0 else tz (n / 2) + 1
termination_by n
decreasing_by omega
theorem tz_zero : tz 0 = 0 := by rw [tz]; simp
theorem tz_odd (n : Nat) (h : n % 2 = 1) : tz n = 0 := by rw [tz]; simp [h]
theorem tz_even (n : Nat) (h0 : n ≠ 0) (h : n % 2 = 0) : tz n = tz (n / 2) + 1 := by rw [tz]; simp [h0, h]
theorem tz_of (k m : Nat) : tz (2 ^ k * (2 * m + 1)) = k := by
  induction k with
  | zero => rw [tz_odd]; omega
  | succ k ih =>
    have e : 2 ^ (k + 1) * (2 * m + 1) = 2 * (2 ^ k * (2 * m + 1)) := by rw [Nat.pow_succ, Nat.mul_comm (2 ^ k) 2, Nat.mul_assoc]
    have hp : 0 < 2 ^ k * (2 * m + 1) := Nat.mul_pos (Nat.pow_pos (by decide)) (by omega)
    rw [e, tz_even _ (by omega) (by omega), show 2 * (2 ^ k * (2 * m + 1)) / 2 = 2 ^ k * (2 * m + 1) by omega, ih]
theorem ntz_spec (n : Nat) (h : n ≠ 0) : ∃ m, n = 2 ^ tz n * (2 * m + 1) := by
  induction n using Nat.strongRecOn with
  | ind n ih =>
    by_cases ho : n % 2 = 1
    · exact ⟨n / 2, by rw [tz_odd n ho]; omega⟩
    · obtain ⟨m, hm⟩ := ih (n / 2) (by omega) (by omega)
      refine ⟨m, ?_⟩
      rw [tz_even n h (by omega), Nat.pow_succ, Nat.mul_assoc, Nat.mul_comm 2, ← Nat.mul_assoc, ← hm]; omega
theorem tz_shift (k t : Nat) (ht : t ≠ 0) : tz (2 ^ k * t) = k + tz t := by
  obtain ⟨m, hm⟩ := ntz_spec t ht
  have : 2 ^ k * t = 2 ^ (k + tz t) * (2 * m + 1) := by rw [Nat.pow_add, Nat.mul_assoc, ← hm]
  rw [this, tz_of]
theorem tz_low (k lo t : Nat) (h0 : lo ≠ 0) (hl : lo < 2 ^ k) : tz (lo + 2 ^ k * t) = tz lo := by
  obtain ⟨m, hm⟩ := ntz_spec lo h0
  have hk : tz lo < k := by
    by_cases h : tz lo < k
    · exact h
    · have h1 : 2 ^ k ≤ 2 ^ tz lo := Nat.pow_le_pow_right (by decide) (by omega)
      have h2 : 2 ^ tz lo * 1 ≤ 2 ^ tz lo * (2 * m + 1) := Nat.mul_le_mul_left _ (by omega)
      omega
  obtain ⟨j, hj⟩ : ∃ j, k = tz lo + 1 + j := ⟨k - tz lo - 1, by omega⟩
  have e : lo + 2 ^ k * t = 2 ^ tz lo * (2 * (m + 2 ^ j * t) + 1) := by
    have e2 : 2 ^ k * t = 2 ^ tz lo * (2 * (2 ^ j * t)) := by rw [hj, Nat.pow_add, Nat.pow_add]; simp only [Nat.mul_assoc, Nat.pow_one]
    have e3 : 2 * (m + 2 ^ j * t) + 1 = (2 * m + 1) + 2 * (2 ^ j * t) := by omega
    rw [e3, Nat.mul_add, ← hm, e2]
  rw [e, tz_of]
theorem tz_lib (x : Nat) (h0 : x ≠ 0) (h : x < 2 ^ 64) : Lib.ctz 64 x = tz x := by
  obtain ⟨m, hm, _⟩ := Lib.ctzFrom_spec 64 x (by omega) h
  unfold Lib.ctz
  rw [if_neg h0]
  have := tz_of (Lib.ctzFrom 64 x) m
  rw [← hm] at this
  exact this.symm
theorem tz_bits (n k : Nat) (h1 : ∀ j, j < k → n.testBit j = false) (h2 : n.testBit k = true) : tz n = k := by
  have hm : n % 2 ^ k = 0 := by
    apply Nat.eq_of_testBit_eq
    intro i
    rw [Nat.testBit_mod_two_pow, Nat.zero_testBit]
    by_cases h : i < k
    · rw [h1 i h]; simp
    · simp [h]
  rw [Nat.testBit_eq_decide_div_mod_eq, decide_eq_true_iff] at h2
  have e : n = 2 ^ k * (n / 2 ^ k) := by have := Nat.div_add_mod n (2 ^ k); omega
  have e2 : n / 2 ^ k = 2 * (n / 2 ^ k / 2) + 1 := by omega
  have := tz_of k (n / 2 ^ k / 2)
  rw [← e2, ← e] at this
  exact this
theorem tz_bit (n : Nat) (h : n ≠ 0) : n.testBit (tz n) = true ∧ (∀ j, j < tz n → n.testBit j = false) := by
  obtain ⟨m, hm⟩ := ntz_spec n h
  constructor
  · rw [Nat.testBit_eq_decide_div_mod_eq, decide_eq_true_iff]
    conv => lhs; rw [hm]
    rw [tz_of, Nat.mul_div_cancel_left _ (Nat.pow_pos (by decide))]; omega
  · intro j hj
    rw [Nat.testBit_eq_decide_div_mod_eq, decide_eq_false_iff_not]
    obtain ⟨i, hi⟩ : ∃ i, tz n = j + (i + 1) := ⟨tz n - j - 1, by omega⟩
    rw [hi, Nat.pow_add, Nat.mul_assoc] at hm
    rw [hm, Nat.mul_div_cancel_left _ (Nat.pow_pos (by decide)), Nat.pow_succ]
    have : 2 ^ i * 2 * (2 * m + 1) = 2 * (2 ^ i * (2 * m + 1)) := by rw [Nat.mul_comm (2 ^ i) 2, Nat.mul_assoc]
    omega
/-- A word of a list, out of its value. -/
theorem val_word : ∀ (xs : List Int) (_ : AllU xs) (k : Nat), val xs / 18446744073709551616 ^ k % 18446744073709551616 = (xs.getD k 0).toNat
  | [], _, k => by simp [val]
  | x :: xs, h, 0 => by
    have := h x List.mem_cons_self
    show (x.toNat + 18446744073709551616 * val xs) / 18446744073709551616 ^ 0 % 18446744073709551616 = x.toNat
    rw [Nat.pow_zero, Nat.div_one]; omega
  | x :: xs, h, k + 1 => by
    have h1 := h x List.mem_cons_self
    have ih := val_word xs h.tail k
    show (x.toNat + 18446744073709551616 * val xs) / 18446744073709551616 ^ (k + 1) % 18446744073709551616 = (xs.getD k 0).toNat
    rw [Nat.pow_succ, Nat.mul_comm (18446744073709551616 ^ k) 18446744073709551616, ← Nat.div_div_eq_div_mul, show (x.toNat + 18446744073709551616 * val xs) / 18446744073709551616 = val xs by omega, ih]
theorem val_bit (xs : List Int) (h : AllU xs) (i : Nat) : (val xs).testBit i = decide ((xs.getD (i / 64) 0).toNat / 2 ^ (i % 64) % 2 = 1) := by
  rw [← val_word xs h, two64]
  have e : i = i % 64 + 64 * (i / 64) := by omega
  have e1 : (val xs / 2 ^ (64 * (i / 64)) % 18446744073709551616).testBit (i % 64) = (val xs).testBit i := by
    rw [show (18446744073709551616 : Nat) = 2 ^ 64 from rfl, Nat.testBit_mod_two_pow, Nat.testBit_div_two_pow, ← e]
    simp [Nat.mod_lt]
  rw [← e1, Nat.testBit_eq_decide_div_mod_eq]
theorem words_get (n k : Nat) : ((wordsOf n).getD k 0).toNat = n / 18446744073709551616 ^ k % 18446744073709551616 := by
  rw [← val_word _ (words_U n), val_words]
theorem words_last (n : Nat) (h : n ≠ 0) : (wordsOf n).getD ((wordsOf n).length - 1) 0 ≠ 0 := by
  intro e
  have hl : 0 < (wordsOf n).length := by
    rcases Nat.eq_zero_or_pos (wordsOf n).length with h0 | h0
    · exact absurd ((words_nil n).1 (List.length_eq_zero_iff.1 h0)) h
    · exact h0
  have h1 := val_take_succ (wordsOf n) ((wordsOf n).length - 1) (by omega)
  rw [Nat.sub_add_cancel hl, List.take_length, e, val_words] at h1
  have h2 := val_lt _ ((words_U n).take ((wordsOf n).length - 1))
  rw [List.length_take, Nat.min_eq_left (by omega)] at h2
  have h3 := (words_len ((wordsOf n).length - 1) n).2 (by simp at h1; omega)
  omega
theorem words_val (xs : List Int) (h : AllU xs) (hl : xs = [] ∨ xs.getD (xs.length - 1) 0 ≠ 0) : wordsOf (val xs) = xs := by
  have hs : xs.length = sizeL xs := size_spec xs xs.length (Nat.le_refl _) (fun i h1 h2 => by omega) (by
    rcases hl with h0 | h0
    · left; rw [h0]; rfl
    · right; exact h0)
  have := norm_eq xs h
  rw [← hs, List.take_length] at this
  exact this.symm
theorem blen_top (n : Nat) (h : n ≠ 0) : blen n = 64 * ((wordsOf n).length - 1) + blen ((wordsOf n).getD ((wordsOf n).length - 1) 0).toNat := by
  have hl : 0 < (wordsOf n).length := by
    rcases Nat.eq_zero_or_pos (wordsOf n).length with h0 | h0
    · exact absurd ((words_nil n).1 (List.length_eq_zero_iff.1 h0)) h
    · exact h0
  have ht := words_last n h
  have hg := (words_U n).get ((wordsOf n).length - 1)
  have h1 := val_take_succ (wordsOf n) ((wordsOf n).length - 1) (by omega)
  rw [Nat.sub_add_cancel hl, List.take_length, val_words] at h1
  have h2 := val_lt _ ((words_U n).take ((wordsOf n).length - 1))
  rw [List.length_take, Nat.min_eq_left (by omega)] at h2
  rw [two64] at h1 h2
  have := blen_shift (64 * ((wordsOf n).length - 1)) _ ((wordsOf n).getD ((wordsOf n).length - 1) 0).toNat h2 (by omega)
  rw [← h1] at this
  exact this
end Go.Proofs.YtfmjgagajlhfoaaDoor
