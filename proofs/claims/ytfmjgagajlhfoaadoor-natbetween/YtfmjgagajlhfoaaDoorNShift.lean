/- Plain facts on lists of words: one word set; shifts. -/
import Derived.Test.YtfmjgagajlhfoaaDoorNBits
namespace Go.Proofs.YtfmjgagajlhfoaaDoor
open Go.RowKit

theorem val_set : ∀ (xs : List Int) (i : Nat) (v : Int), i < xs.length → val (xs.set i v) + 18446744073709551616 ^ i * (xs.getD i 0).toNat = val xs + 18446744073709551616 ^ i * v.toNat
  | [], i, v, h => by simp at h
  | x :: xs, 0, v, _ => by
    show v.toNat + 18446744073709551616 * val xs + 18446744073709551616 ^ 0 * x.toNat = x.toNat + 18446744073709551616 * val xs + 18446744073709551616 ^ 0 * v.toNat
    omega
  | x :: xs, i + 1, v, h => by
    have ih := val_set xs i v (by simpa using h)
    show x.toNat + 18446744073709551616 * val (xs.set i v) + 18446744073709551616 ^ (i + 1) * (xs.getD i 0).toNat = x.toNat + 18446744073709551616 * val xs + 18446744073709551616 ^ (i + 1) * v.toNat
    rw [Nat.pow_succ, Nat.mul_comm (18446744073709551616 ^ i) 18446744073709551616, Nat.mul_assoc, Nat.mul_assoc]
    omega
theorem AllU.set {xs : List Int} (h : AllU xs) {i : Nat} {v : Int} (h0 : 0 ≤ v) (h1 : v ≤ 18446744073709551615) : AllU (xs.set i v) := by
  intro y hy
  rcases List.mem_or_eq_of_mem_set hy with h2 | h2
  · exact h y h2
  · subst h2; exact ⟨h0, h1⟩
theorem getD_set (xs : List Int) (i j : Nat) (v : Int) (hi : i < xs.length) : (xs.set i v).getD j 0 = if i = j then v else xs.getD j 0 := by
  simp only [List.getD, List.getElem?_set]
  by_cases h : i = j
  · subst h; simp [hi]
  · simp [h]
def zeros (n : Nat) : List Int := List.replicate n 0
theorem val_zeros (n : Nat) : val (zeros n) = 0 := by
  induction n with
  | zero => rfl
  | succ n ih => show (0 : Int).toNat + 18446744073709551616 * val (zeros n) = 0; rw [ih]; rfl
theorem zeros_U (n : Nat) : AllU (zeros n) := fun x hx => by
  have := List.eq_of_mem_replicate hx; subst this; decide
theorem zeros_get (n i : Nat) : (zeros n).getD i 0 = 0 := by
  unfold zeros
  simp only [List.getD, List.getElem?_replicate]
  split <;> rfl
theorem zeros_len (n : Nat) : (zeros n).length = n := List.length_replicate ..
/-- A list is told by its words. -/
theorem val_of_words (M : List Int) (N : Nat) (hN : N < 18446744073709551616 ^ M.length) (h : ∀ i, i < M.length → (M.getD i 0).toNat = N / 18446744073709551616 ^ i % 18446744073709551616) : val M = N := by
  have key : ∀ k, k ≤ M.length → val (M.take k) = N % 18446744073709551616 ^ k := fun k => by
    induction k with
    | zero => intro _; simp [val]; omega
    | succ k ih =>
      intro hk
      rw [val_take_succ M k (by omega), ih (by omega), h k (by omega), Nat.pow_succ, Nat.mod_mul]
  have := key M.length (Nat.le_refl _)
  rw [List.take_length, Nat.mod_eq_of_lt hN] at this
  exact this
theorem shr_word (u P Q : Nat) (hP : 0 < P) (hW : P * Q = 18446744073709551616) : u / P % 18446744073709551616 = u % 18446744073709551616 / P + (u / 18446744073709551616 % 18446744073709551616 * Q) % 18446744073709551616 := by
  obtain ⟨a, ha⟩ : ∃ a, a = u % 18446744073709551616 := ⟨_, rfl⟩
  obtain ⟨b, hb⟩ : ∃ b, b = u / 18446744073709551616 % 18446744073709551616 := ⟨_, rfl⟩
  obtain ⟨c, hc⟩ : ∃ c, c = u / 18446744073709551616 / 18446744073709551616 := ⟨_, rfl⟩
  have hu : u = a + P * (Q * (b + 18446744073709551616 * c)) := by rw [← Nat.mul_assoc, hW]; omega
  have ha1 : a / P < Q := by rw [Nat.div_lt_iff_lt_mul hP, Nat.mul_comm, hW]; omega
  rw [← ha, ← hb]
  have h1 : u / P = a / P + Q * (b + 18446744073709551616 * c) := by rw [hu, Nat.add_mul_div_left _ _ hP]
  obtain ⟨d, hd⟩ : ∃ d, d = b * Q % 18446744073709551616 := ⟨_, rfl⟩
  obtain ⟨f, hf⟩ : ∃ f, d = Q * f := by
    have : Q ∣ d := by
      rw [hd, ← hW]
      exact (Nat.dvd_mod_iff (Nat.dvd_mul_left Q P)).2 (Nat.dvd_mul_left Q b)
    exact this
  have hdl : d < 18446744073709551616 := by rw [hd]; exact Nat.mod_lt _ (by decide)
  have hfP : f < P := by
    rw [hf, ← hW, Nat.mul_comm P Q] at hdl
    exact Nat.lt_of_mul_lt_mul_left hdl
  have h2 : Q * f + Q ≤ 18446744073709551616 := by
    rw [← hW, Nat.mul_comm P Q]
    have := Nat.mul_le_mul_left Q (show f + 1 ≤ P from hfP)
    rw [Nat.mul_add, Nat.mul_one] at this; exact this
  rw [h1, Nat.mul_add, ← Nat.add_assoc, ← hd, Nat.mul_left_comm Q 18446744073709551616 c, Nat.add_mul_mod_self_left, Nat.mul_comm Q b, Nat.add_mod, ← hd, Nat.mod_eq_of_lt (a := a / P) (by omega)]
  exact Nat.mod_eq_of_lt (by omega)
theorem word_shr (v k s : Nat) (hs : s < 64) : v / (18446744073709551616 ^ k * 2 ^ s) % 18446744073709551616 = v / 18446744073709551616 ^ k % 18446744073709551616 / 2 ^ s + (v / 18446744073709551616 ^ (k + 1) % 18446744073709551616 * 2 ^ (64 - s)) % 18446744073709551616 := by
  rw [← Nat.div_div_eq_div_mul, Nat.pow_succ, ← Nat.div_div_eq_div_mul]
  exact shr_word _ _ _ (Nat.pow_pos (by decide)) (by rw [← Nat.pow_add, show s + (64 - s) = 64 by omega])
/-- One word shifted to the left: the word and what goes on to the next. -/
theorem shl_word (x s : Nat) (hs : s < 64) : x * 2 ^ s % 18446744073709551616 + 18446744073709551616 * (x / 2 ^ (64 - s)) = x * 2 ^ s := by
  have h1 : x * 2 ^ s / 18446744073709551616 = x / 2 ^ (64 - s) := by
    rw [show (18446744073709551616 : Nat) = 2 ^ (64 - s) * 2 ^ s by rw [← Nat.pow_add, show 64 - s + s = 64 by omega], Nat.mul_div_mul_right _ _ (Nat.pow_pos (by decide))]
  have := Nat.mod_add_div (x * 2 ^ s) 18446744073709551616
  rw [h1] at this; exact this
/-- What came up from the word below has room beside the word's shifted bits. -/
theorem shl_room (c x s : Nat) (hs : s < 64) (hc : c < 2 ^ s) : (c ||| (x * 2 ^ s % 18446744073709551616)) = c + x * 2 ^ s % 18446744073709551616 ∧ c + x * 2 ^ s % 18446744073709551616 < 18446744073709551616 := by
  have e : x * 2 ^ s % 18446744073709551616 = 2 ^ s * (x % 2 ^ (64 - s)) := by
    rw [show (18446744073709551616 : Nat) = 2 ^ s * 2 ^ (64 - s) by rw [← Nat.pow_add, show s + (64 - s) = 64 by omega], Nat.mul_comm x, Nat.mul_mod_mul_left]
  rw [e]
  constructor
  · rw [Nat.or_comm, Nat.add_comm]
    exact (Nat.two_pow_add_eq_or_of_lt hc _).symm
  · have h1 : x % 2 ^ (64 - s) + 1 ≤ 2 ^ (64 - s) := Nat.mod_lt _ (Nat.pow_pos (by decide))
    have h2 := Nat.mul_le_mul_left (2 ^ s) h1
    rw [← Nat.pow_add, show s + (64 - s) = 64 by omega, Nat.mul_add, Nat.mul_one] at h2
    omega
theorem shr_room (x y s : Nat) (hs : s < 64) (hx : x < 18446744073709551616) : (x / 2 ^ s ||| (y * 2 ^ (64 - s) % 18446744073709551616)) = x / 2 ^ s + y * 2 ^ (64 - s) % 18446744073709551616 := by
  by_cases h0 : s = 0
  · subst h0; simp
  · have h1 : x / 2 ^ s < 2 ^ (64 - s) := by
      rw [Nat.div_lt_iff_lt_mul (Nat.pow_pos (by decide)), ← Nat.pow_add, show 64 - s + s = 64 by omega]; exact hx
    exact (shl_room _ y (64 - s) (by omega) h1).1
theorem shr_fits (v n len : Nat) (hv : v < 18446744073709551616 ^ len) (hn : n / 64 < len) : v / 2 ^ n < 18446744073709551616 ^ (len - n / 64) := by
  rw [two64] at *
  rw [Nat.div_lt_iff_lt_mul (Nat.pow_pos (by decide)), ← Nat.pow_add]
  exact Nat.lt_of_lt_of_le hv (Nat.pow_le_pow_right (by decide) (by omega))
theorem shr_zero (v n len : Nat) (hv : v < 18446744073709551616 ^ len) (hn : len ≤ n / 64) : v / 2 ^ n = 0 := by
  rw [two64] at hv
  exact Nat.div_eq_of_lt (Nat.lt_of_lt_of_le hv (Nat.pow_le_pow_right (by decide) (by omega)))
theorem pow_n (n : Nat) : 2 ^ n = 18446744073709551616 ^ (n / 64) * 2 ^ (n % 64) := by
  rw [two64, ← Nat.pow_add]; congr 1; omega
/-- Whether bits are lost by a shift to the right. -/
def lostB (v n : Nat) : Bool := decide (v % 2 ^ n ≠ 0)
theorem lost_split (v n : Nat) : v % 2 ^ n = 0 ↔ v % 18446744073709551616 ^ (n / 64) = 0 ∧ (v / 18446744073709551616 ^ (n / 64) % 18446744073709551616) * 2 ^ (64 - n % 64) % 18446744073709551616 = 0 := by
  have hs : n % 64 < 64 := Nat.mod_lt _ (by decide)
  rw [pow_n n]
  generalize hA : 18446744073709551616 ^ (n / 64) = A
  have hApos : 0 < A := by rw [← hA]; exact Nat.pow_pos (by decide)
  have e1 : v / A % 18446744073709551616 * 2 ^ (64 - n % 64) % 18446744073709551616 = 2 ^ (64 - n % 64) * (v / A % 2 ^ (n % 64)) := by
    have hW : (18446744073709551616 : Nat) = 2 ^ (64 - n % 64) * 2 ^ (n % 64) := by rw [← Nat.pow_add, show 64 - n % 64 + n % 64 = 64 by omega]
    conv => lhs; rw [hW]
    rw [Nat.mul_comm _ (2 ^ (64 - n % 64)), Nat.mul_mod_mul_left, Nat.mul_comm (2 ^ (64 - n % 64)) (2 ^ (n % 64)), Nat.mod_mul_right_mod]
  rw [e1, Nat.mod_mul, Nat.mul_eq_zero, Nat.add_eq_zero_iff, Nat.mul_eq_zero]
  have := Nat.pow_pos (n := 64 - n % 64) (show 0 < 2 by decide)
  constructor
  · rintro ⟨h1, h2⟩; exact ⟨h1, by rcases h2 with h | h; omega; exact Or.inr h⟩
  · rintro ⟨h1, h2⟩; exact ⟨h1, by rcases h2 with h | h; omega; exact Or.inr h⟩
end Go.Proofs.YtfmjgagajlhfoaaDoor
