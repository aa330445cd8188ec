/- The walks of the document's parts of naturals: a bit, how many bits, how many bits 0 at the end. -/
import Derived.Test.YtfmjgagajlhfoaaDoorNRef
import Derived.Test.YtfmjgagajlhfoaaDoorNShift
namespace Go.Proofs.YtfmjgagajlhfoaaDoor
open Go.RowKit

theorem bit_spell (x : Int) (k : Nat) (h : 0 ≤ x) : ((x / 2 ^ k).tmod 2 == 1) = decide (x.toNat / 2 ^ k % 2 = 1) := by
  obtain ⟨n, rfl⟩ := Int.eq_ofNat_of_zero_le h
  have e : ((n : Int) / 2 ^ k) = ((n / 2 ^ k : Nat) : Int) := by rw [Int.natCast_ediv, Int.natCast_pow]; rfl
  rw [e, Int.tmod_eq_emod_of_nonneg (Int.natCast_nonneg _), Int.toNat_natCast]
  rw [Bool.eq_iff_iff]; simp; omega
theorem blen_half (t : Nat) (h : t ≠ 0) : blen t = blen (t / 2) + 1 := by
  by_cases h1 : t = 1
  · subst h1; decide
  · have e := blen_shift 1 (t % 2) (t / 2) (by omega) (by omega)
    rw [show t % 2 + 2 ^ 1 * (t / 2) = t by omega] at e
    omega
theorem blen_words_le (xs : List Int) (h : AllU xs) : blen (val xs) ≤ 64 * xs.length := by
  have h1 := val_lt xs h
  rw [two64, ← blen_le] at h1
  exact h1
theorem tz_lt (n : Nat) (h : n ≠ 0) : tz n < blen n := by
  obtain ⟨m, hm⟩ := ntz_spec n h
  have h1 : ¬ blen n ≤ tz n := by
    rw [blen_le]
    have : 2 ^ tz n * 1 ≤ 2 ^ tz n * (2 * m + 1) := Nat.mul_le_mul_left _ (by omega)
    omega
  omega