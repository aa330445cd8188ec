/- Rounding turns no order about, and goes by the number alone (pure). -/
import Derived.Test.YtognliaoonkmiaaGreatDoorRNX
namespace Go.Proofs.YtognliaoonkmiaaGreatDoor
open Go.RowKit

/-- n in units of 2^d, to the nearest, of two the even one -/
def hv (n d : Nat) : Nat := n / 2 ^ d + (decide (2 ^ d < 2 * (n % 2 ^ d)) || ((2 ^ d == 2 * (n % 2 ^ d)) && (n / 2 ^ d % 2 == 1))).toNat
theorem hv_exact (c k : Nat) : hv (c * 2 ^ k) k = c := by
  unfold hv
  have hp := Nat.two_pow_pos k
  rw [Nat.mul_mod_left, Nat.mul_div_cancel _ hp, decide_eq_false (by omega), beq_eq_false_iff_ne.2 (by omega)]
  rfl
theorem hv_scale (m d z : Nat) : hv (m * 2 ^ z) (d + z) = hv m d := by
  unfold hv
  have hz := Nat.two_pow_pos z
  rw [Nat.pow_add, Nat.mul_div_mul_right _ _ hz, Nat.mul_mod_mul_right]
  generalize m % 2 ^ d = r
  generalize 2 ^ d = g
  have e : 2 * (r * 2 ^ z) = 2 * r * 2 ^ z := by rw [Nat.mul_assoc]
  rw [e]
  have a1 : decide (g * 2 ^ z < 2 * r * 2 ^ z) = decide (g < 2 * r) := by
    rw [Bool.eq_iff_iff, decide_eq_true_eq, decide_eq_true_eq]
    exact Nat.mul_lt_mul_right hz
  have a2 : (g * 2 ^ z == 2 * r * 2 ^ z) = (g == 2 * r) := by
    rw [Bool.eq_iff_iff, beq_iff_eq, beq_iff_eq]
    exact ⟨fun h => Nat.eq_of_mul_eq_mul_right hz h, fun h => by rw [h]⟩
  rw [a1, a2]
theorem rd_hv (m n : Nat) : rd2 m ((n : Int) + 1) = hv m (n + 1) := by
  unfold rd2 up2 half2 over2 fl2 hv
  rw [if_neg (by omega), if_neg (by omega), if_neg (by omega), show ((n : Int) + 1).toNat = n + 1 by omega, show n + 1 - 1 = n by omega, bit_div]
  congr 2
  unfold lostB
  rw [mod_succ m n]
  have h2 : m / 2 ^ n % 2 = 0 ∨ m / 2 ^ n % 2 = 1 := by omega
  have hp := Nat.two_pow_pos n
  have hl := Nat.mod_lt m hp
  rw [Nat.pow_succ]
  generalize m / (2 ^ n * 2) = q
  generalize m % 2 ^ n = r at *
  generalize 2 ^ n = g at *
  rcases h2 with h | h
  · rw [h, Nat.mul_zero, Nat.add_zero, decide_eq_false (show ¬ 0 = 1 by decide), Bool.false_and, decide_eq_false (by omega), beq_eq_false_iff_ne.2 (by omega)]
    rfl
  · rw [h, Nat.mul_one, decide_eq_true rfl, Bool.true_and]
    by_cases z : r = 0
    · rw [z, decide_eq_false (show ¬ ((0 : Nat) ≠ 0) by decide), decide_eq_false (show ¬ g * 2 < 2 * (0 + g) by omega), beq_iff_eq.2 (show g * 2 = 2 * (0 + g) by omega), Bool.false_or, Bool.false_or, Bool.true_and]
      rw [Bool.eq_iff_iff, decide_eq_true_eq, beq_iff_eq]
    · rw [decide_eq_true (show r ≠ 0 from z), decide_eq_true (show g * 2 < 2 * (r + g) by omega)]
      rfl
/-- rounding goes by the number in units of 2^-K -/
theorem rd_T (m : Nat) (e l : Int) (K : Nat) (he : -(K : Int) ≤ e) (hl : -(K : Int) ≤ l) : rd2 m (l - e) = hv (m * 2 ^ (e + K).toNat) (l + K).toNat := by
  by_cases h : l - e ≤ 0
  · have e1 : rd2 m (l - e) = m * 2 ^ (e - l).toNat := by
      unfold rd2 up2 half2 fl2
      rw [if_pos h, if_pos h, show (-(l - e)).toNat = (e - l).toNat by omega]
      simp
    rw [e1, show (e + K).toNat = (e - l).toNat + (l + K).toNat by omega, Nat.pow_add, ← Nat.mul_assoc, hv_exact]
  · obtain ⟨n, hn⟩ : ∃ n : Nat, l - e = (n : Int) + 1 := ⟨(l - e - 1).toNat, by omega⟩
    rw [hn, rd_hv, show (l + K).toNat = (n + 1) + (e + K).toNat by omega, hv_scale]
theorem ls_T (m : Nat) (e l : Int) (K : Nat) (he : -(K : Int) ≤ e) (hl : -(K : Int) ≤ l) : ls2 m (l - e) = lostB (m * 2 ^ (e + K).toNat) (l + K).toNat := by
  unfold ls2 lostB
  by_cases h : l - e ≤ 0
  · rw [if_pos h, show (e + K).toNat = (e - l).toNat + (l + K).toNat by omega, Nat.pow_add, ← Nat.mul_assoc, Nat.mul_mod_left]
    simp
  · rw [if_neg h, show (l + K).toNat = (l - e).toNat + (e + K).toNat by omega, Nat.pow_add, Nat.mul_mod_mul_right, decide_eq_decide]
    have := Nat.two_pow_pos (e + K).toNat
    constructor
    · exact fun q z => q (by rcases Nat.mul_eq_zero.1 z with k | k; exact k; omega)
    · exact fun q z => q (by rw [z, Nat.zero_mul])
theorem tp_T (m : Nat) (e : Int) (K : Nat) (he : -(K : Int) ≤ e) (h0 : m ≠ 0) : tpI m e = (blen (m * 2 ^ (e + K).toNat) : Int) - K - 1 := by
  have := blen_mul m (e + K).toNat h0
  unfold tpI
  omega
end Go.Proofs.YtognliaoonkmiaaGreatDoor
