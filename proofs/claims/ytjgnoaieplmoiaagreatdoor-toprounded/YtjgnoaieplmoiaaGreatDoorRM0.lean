/- Rounding turns no order about, and goes by the number alone (pure). -/
import Derived.Test.YtjgnoaieplmoiaaGreatDoorRNX
namespace Go.Proofs.YtjgnoaieplmoiaaGreatDoor
open Go.RowKit

/-- n in units of 2^d, to the nearest, of two the even one -/
def hv (n d : Nat) : Nat := n / 2 ^ d + (decide (2 ^ d < 2 * (n % 2 ^ d)) || ((2 ^ d == 2 * (n % 2 ^ d)) && (n / 2 ^ d % 2 == 1))).toNat
theorem hv_le (n d : Nat) : hv n d ≤ n / 2 ^ d + 1 := by
  unfold hv
  have := Bool.toNat_le (decide (2 ^ d < 2 * (n % 2 ^ d)) || ((2 ^ d == 2 * (n % 2 ^ d)) && (n / 2 ^ d % 2 == 1)))
  omega
theorem hv_ge (n d : Nat) : n / 2 ^ d ≤ hv n d := Nat.le_add_right _ _
theorem hv_mono (n n' d : Nat) (h : n ≤ n') : hv n d ≤ hv n' d := by
  have h1 := hv_le n d
  have h2 := hv_ge n' d
  have h3 : n / 2 ^ d ≤ n' / 2 ^ d := Nat.div_le_div_right h
  by_cases h4 : n / 2 ^ d < n' / 2 ^ d
  · omega
  · have h5 : n / 2 ^ d = n' / 2 ^ d := by omega
    have e1 := Nat.div_add_mod n (2 ^ d)
    have e2 := Nat.div_add_mod n' (2 ^ d)
    unfold hv
    rw [h5] at e1 ⊢
    generalize 2 ^ d * (n' / 2 ^ d) = q at *
    generalize n' / 2 ^ d = c at *
    generalize n % 2 ^ d = r at *
    generalize n' % 2 ^ d = r' at *
    generalize 2 ^ d = g at *
    have hr : r ≤ r' := by omega
    refine Nat.add_le_add_left ?_ _
    by_cases p1 : g < 2 * r
    · rw [decide_eq_true p1, decide_eq_true (show g < 2 * r' by omega)]
      exact Nat.le_refl _
    · rw [decide_eq_false p1]
      by_cases p2 : r = r'
      · rw [p2, decide_eq_false (show ¬ g < 2 * r' by omega)]
        exact Nat.le_refl _
      · by_cases p3 : g = 2 * r
        · rw [decide_eq_true (show g < 2 * r' by omega)]
          exact Bool.toNat_le _
        · rw [beq_eq_false_iff_ne.2 p3]
          exact Nat.zero_le _
theorem hv_exact (c k : Nat) : hv (c * 2 ^ k) k = c := by
  unfold hv
  have hp := Nat.two_pow_pos k
  rw [Nat.mul_mod_left, Nat.mul_div_cancel _ hp, decide_eq_false (by omega), beq_eq_false_iff_ne.2 (by omega)]
  rfl
theorem hv_scale (m d z : Nat) : hv (m * 2 ^ z) (d + z) = hv m d := by
  unfold hv
  have hz := Nat.two_pow_pos z
  rw [Nat.pow_add, Nat.mul_div_mul_right _ _ hz, Nat.mul_mod_mul_right]
  generalize m % 2 ^ d = r
  generalize 2 ^ d = g
  have e : 2 * (r * 2 ^ z) = 2 * r * 2 ^ z := by rw [Nat.mul_assoc]
  rw [e]
  have a1 : decide (g * 2 ^ z < 2 * r * 2 ^ z) = decide (g < 2 * r) := by
    rw [Bool.eq_iff_iff, decide_eq_true_eq, decide_eq_true_eq]
    exact Nat.mul_lt_mul_right hz
  have a2 : (g * 2 ^ z == 2 * r * 2 ^ z) = (g == 2 * r) := by
    rw [Bool.eq_iff_iff, beq_iff_eq, beq_iff_eq]
    exact ⟨fun h => Nat.eq_of_mul_eq_mul_right hz h, fun h => by rw [h]⟩
  rw [a1, a2]
/-- of two: the nearest, half a unit off at most -/
theorem hv_half (n d : Nat) : 2 * (hv n d * 2 ^ d) ≤ 2 * n + 2 ^ d ∧ 2 * n ≤ 2 * (hv n d * 2 ^ d) + 2 ^ d := by
  unfold hv
  have hp := Nat.two_pow_pos d
  have e := Nat.div_add_mod n (2 ^ d)
  have hl := Nat.mod_lt n hp
  generalize n % 2 ^ d = r at *
  generalize n / 2 ^ d = q at *
  generalize 2 ^ d = g at *
  have e2 : q * g = g * q := Nat.mul_comm _ _
  cases hb : (decide (g < 2 * r) || ((g == 2 * r) && (q % 2 == 1))) with
  | true =>
    simp only [Bool.or_eq_true, decide_eq_true_eq, Bool.and_eq_true, beq_iff_eq] at hb
    rw [Bool.toNat_true, Nat.add_mul, e2]
    omega
  | false =>
    simp only [Bool.or_eq_false_iff, decide_eq_false_iff_not] at hb
    rw [Bool.toNat_false, Nat.add_zero, e2]
    omega
theorem rd_hv (m n : Nat) : rd2 m ((n : Int) + 1) = hv m (n + 1) := by
  unfold rd2 up2 half2 over2 fl2 hv
  rw [if_neg (by omega), if_neg (by omega), if_neg (by omega), show ((n : Int) + 1).toNat = n + 1 by omega, show n + 1 - 1 = n by omega, bit_div]
  congr 2
  unfold lostB
  rw [mod_succ m n]
  have h2 : m / 2 ^ n % 2 = 0 ∨ m / 2 ^ n % 2 = 1 := by omega
  have hp := Nat.two_pow_pos n
  have hl := Nat.mod_lt m hp
  rw [Nat.pow_succ]
  generalize m / (2 ^ n * 2) = q
  generalize m % 2 ^ n = r at *
  generalize 2 ^ n = g at *
  rcases h2 with h | h
  · rw [h, Nat.mul_zero, Nat.add_zero, decide_eq_false (show ¬ 0 = 1 by decide), Bool.false_and, decide_eq_false (by omega), beq_eq_false_iff_ne.2 (by omega)]
    rfl
  · rw [h, Nat.mul_one, decide_eq_true rfl, Bool.true_and]
    by_cases z : r = 0
    · rw [z, decide_eq_false (show ¬ ((0 : Nat) ≠ 0) by decide), decide_eq_false (show ¬ g * 2 < 2 * (0 + g) by omega), beq_iff_eq.2 (show g * 2 = 2 * (0 + g) by omega), Bool.false_or, Bool.false_or, Bool.true_and]
      rw [Bool.eq_iff_iff, decide_eq_true_eq, beq_iff_eq]
    · rw [decide_eq_true (show r ≠ 0 from z), decide_eq_true (show g * 2 < 2 * (r + g) by omega)]
      rfl
/-- rounding goes by the number in units of 2^-K -/
theorem rd_T (m : Nat) (e l : Int) (K : Nat) (he : -(K : Int) ≤ e) (hl : -(K : Int) ≤ l) : rd2 m (l - e) = hv (m * 2 ^ (e + K).toNat) (l + K).toNat := by
  by_cases h : l - e ≤ 0
  · have e1 : rd2 m (l - e) = m * 2 ^ (e - l).toNat := by
      unfold rd2 up2 half2 fl2
      rw [if_pos h, if_pos h, show (-(l - e)).toNat = (e - l).toNat by omega]
      simp
    rw [e1, show (e + K).toNat = (e - l).toNat + (l + K).toNat by omega, Nat.pow_add, ← Nat.mul_assoc, hv_exact]
  · obtain ⟨n, hn⟩ : ∃ n : Nat, l - e = (n : Int) + 1 := ⟨(l - e - 1).toNat, by omega⟩
    rw [hn, rd_hv, show (l + K).toNat = (n + 1) + (e + K).toNat by omega, hv_scale]
theorem ls_T (m : Nat) (e l : Int) (K : Nat) (he : -(K : Int) ≤ e) (hl : -(K : Int) ≤ l) : ls2 m (l - e) = lostB (m * 2 ^ (e + K).toNat) (l + K).toNat := by
  unfold ls2 lostB
  by_cases h : l - e ≤ 0
  · rw [if_pos h, show (e + K).toNat = (e - l).toNat + (l + K).toNat by omega, Nat.pow_add, ← Nat.mul_assoc, Nat.mul_mod_left]
    simp
  · rw [if_neg h, show (l + K).toNat = (l - e).toNat + (e + K).toNat by omega, Nat.pow_add, Nat.mul_mod_mul_right, decide_eq_decide]
    have := Nat.two_pow_pos (e + K).toNat
    constructor
    · exact fun q z => q (by rcases Nat.mul_eq_zero.1 z with k | k; exact k; omega)
    · exact fun q z => q (by rw [z, Nat.zero_mul])
theorem tp_T (m : Nat) (e : Int) (K : Nat) (he : -(K : Int) ≤ e) (h0 : m ≠ 0) : tpI m e = (blen (m * 2 ^ (e + K).toNat) : Int) - K - 1 := by
  have := blen_mul m (e + K).toNat h0
  unfold tpI
  omega
/-- a number in units of 2^-K -/
theorem near_mono (m : Nat) (e : Int) (m' : Nat) (e' : Int) (K : Nat) (hK : 32768 ≤ K) (he : -32768 ≤ e) (he' : -32768 ≤ e') (h : m * 2 ^ (e + K).toNat ≤ m' * 2 ^ (e' + K).toNat) : nearW m e ≤ nearW m' e' := by
  have b1 := nearW_bd m e
  have b2 := nearW_bd m' e'
  by_cases h0 : m = 0
  · have : nearW m e = 0 := by unfold nearW; rw [if_pos h0]
    omega
  · have hp1 := Nat.two_pow_pos (e + K).toNat
    have h0' : m' ≠ 0 := fun z => by
      rw [z, Nat.zero_mul] at h
      have := Nat.mul_pos (show 0 < m by omega) hp1
      omega
    have t1 := tp_T m e K (by omega) h0
    have t2 := tp_T m' e' K (by omega) h0'
    have hb := blen_mono h
    by_cases c1 : 1024 ≤ tpI m' e'
    · have : nearW m' e' = 9218868437227405312 := by unfold nearW; rw [if_neg h0', if_pos c1]
      omega
    · have l1 := ls_low m e
      have l2 := ls_low m' e'
      have r1 := rd_T m e (lsI m e) K (by omega) (by omega)
      have r2 := rd_T m' e' (lsI m' e') K (by omega) (by omega)
      have n1 : nearW m e = (lsI m e + 1074) * 4503599627370496 + (rd2 m (lsI m e - e) : Int) := by unfold nearW; rw [if_neg h0, if_neg (by omega)]
      have n2 : nearW m' e' = (lsI m' e' + 1074) * 4503599627370496 + (rd2 m' (lsI m' e' - e') : Int) := by unfold nearW; rw [if_neg h0', if_neg c1]
      have hll : lsI m e ≤ lsI m' e' := by unfold lsI; split <;> split <;> omega
      by_cases c2 : lsI m e = lsI m' e'
      · have := hv_mono _ _ (lsI m e + K).toNat h
        rw [← r1] at this
        rw [c2, ← r2, ← c2] at this
        rw [n1, n2, ← c2]
        rw [← c2] at r2
        omega
      · have hge := M_ge m' e' h0' (by omega)
        have hlt := M_lt m e
        have q1 : rd2 m (lsI m e - e) ≤ 9007199254740992 := by
          unfold rd2
          have : (up2 m (lsI m e - e)).toNat ≤ 1 := Bool.toNat_le _
          omega
        have q2 : fl2 m' (lsI m' e' - e') ≤ rd2 m' (lsI m' e' - e') := Nat.le_add_right _ _
        omega
/-- two forms of one number are rounded alike -/
theorem near_same (m : Nat) (e : Int) (m' : Nat) (e' : Int) (K : Nat) (hK : 32768 ≤ K) (he : -32768 ≤ e) (he' : -32768 ≤ e') (h : m * 2 ^ (e + K).toNat = m' * 2 ^ (e' + K).toNat) : nearW m e = nearW m' e' ∧ exactB m e = exactB m' e' ∧ (m = 0 ↔ m' = 0) := by
  have a1 := near_mono m e m' e' K hK he he' (by omega)
  have a2 := near_mono m' e' m e K hK he' he (by omega)
  have hp1 := Nat.two_pow_pos (e + K).toNat
  have hp2 := Nat.two_pow_pos (e' + K).toNat
  have hz : m = 0 ↔ m' = 0 := by
    constructor
    · intro z
      rw [z, Nat.zero_mul] at h
      rcases Nat.mul_eq_zero.1 h.symm with k | k
      · exact k
      · omega
    · intro z
      rw [z, Nat.zero_mul] at h
      rcases Nat.mul_eq_zero.1 h with k | k
      · exact k
      · omega
  refine ⟨by omega, ?_, hz⟩
  unfold exactB
  by_cases h0 : m = 0
  · rw [if_pos h0, if_pos (hz.1 h0)]
  · have h0' : m' ≠ 0 := fun q => h0 (hz.2 q)
    have t1 := tp_T m e K (by omega) h0
    have t2 := tp_T m' e' K (by omega) h0'
    have ht : tpI m e = tpI m' e' := by rw [t1, t2, h]
    have hl : lsI m e = lsI m' e' := by unfold lsI; rw [ht]
    have l1 := ls_low m' e'
    rw [if_neg h0, if_neg h0', ht, hl, ls_T m e _ K (by omega) (by omega), ls_T m' e' _ K (by omega) (by omega), h]
end Go.Proofs.YtjgnoaieplmoiaaGreatDoor
