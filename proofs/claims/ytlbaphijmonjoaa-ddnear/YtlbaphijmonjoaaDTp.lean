/- Rounding turns no order about: what a right pair is goes by its first float, then by its second. -/
import Derived.Test.YtlbaphijmonjoaaHFC
namespace Go.Proofs.Ytlbaphijmonjoaa.Fp
open EP Ieee

/-- n in units of 2^d, to the nearest, of two the even one -/
def he (n d : Nat) : Nat := n / 2 ^ d + (decide (2 ^ d < 2 * (n % 2 ^ d)) || ((2 ^ d == 2 * (n % 2 ^ d)) && (n / 2 ^ d % 2 == 1))).toNat
theorem cut_he (neg : Bool) (n d : Nat) (h : d ≤ n.log2 + 2) : Toward.even.cut neg n d = he n d := by
  unfold Toward.cut he
  dsimp only
  rw [Nat.min_eq_left h, Nat.one_shiftLeft]
theorem he_le (n d : Nat) : he n d ≤ n / 2 ^ d + 1 := by
  unfold he
  have := Bool.toNat_le (decide (2 ^ d < 2 * (n % 2 ^ d)) || ((2 ^ d == 2 * (n % 2 ^ d)) && (n / 2 ^ d % 2 == 1)))
  omega
theorem he_ge (n d : Nat) : n / 2 ^ d ≤ he n d := Nat.le_add_right _ _
theorem he_mono (n n' d : Nat) (h : n ≤ n') : he n d ≤ he n' d := by
  have h1 := he_le n d
  have h2 := he_ge n' d
  have h3 : n / 2 ^ d ≤ n' / 2 ^ d := Nat.div_le_div_right h
  by_cases h4 : n / 2 ^ d < n' / 2 ^ d
  · omega
  · have h5 : n / 2 ^ d = n' / 2 ^ d := by omega
    have e1 := Nat.div_add_mod n (2 ^ d)
    have e2 := Nat.div_add_mod n' (2 ^ d)
    unfold he
    rw [h5] at e1 ⊢
    generalize 2 ^ d * (n' / 2 ^ d) = q at *
    generalize n' / 2 ^ d = c at *
    generalize n % 2 ^ d = r at *
    generalize n' % 2 ^ d = r' at *
    generalize 2 ^ d = g at *
    have hr : r ≤ r' := by omega
    refine Nat.add_le_add_left ?_ _
    by_cases p1 : g < 2 * r
    · rw [decide_eq_true p1, decide_eq_true (show g < 2 * r' by omega)]
      exact Nat.le_refl _
    · rw [decide_eq_false p1]
      by_cases p2 : r = r'
      · rw [p2, decide_eq_false (show ¬ g < 2 * r' by omega)]
        exact Nat.le_refl _
      · by_cases p3 : g = 2 * r
        · rw [decide_eq_true (show g < 2 * r' by omega)]
          exact Bool.toNat_le _
        · rw [beq_eq_false_iff_ne.2 p3]
          exact Nat.zero_le _
theorem he_exact (c k : Nat) : he (c * 2 ^ k) k = c := by
  unfold he
  have hp := pow2_pos k
  rw [Nat.mul_mod_left, Nat.mul_div_cancel _ hp, decide_eq_false (by omega), beq_eq_false_iff_ne.2 (by omega)]
  rfl
theorem he_scale (m d z : Nat) : he (m * 2 ^ z) (d + z) = he m d := by
  unfold he
  have hz := pow2_pos z
  rw [Nat.pow_add, Nat.mul_div_mul_right _ _ hz, Nat.mul_mod_mul_right]
  generalize m % 2 ^ d = r
  generalize 2 ^ d = g
  have e : 2 * (r * 2 ^ z) = 2 * r * 2 ^ z := by rw [Nat.mul_assoc]
  rw [e]
  have a1 : decide (g * 2 ^ z < 2 * r * 2 ^ z) = decide (g < 2 * r) := by
    rw [Bool.eq_iff_iff, decide_eq_true_eq, decide_eq_true_eq]
    exact Nat.mul_lt_mul_right hz
  have a2 : (g * 2 ^ z == 2 * r * 2 ^ z) = (g == 2 * r) := by
    rw [Bool.eq_iff_iff, beq_iff_eq, beq_iff_eq]
    exact ⟨fun h => Nat.eq_of_mul_eq_mul_right hz h, fun h => by rw [h]⟩
  rw [a1, a2]
/-- the rung next to T least units -/
def rn (T : Nat) : Nat := (T.log2 - 52) * 4503599627370496 + he T (T.log2 - 52)
theorem rn_bounds (T : Nat) (h : T ≠ 0) : he T (T.log2 - 52) ≤ 9007199254740992 ∧ (0 < T.log2 - 52 → 4503599627370496 ≤ he T (T.log2 - 52)) := by
  obtain ⟨h1, h2⟩ := kept_pow T T.log2 rfl h
  generalize T.log2 = L at *
  have hp := pow2_pos (L - 52)
  constructor
  · have := he_le T (L - 52)
    have h3 : T / 2 ^ (L - 52) < 9007199254740992 := by
      refine (Nat.div_lt_iff_lt_mul hp).2 (Nat.lt_of_lt_of_le h2 ?_)
      have : (9007199254740992 : Nat) = 2 ^ 53 := by decide
      rw [this, ← Nat.pow_add]
      exact Nat.pow_le_pow_right (by decide) (by omega)
    omega
  · intro hk
    refine Nat.le_trans ?_ (he_ge _ _)
    refine (Nat.le_div_iff_mul_le hp).2 (Nat.le_trans ?_ h1)
    have : (4503599627370496 : Nat) = 2 ^ 52 := by decide
    rw [this, ← Nat.pow_add]
    exact Nat.pow_le_pow_right (by decide) (by omega)
theorem rn_mono (T T' : Nat) (h : T ≤ T') : rn T ≤ rn T' := by
  by_cases h0 : T = 0
  · have : rn 0 = 0 := by decide
    rw [h0, this]
    exact Nat.zero_le _
  · have h0' : T' ≠ 0 := by omega
    have hl : T.log2 ≤ T'.log2 := (Nat.le_log2 h0').2 (Nat.le_trans (Nat.log2_self_le h0) h)
    have b1 := rn_bounds T h0
    have b2 := rn_bounds T' h0'
    unfold rn
    by_cases hk : T.log2 - 52 = T'.log2 - 52
    · rw [hk]
      exact Nat.add_le_add_left (he_mono _ _ _ h) _
    · have := b2.2 (by omega)
      have hlt : (T.log2 - 52) + 1 ≤ T'.log2 - 52 := by omega
      generalize T.log2 - 52 = k at *
      generalize T'.log2 - 52 = k' at *
      omega
theorem nearest_rn (neg : Bool) (mag z : Nat) (hm : mag ≠ 0) : double.nearest neg mag (-1074 + (z : Int)) = double.word neg (min (rn (mag * 2 ^ z)) 9218868437227405312) := by
  have hlp : double.leastPlace = -1074 := by decide
  have hfb : (double.fractionBits : Int) = 52 := by decide
  have hbi : double.binade = 4503599627370496 := by decide
  have hir : double.infRung = 9218868437227405312 := by decide
  have hz := pow2_pos z
  have hl : (mag * 2 ^ z).log2 = mag.log2 + z := by
    have hn : mag * 2 ^ z ≠ 0 := Nat.mul_ne_zero hm (by omega)
    obtain ⟨h1, h2⟩ := kept_pow mag _ rfl hm
    refine Nat.le_antisymm ?_ ?_
    · refine Nat.le_of_lt_succ ((Nat.log2_lt hn).2 ?_)
      rw [show (mag.log2 + z).succ = mag.log2 + 1 + z by omega, Nat.pow_add]
      exact Nat.mul_lt_mul_of_pos_right h2 hz
    · refine (Nat.le_log2 hn).2 ?_
      rw [Nat.pow_add]
      exact Nat.mul_le_mul_right _ h1
  unfold Format.nearest rn
  rw [if_neg hm, hl]
  dsimp only
  rw [hlp, hfb, hbi, hir]
  have hlast : max (-1074 + (z : Int) + (mag.log2 : Int) - 52) (-1074) = -1074 + ((mag.log2 + z - 52 : Nat) : Int) := by omega
  rw [hlast]
  have e1 : (-1074 + (z : Int) - (-1074 + ((mag.log2 + z - 52 : Nat) : Int))).toNat = z - (mag.log2 + z - 52) := by omega
  have e2 : (-1074 + ((mag.log2 + z - 52 : Nat) : Int) - (-1074 + (z : Int))).toNat = (mag.log2 + z - 52) - z := by omega
  have e3 : (-1074 + ((mag.log2 + z - 52 : Nat) : Int) - -1074).toNat = mag.log2 + z - 52 := by omega
  rw [e1, e2, e3, Nat.shiftLeft_eq]
  have key : Toward.even.cut neg (mag * 2 ^ (z - (mag.log2 + z - 52))) ((mag.log2 + z - 52) - z) = he (mag * 2 ^ z) (mag.log2 + z - 52) := by
    by_cases hk : mag.log2 + z - 52 ≤ z
    · rw [show mag.log2 + z - 52 - z = 0 by omega, cut_zero]
      generalize mag.log2 + z - 52 = k at *
      rw [show mag * 2 ^ z = mag * 2 ^ (z - k) * 2 ^ k by rw [Nat.mul_assoc, ← Nat.pow_add, Nat.sub_add_cancel hk], he_exact]
    · rw [show z - (mag.log2 + z - 52) = 0 by omega, Nat.pow_zero, Nat.mul_one, cut_he _ _ _ (by omega)]
      have := he_scale mag (mag.log2 + z - 52 - z) z
      rw [show mag.log2 + z - 52 - z + z = mag.log2 + z - 52 by omega] at this
      exact this.symm
  rw [key]
end Go.Proofs.Ytlbaphijmonjoaa.Fp
