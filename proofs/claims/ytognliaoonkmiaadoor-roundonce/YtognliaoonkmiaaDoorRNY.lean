/- Rounding turns no order about, and goes by the number alone (pure). Rounding of numbers with their sign: order, less a number (pure). Round the points of change: what lies in a binary64's cell is rounded to its lower or its upper end (pure). -/
import Derived.Test.YtognliaoonkmiaaDoorRNX
import Derived.Test.YtognliaoonkmiaaDoorRN8
import Derived.Test.YtognliaoonkmiaaDoorRDE

namespace Go.Proofs.YtognliaoonkmiaaDoor
open Go.RowKit

/-- n in units of 2^d, to the nearest, of two the even one -/
def hv (n d : Nat) : Nat := n / 2 ^ d + (decide (2 ^ d < 2 * (n % 2 ^ d)) || ((2 ^ d == 2 * (n % 2 ^ d)) && (n / 2 ^ d % 2 == 1))).toNat
theorem hv_le (n d : Nat) : hv n d ≤ n / 2 ^ d + 1 := by
  unfold hv
  have := Bool.toNat_le (decide (2 ^ d < 2 * (n % 2 ^ d)) || ((2 ^ d == 2 * (n % 2 ^ d)) && (n / 2 ^ d % 2 == 1)))
  omega
theorem hv_ge (n d : Nat) : n / 2 ^ d ≤ hv n d := Nat.le_add_right _ _
theorem hv_mono (n n' d : Nat) (h : n ≤ n') : hv n d ≤ hv n' d := by
  have h1 := hv_le n d
  have h2 := hv_ge n' d
  have h3 : n / 2 ^ d ≤ n' / 2 ^ d := Nat.div_le_div_right h
  by_cases h4 : n / 2 ^ d < n' / 2 ^ d
  · omega
  · have h5 : n / 2 ^ d = n' / 2 ^ d := by omega
    have e1 := Nat.div_add_mod n (2 ^ d)
    have e2 := Nat.div_add_mod n' (2 ^ d)
    unfold hv
    rw [h5] at e1 ⊢
    generalize 2 ^ d * (n' / 2 ^ d) = q at *
    generalize n' / 2 ^ d = c at *
    generalize n % 2 ^ d = r at *
    generalize n' % 2 ^ d = r' at *
    generalize 2 ^ d = g at *
    have hr : r ≤ r' := by omega
    refine Nat.add_le_add_left ?_ _
    by_cases p1 : g < 2 * r
    · rw [decide_eq_true p1, decide_eq_true (show g < 2 * r' by omega)]
      exact Nat.le_refl _
    · rw [decide_eq_false p1]
      by_cases p2 : r = r'
      · rw [p2, decide_eq_false (show ¬ g < 2 * r' by omega)]
        exact Nat.le_refl _
      · by_cases p3 : g = 2 * r
        · rw [decide_eq_true (show g < 2 * r' by omega)]
          exact Bool.toNat_le _
        · rw [beq_eq_false_iff_ne.2 p3]
          exact Nat.zero_le _
theorem hv_exact (c k : Nat) : hv (c * 2 ^ k) k = c := by
  unfold hv
  have hp := Nat.two_pow_pos k
  rw [Nat.mul_mod_left, Nat.mul_div_cancel _ hp, decide_eq_false (by omega), beq_eq_false_iff_ne.2 (by omega)]
  rfl
theorem hv_scale (m d z : Nat) : hv (m * 2 ^ z) (d + z) = hv m d := by
  unfold hv
  have hz := Nat.two_pow_pos z
  rw [Nat.pow_add, Nat.mul_div_mul_right _ _ hz, Nat.mul_mod_mul_right]
  generalize m % 2 ^ d = r
  generalize 2 ^ d = g
  have e : 2 * (r * 2 ^ z) = 2 * r * 2 ^ z := by rw [Nat.mul_assoc]
  rw [e]
  have a1 : decide (g * 2 ^ z < 2 * r * 2 ^ z) = decide (g < 2 * r) := by
    rw [Bool.eq_iff_iff, decide_eq_true_eq, decide_eq_true_eq]
    exact Nat.mul_lt_mul_right hz
  have a2 : (g * 2 ^ z == 2 * r * 2 ^ z) = (g == 2 * r) := by
    rw [Bool.eq_iff_iff, beq_iff_eq, beq_iff_eq]
    exact ⟨fun h => Nat.eq_of_mul_eq_mul_right hz h, fun h => by rw [h]⟩
  rw [a1, a2]
/-- of two: the nearest, half a unit off at most -/
theorem hv_half (n d : Nat) : 2 * (hv n d * 2 ^ d) ≤ 2 * n + 2 ^ d ∧ 2 * n ≤ 2 * (hv n d * 2 ^ d) + 2 ^ d := by
  unfold hv
  have hp := Nat.two_pow_pos d
  have e := Nat.div_add_mod n (2 ^ d)
  have hl := Nat.mod_lt n hp
  generalize n % 2 ^ d = r at *
  generalize n / 2 ^ d = q at *
  generalize 2 ^ d = g at *
  have e2 : q * g = g * q := Nat.mul_comm _ _
  cases hb : (decide (g < 2 * r) || ((g == 2 * r) && (q % 2 == 1))) with
  | true =>
    simp only [Bool.or_eq_true, decide_eq_true_eq, Bool.and_eq_true, beq_iff_eq] at hb
    rw [Bool.toNat_true, Nat.add_mul, e2]
    omega
  | false =>
    simp only [Bool.or_eq_false_iff, decide_eq_false_iff_not] at hb
    rw [Bool.toNat_false, Nat.add_zero, e2]
    omega
theorem rd_hv (m n : Nat) : rd2 m ((n : Int) + 1) = hv m (n + 1) := by
  unfold rd2 up2 half2 over2 fl2 hv
  rw [if_neg (by omega), if_neg (by omega), if_neg (by omega), show ((n : Int) + 1).toNat = n + 1 by omega, show n + 1 - 1 = n by omega, bit_div]
  congr 2
  unfold lostB
  rw [mod_succ m n]
  have h2 : m / 2 ^ n % 2 = 0 ∨ m / 2 ^ n % 2 = 1 := by omega
  have hp := Nat.two_pow_pos n
  have hl := Nat.mod_lt m hp
  rw [Nat.pow_succ]
  generalize m / (2 ^ n * 2) = q
  generalize m % 2 ^ n = r at *
  generalize 2 ^ n = g at *
  rcases h2 with h | h
  · rw [h, Nat.mul_zero, Nat.add_zero, decide_eq_false (show ¬ 0 = 1 by decide), Bool.false_and, decide_eq_false (by omega), beq_eq_false_iff_ne.2 (by omega)]
    rfl
  · rw [h, Nat.mul_one, decide_eq_true rfl, Bool.true_and]
    by_cases z : r = 0
    · rw [z, decide_eq_false (show ¬ ((0 : Nat) ≠ 0) by decide), decide_eq_false (show ¬ g * 2 < 2 * (0 + g) by omega), beq_iff_eq.2 (show g * 2 = 2 * (0 + g) by omega), Bool.false_or, Bool.false_or, Bool.true_and]
      rw [Bool.eq_iff_iff, decide_eq_true_eq, beq_iff_eq]
    · rw [decide_eq_true (show r ≠ 0 from z), decide_eq_true (show g * 2 < 2 * (r + g) by omega)]
      rfl
/-- rounding goes by the number in units of 2^-K -/
theorem rd_T (m : Nat) (e l : Int) (K : Nat) (he : -(K : Int) ≤ e) (hl : -(K : Int) ≤ l) : rd2 m (l - e) = hv (m * 2 ^ (e + K).toNat) (l + K).toNat := by
  by_cases h : l - e ≤ 0
  · have e1 : rd2 m (l - e) = m * 2 ^ (e - l).toNat := by
      unfold rd2 up2 half2 fl2
      rw [if_pos h, if_pos h, show (-(l - e)).toNat = (e - l).toNat by omega]
      simp
    rw [e1, show (e + K).toNat = (e - l).toNat + (l + K).toNat by omega, Nat.pow_add, ← Nat.mul_assoc, hv_exact]
  · obtain ⟨n, hn⟩ : ∃ n : Nat, l - e = (n : Int) + 1 := ⟨(l - e - 1).toNat, by omega⟩
    rw [hn, rd_hv, show (l + K).toNat = (n + 1) + (e + K).toNat by omega, hv_scale]
theorem ls_T (m : Nat) (e l : Int) (K : Nat) (he : -(K : Int) ≤ e) (hl : -(K : Int) ≤ l) : ls2 m (l - e) = lostB (m * 2 ^ (e + K).toNat) (l + K).toNat := by
  unfold ls2 lostB
  by_cases h : l - e ≤ 0
  · rw [if_pos h, show (e + K).toNat = (e - l).toNat + (l + K).toNat by omega, Nat.pow_add, ← Nat.mul_assoc, Nat.mul_mod_left]
    simp
  · rw [if_neg h, show (l + K).toNat = (l - e).toNat + (e + K).toNat by omega, Nat.pow_add, Nat.mul_mod_mul_right, decide_eq_decide]
    have := Nat.two_pow_pos (e + K).toNat
    constructor
    · exact fun q z => q (by rcases Nat.mul_eq_zero.1 z with k | k; exact k; omega)
    · exact fun q z => q (by rw [z, Nat.zero_mul])
theorem tp_T (m : Nat) (e : Int) (K : Nat) (he : -(K : Int) ≤ e) (h0 : m ≠ 0) : tpI m e = (blen (m * 2 ^ (e + K).toNat) : Int) - K - 1 := by
  have := blen_mul m (e + K).toNat h0
  unfold tpI
  omega
/-- a number in units of 2^-K -/
theorem near_mono (m : Nat) (e : Int) (m' : Nat) (e' : Int) (K : Nat) (hK : 32768 ≤ K) (he : -32768 ≤ e) (he' : -32768 ≤ e') (h : m * 2 ^ (e + K).toNat ≤ m' * 2 ^ (e' + K).toNat) : nearW m e ≤ nearW m' e' := by
  have b1 := nearW_bd m e
  have b2 := nearW_bd m' e'
  by_cases h0 : m = 0
  · have : nearW m e = 0 := by unfold nearW; rw [if_pos h0]
    omega
  · have hp1 := Nat.two_pow_pos (e + K).toNat
    have h0' : m' ≠ 0 := fun z => by
      rw [z, Nat.zero_mul] at h
      have := Nat.mul_pos (show 0 < m by omega) hp1
      omega
    have t1 := tp_T m e K (by omega) h0
    have t2 := tp_T m' e' K (by omega) h0'
    have hb := blen_mono h
    by_cases c1 : 1024 ≤ tpI m' e'
    · have : nearW m' e' = 9218868437227405312 := by unfold nearW; rw [if_neg h0', if_pos c1]
      omega
    · have l1 := ls_low m e
      have l2 := ls_low m' e'
      have r1 := rd_T m e (lsI m e) K (by omega) (by omega)
      have r2 := rd_T m' e' (lsI m' e') K (by omega) (by omega)
      have n1 : nearW m e = (lsI m e + 1074) * 4503599627370496 + (rd2 m (lsI m e - e) : Int) := by unfold nearW; rw [if_neg h0, if_neg (by omega)]
      have n2 : nearW m' e' = (lsI m' e' + 1074) * 4503599627370496 + (rd2 m' (lsI m' e' - e') : Int) := by unfold nearW; rw [if_neg h0', if_neg c1]
      have hll : lsI m e ≤ lsI m' e' := by unfold lsI; split <;> split <;> omega
      by_cases c2 : lsI m e = lsI m' e'
      · have := hv_mono _ _ (lsI m e + K).toNat h
        rw [← r1] at this
        rw [c2, ← r2, ← c2] at this
        rw [n1, n2, ← c2]
        rw [← c2] at r2
        omega
      · have hge := M_ge m' e' h0' (by omega)
        have hlt := M_lt m e
        have q1 : rd2 m (lsI m e - e) ≤ 9007199254740992 := by
          unfold rd2
          have : (up2 m (lsI m e - e)).toNat ≤ 1 := Bool.toNat_le _
          omega
        have q2 : fl2 m' (lsI m' e' - e') ≤ rd2 m' (lsI m' e' - e') := Nat.le_add_right _ _
        omega
/-- two forms of one number are rounded alike -/
theorem near_same (m : Nat) (e : Int) (m' : Nat) (e' : Int) (K : Nat) (hK : 32768 ≤ K) (he : -32768 ≤ e) (he' : -32768 ≤ e') (h : m * 2 ^ (e + K).toNat = m' * 2 ^ (e' + K).toNat) : nearW m e = nearW m' e' ∧ exactB m e = exactB m' e' ∧ (m = 0 ↔ m' = 0) := by
  have a1 := near_mono m e m' e' K hK he he' (by omega)
  have a2 := near_mono m' e' m e K hK he' he (by omega)
  have hp1 := Nat.two_pow_pos (e + K).toNat
  have hp2 := Nat.two_pow_pos (e' + K).toNat
  have hz : m = 0 ↔ m' = 0 := by
    constructor
    · intro z
      rw [z, Nat.zero_mul] at h
      rcases Nat.mul_eq_zero.1 h.symm with k | k
      · exact k
      · omega
    · intro z
      rw [z, Nat.zero_mul] at h
      rcases Nat.mul_eq_zero.1 h with k | k
      · exact k
      · omega
  refine ⟨by omega, ?_, hz⟩
  unfold exactB
  by_cases h0 : m = 0
  · rw [if_pos h0, if_pos (hz.1 h0)]
  · have h0' : m' ≠ 0 := fun q => h0 (hz.2 q)
    have t1 := tp_T m e K (by omega) h0
    have t2 := tp_T m' e' K (by omega) h0'
    have ht : tpI m e = tpI m' e' := by rw [t1, t2, h]
    have hl : lsI m e = lsI m' e' := by unfold lsI; rw [ht]
    have l1 := ls_low m' e'
    rw [if_neg h0, if_neg h0', ht, hl, ls_T m e _ K (by omega) (by omega), ls_T m' e' _ K (by omega) (by omega), h]
end Go.Proofs.YtognliaoonkmiaaDoor

namespace Go.Proofs.YtognliaoonkmiaaDoor
open Go.RowKit

theorem near_num (s : Bool) (m : Nat) (e : Int) : numB (nearB s m e) = true ∧ rungV (nearB s m e) = sI s * nearW m e := by
  have hb := nearW_bd m e
  have hz : m = 0 → nearW m e = 0 := fun q => by unfold nearW; rw [if_pos q]
  unfold nearB
  by_cases h : (s && decide (m ≠ 0)) = true
  · rw [if_pos h]
    simp only [Bool.and_eq_true, decide_eq_true_eq] at h
    rw [h.1]
    unfold numB rungV negV sI
    refine ⟨by simp; omega, ?_⟩
    rw [if_pos (by omega), if_pos rfl]
    omega
  · rw [if_neg h]
    simp only [Bool.and_eq_true, decide_eq_true_eq, not_and, Decidable.not_not] at h
    refine ⟨by unfold numB; simp; omega, ?_⟩
    unfold rungV
    rw [if_neg (by omega)]
    unfold sI
    cases s with
    | true => rw [hz (h rfl)]; rfl
    | false => rw [if_neg (by decide)]; omega
theorem cmp_le (x y : Int) : Lib.compareInt x y ≤ 0 ↔ x ≤ y := by
  unfold Lib.compareInt
  split
  · constructor <;> omega
  · split <;> constructor <;> omega
/-- of a no greater number what it is rounded to is no greater -/
theorem near_le (s : Bool) (m : Nat) (e : Int) (t : Bool) (m' : Nat) (f : Int) (he : -32768 ≤ e) (hf : -32768 ≤ f) (h : cmpD (formD s m e) (formD t m' f) ≤ 0) : rungV (nearB s m e) ≤ rungV (nearB t m' f) := by
  obtain ⟨K, hK⟩ : ∃ K : Nat, K = 32768 := ⟨_, rfl⟩
  rw [vI_cmp _ _ K (form_lo _ _ _ _ (by omega) (by omega)) (form_lo _ _ _ _ (by omega) (by omega)), cmp_le, vI_form _ _ _ _ (by omega), vI_form _ _ _ _ (by omega)] at h
  rw [(near_num s m e).2, (near_num t m' f).2]
  rw [show (e - -(K : Int)).toNat = (e + K).toNat by omega, show (f - -(K : Int)).toNat = (f + K).toNat by omega] at h
  have b1 := nearW_bd m e
  have b2 := nearW_bd m' f
  have k1 := near_mono m e m' f K (by omega) he hf
  have k2 := near_mono m' f m e K (by omega) hf he
  have k3 := near_mono m e 0 0 K (by omega) he (by decide)
  have k4 := near_mono m' f 0 0 K (by omega) hf (by decide)
  rw [Nat.zero_mul, show nearW 0 0 = 0 by decide] at k3 k4
  generalize m * 2 ^ (e + K).toNat = T at *
  generalize m' * 2 ^ (f + K).toNat = T' at *
  unfold sI at *
  cases s <;> cases t <;> simp at h ⊢
  · have := k1 (by omega); omega
  · have := k3 (by omega); have := k4 (by omega); omega
  · omega
  · have := k2 (by omega); omega
theorem not_less (s : Bool) (m : Nat) (e : Int) (t : Bool) (m' : Nat) (f : Int) (he : -32768 ≤ e) (hf : -32768 ≤ f) (h : cmpD (formD s m e) (formD t m' f) ≤ 0) : lessB (nearB t m' f) (nearB s m e) = false := by
  have := near_le s m e t m' f he hf h
  unfold lessB
  rw [decide_eq_false (by omega)]
  simp
theorem form_val (s : Bool) (m : Nat) (e : Int) (K : Nat) (h0 : m ≠ 0) (he : -(K : Int) ≤ e) : (formD s m e).2.1 * 2 ^ ((formD s m e).2.2 + K).toNat = m * 2 ^ (e + K).toNat := by
  have h1 := vI_form false m e (-(K : Int)) he
  unfold vI sI at h1
  have hs : formD s m e = (s, (formD false m e).2.1, (formD false m e).2.2) := by rw [form_pos _ h0, form_pos _ h0]
  have hs0 : (formD false m e).1 = false := by rw [form_pos _ h0]
  rw [hs0] at h1
  simp at h1
  rw [hs]
  show (formD false m e).2.1 * 2 ^ ((formD false m e).2.2 + K).toNat = _
  rw [show ((formD false m e).2.2 + (K : Int)).toNat = ((formD false m e).2.2 + (K : Int)).toNat from rfl]
  have h2 := h1
  exact_mod_cast h2
/-- what is rounded of less a number -/
theorem near_turn (s : Bool) (m : Nat) (e : Int) (hr : rightB m e = true) (hc : canE s m e = 0) :
    erR (ngP s m e).2.1 (ngP s m e).2.2 = 0 ∧ flR (ngP s m e).1 (ngP s m e).2.1 (ngP s m e).2.2 = flR s m e ∧ (m = 0 → nbR (ngP s m e).1 (ngP s m e).2.1 (ngP s m e).2.2 = 0) ∧ (m ≠ 0 → nbR (ngP s m e).1 (ngP s m e).2.1 (ngP s m e).2.2 = negV (nbR s m e)) := by
  obtain ⟨hg, he⟩ := rightB_yes hr
  have c1 := canE_yes (s := s) hr
  have hroom : roomB (formD s m e) = true := by
    rw [c1.1] at hc
    unfold roomE at hc
    split at hc
    · assumption
    · cases hc
  have hp : ngP s m e = negD (formD s m e) := by
    unfold ngP
    rw [if_pos hc, c1.2]
    unfold roomP
    rw [if_pos hroom]
  have hr2 : rightB (formD s m e).2.1 (formD s m e).2.2 = true := hroom
  have hr3 : rightB (negD (formD s m e)).2.1 (negD (formD s m e)).2.2 = true := hroom
  obtain ⟨-, hf⟩ := rightB_yes hr2
  rw [hp]
  by_cases h0 : m = 0
  · have hz : formD s m e = (false, 0, 0) := by rw [h0]; exact form_zero s e
    rw [hz] at hr3 ⊢
    refine ⟨by unfold erR; rw [if_pos hr3], ?_, fun _ => ?_, fun q => absurd h0 q⟩
    · unfold flR
      rw [if_pos hr3, if_pos hr]
      have x1 : exactB (negD (false, 0, 0)).2.1 (negD (false, 0, 0)).2.2 = true := by decide
      have x2 : exactB m e = true := by unfold exactB; rw [if_pos h0]
      rw [if_pos x1, if_pos x2]
    · unfold nbR
      rw [if_pos hr3]
      decide
  · obtain ⟨K, hK⟩ : ∃ K : Nat, K = 32768 := ⟨_, rfl⟩
    obtain ⟨n1, n2, n3⟩ := near_same (formD s m e).2.1 (formD s m e).2.2 m e K (by omega) (by omega) (by omega) (form_val s m e K h0 (by omega))
    have hm0 : (formD s m e).2.1 ≠ 0 := fun q => h0 (n3.1 q)
    have hs : (formD s m e).1 = s := by rw [form_pos _ h0]
    have hng : (negD (formD s m e)).1 = !s := by unfold negD; rw [hs, decide_eq_false hm0]; simp
    have ht : tinyP (formD s m e).2.1 (formD s m e).2.2 = tinyP m e := by
      unfold tinyP
      have : formD false (formD s m e).2.1 (formD s m e).2.2 = formD false m e := by
        have q := form_of_can (form_can false m e)
        rw [form_pos s h0, form_pos false h0]
        rw [form_pos false h0] at q
        exact q
      rw [this]
    have hb : nearB (!s) (formD s m e).2.1 (formD s m e).2.2 = negV (nearB s m e) := by
      have w := nearW_bd m e
      unfold nearB
      rw [n1, decide_eq_true hm0, decide_eq_true (show m ≠ 0 from h0)]
      cases s
      · simp
      · simp; unfold negV; omega
    refine ⟨by unfold erR; rw [if_pos hr3], ?_, fun q => absurd q h0, fun _ => ?_⟩
    · unfold flR
      rw [if_pos hr3, if_pos hr, hng]
      show (if exactB (formD s m e).2.1 (formD s m e).2.2 = true then 0 else inxF (nearB (!s) (formD s m e).2.1 (formD s m e).2.2) (tinyP (formD s m e).2.1 (formD s m e).2.2)) = _
      rw [n2, ht, hb]
      unfold inxF
      rw [show absV (negV (nearB s m e)) = absV (nearB s m e) from by have := nearB_U s m e; unfold absV negV; unfold U at this; omega]
    · unfold nbR
      rw [if_pos hr3, if_pos hr, hng]
      exact hb

end Go.Proofs.YtognliaoonkmiaaDoor

namespace Go.Proofs.YtognliaoonkmiaaDoor
open Go.RowKit

theorem hv_cell (c r d : Nat) (hr : r < 2 ^ d) : hv (c * 2 ^ d + r) d = c + (decide (2 ^ d < 2 * r) || ((2 ^ d == 2 * r) && (c % 2 == 1))).toNat := by
  have hp := Nat.two_pow_pos d
  have e1 : (c * 2 ^ d + r) / 2 ^ d = c := by
    rw [Nat.add_comm, Nat.add_mul_div_right _ _ hp, Nat.div_eq_of_lt hr, Nat.zero_add]
  have e2 : (c * 2 ^ d + r) % 2 ^ d = r := by
    rw [Nat.add_comm, Nat.add_mul_mod_self_right, Nat.mod_eq_of_lt hr]
  unfold hv
  rw [e1, e2]
/-- a number whose amount lies from c 2^k to below (c + 1) 2^k, in units of 2^-1074 -/
theorem near_cell (m : Nat) (e : Int) (K : Nat) (hK : K = 32768) (he : -32768 ≤ e) (c k r : Nat) (hc : c < 9007199254740992) (hk : k = 0 ∨ 4503599627370496 ≤ c) (hk2 : k ≤ 2045) (hr : r < 2 ^ (k + (K - 1074))) (hT : m * 2 ^ (e + K).toNat = c * 2 ^ (k + (K - 1074)) + r) (hr0 : 0 < r) :
    nearW m e = (k : Int) * 4503599627370496 + ((c + (decide (2 ^ (k + (K - 1074)) < 2 * r) || ((2 ^ (k + (K - 1074)) == 2 * r) && (c % 2 == 1))).toNat : Nat) : Int) ∧ exactB m e = false ∧ m ≠ 0 := by
  have hm0 : m ≠ 0 := fun q => by rw [q, Nat.zero_mul] at hT; omega
  have tp := tp_T m e K (by omega) hm0
  have hp := Nat.two_pow_pos (k + (K - 1074))
  have up : m * 2 ^ (e + K).toNat < 2 ^ (53 + (k + (K - 1074))) := by
    rw [hT, Nat.pow_add 2 53]
    have h1 : (c + 1) * 2 ^ (k + (K - 1074)) ≤ 2 ^ 53 * 2 ^ (k + (K - 1074)) := Nat.mul_le_mul_right _ (show c + 1 ≤ 2 ^ 53 from by rw [show (2 : Nat) ^ 53 = 9007199254740992 by decide]; omega)
    rw [Nat.add_mul, Nat.one_mul] at h1
    omega
  have hb := (blen_le _ _).2 up
  have hl : lsI m e = (k : Int) - 1074 ∧ tpI m e < 1024 := by
    unfold lsI
    rcases hk with q | q
    · subst q
      rw [tp]
      split <;> omega
    · have lo : ¬ blen (m * 2 ^ (e + K).toNat) ≤ 52 + (k + (K - 1074)) := fun w => by
        have h2 := (blen_le _ _).1 w
        rw [hT, Nat.pow_add 2 52] at h2
        have h3 : 2 ^ 52 * 2 ^ (k + (K - 1074)) ≤ c * 2 ^ (k + (K - 1074)) := Nat.mul_le_mul_right _ (show 2 ^ 52 ≤ c from by rw [show (2 : Nat) ^ 52 = 4503599627370496 by decide]; omega)
        omega
      rw [tp]
      split <;> omega
  obtain ⟨hl, ht⟩ := hl
  refine ⟨?_, ?_, hm0⟩
  · unfold nearW
    rw [if_neg hm0, if_neg (by omega), hl, rd_T m e _ K (by omega) (by omega), hT, show ((k : Int) - 1074 + K).toNat = k + (K - 1074) by omega, hv_cell c r _ hr]
    omega
  · unfold exactB
    rw [if_neg hm0, if_neg (by omega), hl, ls_T m e _ K (by omega) (by omega), hT, show ((k : Int) - 1074 + K).toNat = k + (K - 1074) by omega]
    unfold lostB
    rw [Nat.add_comm, Nat.add_mul_mod_self_right, Nat.mod_eq_of_lt hr, decide_eq_true (by omega)]
    rfl
/-- what a triple is worth tells its sign and its amount -/
theorem val_pos (P : Bool × Nat × Int) (E : Int) (T : Nat) (h0 : 0 < T) (h : vI P E = (T : Int)) : P.1 = false ∧ P.2.1 * 2 ^ (P.2.2 - E).toNat = T := by
  unfold vI sI at h
  cases hs : P.1 with
  | true => rw [hs, if_pos rfl] at h; omega
  | false => rw [hs, if_neg (by decide)] at h; exact ⟨rfl, by omega⟩
theorem val_neg (P : Bool × Nat × Int) (E : Int) (T : Nat) (h0 : 0 < T) (h : vI P E = -(T : Int)) : P.1 = true ∧ P.2.1 * 2 ^ (P.2.2 - E).toNat = T := by
  unfold vI sI at h
  cases hs : P.1 with
  | true => rw [hs, if_pos rfl] at h; exact ⟨rfl, by omega⟩
  | false => rw [hs, if_neg (by decide)] at h; omega
/-- a number beside the middle of a cell, of either sign -/
theorem cell_pos (P : Bool × Nat × Int) (hr : rightB P.2.1 P.2.2 = true) (K : Nat) (hK : K = 32768) (c k r : Nat) (hc : c < 9007199254740992) (hk : k = 0 ∨ 4503599627370496 ≤ c) (hk2 : k ≤ 2045) (hr1 : r < 2 ^ (k + (K - 1074))) (hr0 : 0 < r) (h : vI P (-(K : Int)) = ((c * 2 ^ (k + (K - 1074)) + r : Nat) : Int)) :
    erR P.2.1 P.2.2 = 0 ∧ nbR P.1 P.2.1 P.2.2 = (k : Int) * 4503599627370496 + ((c + (decide (2 ^ (k + (K - 1074)) < 2 * r) || ((2 ^ (k + (K - 1074)) == 2 * r) && (c % 2 == 1))).toNat : Nat) : Int) ∧ exactB P.2.1 P.2.2 = false := by
  obtain ⟨v1, v2⟩ := val_pos P _ _ (by omega) h
  have he := (rightB_yes hr).2
  rw [show (P.2.2 - -(K : Int)).toNat = (P.2.2 + K).toNat by omega] at v2
  obtain ⟨n1, n2, n3⟩ := near_cell P.2.1 P.2.2 K hK he.1 c k r hc hk hk2 hr1 v2 hr0
  refine ⟨by unfold erR; rw [if_pos hr], ?_, n2⟩
  unfold nbR nearB
  rw [if_pos hr, v1, Bool.false_and, if_neg (by decide), n1]
theorem cell_neg (P : Bool × Nat × Int) (hr : rightB P.2.1 P.2.2 = true) (K : Nat) (hK : K = 32768) (c k r : Nat) (hc : c < 9007199254740992) (hk : k = 0 ∨ 4503599627370496 ≤ c) (hk2 : k ≤ 2045) (hr1 : r < 2 ^ (k + (K - 1074))) (hr0 : 0 < r) (h : vI P (-(K : Int)) = -((c * 2 ^ (k + (K - 1074)) + r : Nat) : Int)) :
    erR P.2.1 P.2.2 = 0 ∧ nbR P.1 P.2.1 P.2.2 = negV ((k : Int) * 4503599627370496 + ((c + (decide (2 ^ (k + (K - 1074)) < 2 * r) || ((2 ^ (k + (K - 1074)) == 2 * r) && (c % 2 == 1))).toNat : Nat) : Int)) ∧ exactB P.2.1 P.2.2 = false := by
  obtain ⟨v1, v2⟩ := val_neg P _ _ (by omega) h
  have he := (rightB_yes hr).2
  rw [show (P.2.2 - -(K : Int)).toNat = (P.2.2 + K).toNat by omega] at v2
  obtain ⟨n1, n2, n3⟩ := near_cell P.2.1 P.2.2 K hK he.1 c k r hc hk hk2 hr1 v2 hr0
  refine ⟨by unfold erR; rw [if_pos hr], ?_, n2⟩
  unfold nbR nearB
  rw [if_pos hr, v1, Bool.true_and, if_pos (decide_eq_true n3), n1]
end Go.Proofs.YtognliaoonkmiaaDoor
