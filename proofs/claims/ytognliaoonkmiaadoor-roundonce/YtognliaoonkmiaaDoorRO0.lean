/- No neighbour is nearer than what a number is rounded to (pure). -/
import Derived.Test.YtognliaoonkmiaaDoorRNY
import Derived.Test.YtognliaoonkmiaaDoorRP1
namespace Go.Proofs.YtognliaoonkmiaaDoor
open Go.RowKit

theorem cell_of (V : Int) (k q : Nat) (hV : V = (k : Int) * 4503599627370496 + (q : Int)) (hq : q < 9007199254740992) (hk : k = 0 ∨ 4503599627370496 ≤ q) (hk2 : k ≤ 2045) : cC V = q ∧ cK V = k := by
  unfold cK cC unitV countV expV fracV
  split <;> omega
def cv (V : Int) (z : Nat) : Nat := cC V * 2 ^ (cK V + z)
theorem cv_next (V : Int) (h0 : 0 ≤ V) (h1 : V < 9218868437227405312) (z : Nat) : cv (V + 1) z = cv V z + 2 ^ (cK V + z) := by
  unfold cv
  rw [next_cell V h0 h1 z, Nat.add_mul, Nat.one_mul]
theorem cv_zero (z : Nat) : cv 0 z = 0 := by
  have := cell_of 0 0 0 (by omega) (by decide) (.inl rfl) (by decide)
  unfold cv
  rw [this.1, Nat.zero_mul]
theorem pow_le' (a b z : Nat) (h : a ≤ b) : 2 ^ (a + z) ≤ 2 ^ (b + z) := Nat.pow_le_pow_right (by decide) (by omega)
theorem one_more (q P : Nat) (h : q = 9007199254740992) : 4503599627370496 * (P * 2) = q * P := by subst h; omega
/-- what is answered, in units of 2^-K, and how far the number lies from it -/
theorem near_parts (m : Nat) (e : Int) (K : Nat) (hK : K = 32768) (he : -32768 ≤ e) (h0 : m ≠ 0) (hi : nearW m e ≠ 9218868437227405312) :
    ∃ k q : Nat, nearW m e = (k : Int) * 4503599627370496 + (q : Int) ∧ q ≤ 9007199254740992 ∧ (k = 0 ∨ 4503599627370496 ≤ q) ∧ k ≤ 2045 ∧ cv (nearW m e) (K - 1074) = q * 2 ^ (k + (K - 1074)) ∧ q = hv (m * 2 ^ (e + K).toNat) (k + (K - 1074)) ∧ (k ≠ 0 → 4503599627370496 ≤ (m * 2 ^ (e + K).toNat) / 2 ^ (k + (K - 1074))) ∧ (exactB m e = true ↔ (m * 2 ^ (e + K).toNat) % 2 ^ (k + (K - 1074)) = 0) := by
  have hb := nearW_bd m e
  have ht : tpI m e < 1024 := by
    by_cases q : 1024 ≤ tpI m e
    · exfalso; apply hi; unfold nearW; rw [if_neg h0, if_pos q]
    · omega
  have l1 := ls_low m e
  have l2 := ls_top m e ht
  obtain ⟨k, hk⟩ : ∃ k : Nat, lsI m e = (k : Int) - 1074 := ⟨(lsI m e + 1074).toNat, by omega⟩
  have eW : nearW m e = (k : Int) * 4503599627370496 + (rd2 m (lsI m e - e) : Int) := by
    unfold nearW
    rw [if_neg h0, if_neg (by omega), show lsI m e + 1074 = (k : Int) by omega]
  have eq : rd2 m (lsI m e - e) = hv (m * 2 ^ (e + K).toNat) (k + (K - 1074)) := by
    rw [rd_T m e _ K (by omega) (by omega), hk, show ((k : Int) - 1074 + K).toNat = k + (K - 1074) by omega]
  have fl := M_lt m e
  have up : (up2 m (lsI m e - e)).toNat ≤ 1 := Bool.toNat_le _
  have q1 : rd2 m (lsI m e - e) ≤ 9007199254740992 := by unfold rd2; omega
  have q2 : k = 0 ∨ 4503599627370496 ≤ rd2 m (lsI m e - e) := by
    by_cases q : k = 0
    · exact .inl q
    · right
      have := M_ge m e h0 (by omega)
      unfold rd2
      omega
  have hx : exactB m e = true ↔ (m * 2 ^ (e + K).toNat) % 2 ^ (k + (K - 1074)) = 0 := by
    unfold exactB
    rw [if_neg h0, if_neg (by omega), ls_T m e _ K (by omega) (by omega), hk, show ((k : Int) - 1074 + K).toNat = k + (K - 1074) by omega]
    unfold lostB
    simp
  have hlow : k ≠ 0 → 4503599627370496 ≤ (m * 2 ^ (e + K).toNat) / 2 ^ (k + (K - 1074)) := fun hk0 => by
    have tp := tp_T m e K (by omega) h0
    have h1 : ¬ blen (m * 2 ^ (e + K).toNat) ≤ 52 + (k + (K - 1074)) := by
      unfold lsI at hk
      split at hk <;> omega
    have h2 : ¬ m * 2 ^ (e + K).toNat < 2 ^ (52 + (k + (K - 1074))) := fun q => h1 ((blen_le _ _).2 q)
    rw [Nat.pow_add 2 52, show (2 : Nat) ^ 52 = 4503599627370496 by decide] at h2
    exact (Nat.le_div_iff_mul_le (Nat.two_pow_pos _)).2 (by omega)
  have k2 : k ≤ 2045 := by omega
  obtain ⟨q, hq⟩ : ∃ q : Nat, q = hv (m * 2 ^ (e + K).toNat) (k + (K - 1074)) := ⟨_, rfl⟩
  rw [eq, ← hq] at eW q1 q2
  refine ⟨k, q, eW, q1, q2, k2, ?_, hq, hlow, hx⟩
  by_cases c : q < 9007199254740992
  · have := cell_of (nearW m e) k q eW c q2 k2
    unfold cv
    rw [this.1, this.2]
  · have c' : q = 9007199254740992 := by omega
    by_cases k3 : k ≤ 2044
    · have := cell_of (nearW m e) (k + 1) 4503599627370496 (by rw [eW, c']; omega) (by decide) (.inr (Nat.le_refl _)) (by omega)
      unfold cv
      rw [this.1, this.2, show k + 1 + (K - 1074) = k + (K - 1074) + 1 by omega, Nat.pow_succ]
      exact one_more _ _ c'
    · exfalso; apply hi; rw [eW, c']; omega
theorem ar_A (T q P V : Nat) (h : 2 * T ≤ 2 * (q * P) + P) (hV : P ≤ V) : 2 * T ≤ q * P + (q * P + V) := by omega
theorem ar_B (T q P V W : Nat) (h : 2 * (q * P) ≤ 2 * T + P) (hV : P ≤ V) (e : q * P = W + V) : W + q * P ≤ 2 * T := by omega
theorem ar_C (T c q P V W : Nat) (e : q * P = W + V) (h1 : q ≤ c) (h2 : c * P ≤ T) : W + q * P ≤ 2 * T := by
  have := Nat.mul_le_mul_right P h1
  omega
theorem near_gapN (m : Nat) (e : Int) (K : Nat) (hK : K = 32768) (he : -32768 ≤ e) (hi : nearW m e ≠ 9218868437227405312) :
    2 * (m * 2 ^ (e + K).toNat) ≤ cv (nearW m e) (K - 1074) + cv (nearW m e + 1) (K - 1074) ∧ (1 ≤ nearW m e → cv (nearW m e - 1) (K - 1074) + cv (nearW m e) (K - 1074) ≤ 2 * (m * 2 ^ (e + K).toNat)) := by
  by_cases h0 : m = 0
  · have hW : nearW m e = 0 := by unfold nearW; rw [if_pos h0]
    rw [hW, h0]
    exact ⟨by omega, fun q => by omega⟩
  · have hb := nearW_bd m e
    obtain ⟨k, q, eW, q1, q2, k2, eV, eq, hlow, _⟩ := near_parts m e K hK he h0 hi
    obtain ⟨v1, v2⟩ := hv_half (m * 2 ^ (e + K).toNat) (k + (K - 1074))
    rw [← eq] at v1 v2
    have nx := cv_next (nearW m e) hb.1 (by omega) (K - 1074)
    constructor
    · rw [nx, eV]
      refine ar_A _ _ _ _ v2 ?_
      refine pow_le' _ _ _ ?_
      by_cases c : q < 9007199254740992
      · exact Nat.le_of_eq (cell_of _ k q eW c q2 k2).2.symm
      · have := cell_of (nearW m e) (k + 1) 4503599627370496 (by rw [eW]; omega) (by decide) (.inr (Nat.le_refl _)) (by omega)
        omega
    · intro h1
      have pv := cv_next (nearW m e - 1) (by omega) (by omega) (K - 1074)
      rw [show nearW m e - 1 + 1 = nearW m e by omega, eV] at pv
      rw [eV]
      by_cases c : k = 0 ∨ 4503599627370496 < q
      · refine ar_B _ _ _ _ _ v1 ?_ pv
        refine pow_le' _ _ _ ?_
        have := cell_of (nearW m e - 1) k (q - 1) (by omega) (by omega) (by omega) k2
        omega
      · have hd := hlow (by omega)
        refine ar_C _ ((m * 2 ^ (e + K).toNat) / 2 ^ (k + (K - 1074))) _ _ _ _ pv (by omega) (Nat.div_mul_le_self _ _)
/-- what a rung is worth -/
def rV (j : Int) (z : Nat) : Int := if 0 ≤ j then (cv j z : Int) else -(cv (-j) z : Int)
theorem near_gap (s : Bool) (m : Nat) (e : Int) (K : Nat) (hK : K = 32768) (he : -32768 ≤ e) (hi : nearW m e ≠ 9218868437227405312) :
    2 * (sI s * ((m * 2 ^ (e + K).toNat : Nat) : Int)) ≤ rV (sI s * nearW m e) (K - 1074) + rV (sI s * nearW m e + 1) (K - 1074) ∧ rV (sI s * nearW m e - 1) (K - 1074) + rV (sI s * nearW m e) (K - 1074) ≤ 2 * (sI s * ((m * 2 ^ (e + K).toNat : Nat) : Int)) := by
  obtain ⟨a, b⟩ := near_gapN m e K hK he hi
  have hb := nearW_bd m e
  have z0 := cv_zero (K - 1074)
  generalize nearW m e = W at *
  generalize m * 2 ^ (e + K).toNat = T at *
  generalize K - 1074 = z at *
  cases s with
  | false =>
    rw [show sI false = 1 from rfl, Int.one_mul, Int.one_mul]
    unfold rV
    rw [if_pos hb.1, if_pos (by omega)]
    refine ⟨by omega, ?_⟩
    split
    · have := b (by omega); omega
    · rw [show W = 0 by omega, z0]; omega
  | true =>
    rw [show sI true = -1 from rfl, show -1 * W = -W by omega]
    unfold rV
    rw [show -(-W) = W by omega, show -(-W - 1) = W + 1 by omega, show -(-W + 1) = W - 1 by omega, if_neg (show ¬ 0 ≤ -W - 1 by omega)]
    by_cases w0 : W = 0
    · subst w0
      rw [show (-(0 : Int)) = 0 by omega, if_pos (Int.le_refl 0), z0, if_pos (by omega)]
      omega
    · rw [if_neg (show ¬ 0 ≤ -W by omega)]
      have := b (by omega)
      split
      · rw [show -W + 1 = W - 1 by omega]
        have : W - 1 = 0 := by omega
        rw [this, z0] at *
        omega
      · omega
theorem rV_mono (j : Int) (z : Nat) (h : -9218868437227405312 ≤ j) (h' : j < 9218868437227405312) : rV j z < rV (j + 1) z := by
  unfold rV
  have z0 := cv_zero z
  by_cases c : 0 ≤ j
  · rw [if_pos c, if_pos (by omega)]
    have := cv_next j c h' z
    have := Nat.two_pow_pos (cK j + z)
    omega
  · rw [if_neg c]
    have nx := cv_next (-j - 1) (by omega) (by omega) z
    rw [show -j - 1 + 1 = -j by omega] at nx
    have := Nat.two_pow_pos (cK (-j - 1) + z)
    by_cases d : j = -1
    · subst d
      rw [if_pos (by omega)]
      rw [show -1 + 1 = (0 : Int) by omega, z0]
      omega
    · rw [if_neg (by omega), show -(j + 1) = -j - 1 by omega]
      omega
/-- a finite binary64's number goes by its rung -/
theorem from_rung (x : Int) (ux : U x) (hx : finB x = true) (K : Nat) (hK : K = 32768) : vI (fromP x) (-(K : Int)) = rV (rungV x) (K - 1074) := by
  rw [from_val x ux hx K hK]
  have hf : x % 9223372036854775808 < 9218868437227405312 := by unfold finB at hx; simpa using hx
  obtain ⟨u0, u1⟩ := ux
  have e := cell_mod x
  unfold rV rungV sgnB
  by_cases c : 9223372036854775808 ≤ x
  · rw [if_pos c, decide_eq_true c, show sI true = -1 from rfl]
    rw [show x % 9223372036854775808 = x - 9223372036854775808 by omega] at e
    by_cases d : x = 9223372036854775808
    · subst d
      rw [if_pos (by omega), show (9223372036854775808 : Int) - 9223372036854775808 = 0 by omega, cv_zero]
      have := cell_of 0 0 0 (by omega) (by decide) (.inl rfl) (by decide)
      rw [show (9223372036854775808 : Int) - 9223372036854775808 = 0 by omega] at e
      rw [← e.1, this.1, Nat.zero_mul]
      rfl
    · rw [if_neg (by omega), show -(9223372036854775808 - x) = x - 9223372036854775808 by omega]
      unfold cv
      rw [e.1, e.2]
      omega
  · rw [if_neg c, decide_eq_false c, show sI false = 1 from rfl, if_pos (by omega)]
    unfold cv
    omega
theorem up_rung (x : Int) (ux : U x) (hx : finB x = true) : rungV (upV x) = rungV x + 1 ∧ U (upV x) := by
  have hf : x % 9223372036854775808 < 9218868437227405312 := by unfold finB at hx; simpa using hx
  obtain ⟨u0, u1⟩ := ux
  have e : upV x = if x % 9223372036854775808 = 0 then 1 else if 9223372036854775808 ≤ x then x - 1 else x + 1 := by unfold upV; rw [if_neg (by omega)]
  rw [e]
  by_cases d : x % 9223372036854775808 = 0
  · rw [if_pos d]
    refine ⟨?_, by unfold U; omega⟩
    unfold rungV
    split <;> split <;> omega
  · rw [if_neg d]
    by_cases c : 9223372036854775808 ≤ x
    · rw [if_pos c]
      refine ⟨?_, by unfold U; omega⟩
      unfold rungV
      rw [if_pos c]
      split <;> omega
    · rw [if_neg c]
      refine ⟨?_, by unfold U; omega⟩
      unfold rungV
      rw [if_neg c]
      split <;> omega
theorem neg_rung (x : Int) (ux : U x) : rungV (negV x) = - rungV x ∧ U (negV x) ∧ finB (negV x) = finB x := by
  obtain ⟨u0, u1⟩ := ux
  have e : (negV x) % 9223372036854775808 = x % 9223372036854775808 := by unfold negV; omega
  refine ⟨?_, ?_, by unfold finB; rw [e]⟩
  · unfold rungV negV
    by_cases c : 9223372036854775808 ≤ x
    · rw [if_pos c]
      split <;> omega
    · rw [if_neg c]
      split <;> omega
  · unfold negV U; omega
theorem down_rung (x : Int) (ux : U x) (hx : finB x = true) : rungV (downV x) = rungV x - 1 ∧ U (downV x) := by
  obtain ⟨a, b, c⟩ := neg_rung x ux
  obtain ⟨d, f⟩ := up_rung (negV x) b (by rw [c, hx])
  obtain ⟨g, h, _⟩ := neg_rung (upV (negV x)) f
  unfold downV
  exact ⟨by rw [g, d, a]; omega, h⟩
end Go.Proofs.YtognliaoonkmiaaDoor
