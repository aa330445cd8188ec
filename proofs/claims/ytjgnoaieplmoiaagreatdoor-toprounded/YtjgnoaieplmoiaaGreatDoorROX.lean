/- No neighbour is nearer than what a number is rounded to (pure). A binary64's own number is rounded to it; how far what is answered, and its neighbours, lie off (pure). -/
import Derived.Test.YtjgnoaieplmoiaaGreatDoorRM0
import Derived.Test.YtjgnoaieplmoiaaGreatDoorRMp
import Derived.Test.YtjgnoaieplmoiaaGreatDoorRP1
import Derived.Test.YtjgnoaieplmoiaaGreatDoorRNV
import Derived.Test.YtjgnoaieplmoiaaGreatDoorRP0

namespace Go.Proofs.YtjgnoaieplmoiaaGreatDoor
open Go.RowKit

theorem cell_of (V : Int) (k q : Nat) (hV : V = (k : Int) * 4503599627370496 + (q : Int)) (hq : q < 9007199254740992) (hk : k = 0 ∨ 4503599627370496 ≤ q) (hk2 : k ≤ 2045) : cC V = q ∧ cK V = k := by
  unfold cK cC unitV countV expV fracV
  split <;> omega
def cv (V : Int) (z : Nat) : Nat := cC V * 2 ^ (cK V + z)
theorem cv_next (V : Int) (h0 : 0 ≤ V) (h1 : V < 9218868437227405312) (z : Nat) : cv (V + 1) z = cv V z + 2 ^ (cK V + z) := by
  unfold cv
  rw [next_cell V h0 h1 z, Nat.add_mul, Nat.one_mul]
theorem cv_zero (z : Nat) : cv 0 z = 0 := by
  have := cell_of 0 0 0 (by omega) (by decide) (.inl rfl) (by decide)
  unfold cv
  rw [this.1, Nat.zero_mul]
theorem pow_le' (a b z : Nat) (h : a ≤ b) : 2 ^ (a + z) ≤ 2 ^ (b + z) := Nat.pow_le_pow_right (by decide) (by omega)
theorem one_more (q P : Nat) (h : q = 9007199254740992) : 4503599627370496 * (P * 2) = q * P := by subst h; omega
/-- what is answered, in units of 2^-K, and how far the number lies from it -/
theorem near_parts (m : Nat) (e : Int) (K : Nat) (hK : K = 32768) (he : -32768 ≤ e) (h0 : m ≠ 0) (hi : nearW m e ≠ 9218868437227405312) :
    ∃ k q : Nat, nearW m e = (k : Int) * 4503599627370496 + (q : Int) ∧ q ≤ 9007199254740992 ∧ (k = 0 ∨ 4503599627370496 ≤ q) ∧ k ≤ 2045 ∧ cv (nearW m e) (K - 1074) = q * 2 ^ (k + (K - 1074)) ∧ q = hv (m * 2 ^ (e + K).toNat) (k + (K - 1074)) ∧ (k ≠ 0 → 4503599627370496 ≤ (m * 2 ^ (e + K).toNat) / 2 ^ (k + (K - 1074))) ∧ (exactB m e = true ↔ (m * 2 ^ (e + K).toNat) % 2 ^ (k + (K - 1074)) = 0) := by
  have hb := nearW_bd m e
  have ht : tpI m e < 1024 := by
    by_cases q : 1024 ≤ tpI m e
    · exfalso; apply hi; unfold nearW; rw [if_neg h0, if_pos q]
    · omega
  have l1 := ls_low m e
  have l2 := ls_top m e ht
  obtain ⟨k, hk⟩ : ∃ k : Nat, lsI m e = (k : Int) - 1074 := ⟨(lsI m e + 1074).toNat, by omega⟩
  have eW : nearW m e = (k : Int) * 4503599627370496 + (rd2 m (lsI m e - e) : Int) := by
    unfold nearW
    rw [if_neg h0, if_neg (by omega), show lsI m e + 1074 = (k : Int) by omega]
  have eq : rd2 m (lsI m e - e) = hv (m * 2 ^ (e + K).toNat) (k + (K - 1074)) := by
    rw [rd_T m e _ K (by omega) (by omega), hk, show ((k : Int) - 1074 + K).toNat = k + (K - 1074) by omega]
  have fl := M_lt m e
  have up : (up2 m (lsI m e - e)).toNat ≤ 1 := Bool.toNat_le _
  have q1 : rd2 m (lsI m e - e) ≤ 9007199254740992 := by unfold rd2; omega
  have q2 : k = 0 ∨ 4503599627370496 ≤ rd2 m (lsI m e - e) := by
    by_cases q : k = 0
    · exact .inl q
    · right
      have := M_ge m e h0 (by omega)
      unfold rd2
      omega
  have hx : exactB m e = true ↔ (m * 2 ^ (e + K).toNat) % 2 ^ (k + (K - 1074)) = 0 := by
    unfold exactB
    rw [if_neg h0, if_neg (by omega), ls_T m e _ K (by omega) (by omega), hk, show ((k : Int) - 1074 + K).toNat = k + (K - 1074) by omega]
    unfold lostB
    simp
  have hlow : k ≠ 0 → 4503599627370496 ≤ (m * 2 ^ (e + K).toNat) / 2 ^ (k + (K - 1074)) := fun hk0 => by
    have tp := tp_T m e K (by omega) h0
    have h1 : ¬ blen (m * 2 ^ (e + K).toNat) ≤ 52 + (k + (K - 1074)) := by
      unfold lsI at hk
      split at hk <;> omega
    have h2 : ¬ m * 2 ^ (e + K).toNat < 2 ^ (52 + (k + (K - 1074))) := fun q => h1 ((blen_le _ _).2 q)
    rw [Nat.pow_add 2 52, show (2 : Nat) ^ 52 = 4503599627370496 by decide] at h2
    exact (Nat.le_div_iff_mul_le (Nat.two_pow_pos _)).2 (by omega)
  have k2 : k ≤ 2045 := by omega
  obtain ⟨q, hq⟩ : ∃ q : Nat, q = hv (m * 2 ^ (e + K).toNat) (k + (K - 1074)) := ⟨_, rfl⟩
  rw [eq, ← hq] at eW q1 q2
  refine ⟨k, q, eW, q1, q2, k2, ?_, hq, hlow, hx⟩
  by_cases c : q < 9007199254740992
  · have := cell_of (nearW m e) k q eW c q2 k2
    unfold cv
    rw [this.1, this.2]
  · have c' : q = 9007199254740992 := by omega
    by_cases k3 : k ≤ 2044
    · have := cell_of (nearW m e) (k + 1) 4503599627370496 (by rw [eW, c']; omega) (by decide) (.inr (Nat.le_refl _)) (by omega)
      unfold cv
      rw [this.1, this.2, show k + 1 + (K - 1074) = k + (K - 1074) + 1 by omega, Nat.pow_succ]
      exact one_more _ _ c'
    · exfalso; apply hi; rw [eW, c']; omega
theorem ar_A (T q P V : Nat) (h : 2 * T ≤ 2 * (q * P) + P) (hV : P ≤ V) : 2 * T ≤ q * P + (q * P + V) := by omega
theorem ar_B (T q P V W : Nat) (h : 2 * (q * P) ≤ 2 * T + P) (hV : P ≤ V) (e : q * P = W + V) : W + q * P ≤ 2 * T := by omega
theorem ar_C (T c q P V W : Nat) (e : q * P = W + V) (h1 : q ≤ c) (h2 : c * P ≤ T) : W + q * P ≤ 2 * T := by
  have := Nat.mul_le_mul_right P h1
  omega
theorem near_gapN (m : Nat) (e : Int) (K : Nat) (hK : K = 32768) (he : -32768 ≤ e) (hi : nearW m e ≠ 9218868437227405312) :
    2 * (m * 2 ^ (e + K).toNat) ≤ cv (nearW m e) (K - 1074) + cv (nearW m e + 1) (K - 1074) ∧ (1 ≤ nearW m e → cv (nearW m e - 1) (K - 1074) + cv (nearW m e) (K - 1074) ≤ 2 * (m * 2 ^ (e + K).toNat)) := by
  by_cases h0 : m = 0
  · have hW : nearW m e = 0 := by unfold nearW; rw [if_pos h0]
    rw [hW, h0]
    exact ⟨by omega, fun q => by omega⟩
  · have hb := nearW_bd m e
    obtain ⟨k, q, eW, q1, q2, k2, eV, eq, hlow, _⟩ := near_parts m e K hK he h0 hi
    obtain ⟨v1, v2⟩ := hv_half (m * 2 ^ (e + K).toNat) (k + (K - 1074))
    rw [← eq] at v1 v2
    have nx := cv_next (nearW m e) hb.1 (by omega) (K - 1074)
    constructor
    · rw [nx, eV]
      refine ar_A _ _ _ _ v2 ?_
      refine pow_le' _ _ _ ?_
      by_cases c : q < 9007199254740992
      · exact Nat.le_of_eq (cell_of _ k q eW c q2 k2).2.symm
      · have := cell_of (nearW m e) (k + 1) 4503599627370496 (by rw [eW]; omega) (by decide) (.inr (Nat.le_refl _)) (by omega)
        omega
    · intro h1
      have pv := cv_next (nearW m e - 1) (by omega) (by omega) (K - 1074)
      rw [show nearW m e - 1 + 1 = nearW m e by omega, eV] at pv
      rw [eV]
      by_cases c : k = 0 ∨ 4503599627370496 < q
      · refine ar_B _ _ _ _ _ v1 ?_ pv
        refine pow_le' _ _ _ ?_
        have := cell_of (nearW m e - 1) k (q - 1) (by omega) (by omega) (by omega) k2
        omega
      · have hd := hlow (by omega)
        refine ar_C _ ((m * 2 ^ (e + K).toNat) / 2 ^ (k + (K - 1074))) _ _ _ _ pv (by omega) (Nat.div_mul_le_self _ _)
/-- what a rung is worth -/
def rV (j : Int) (z : Nat) : Int := if 0 ≤ j then (cv j z : Int) else -(cv (-j) z : Int)
theorem near_gap (s : Bool) (m : Nat) (e : Int) (K : Nat) (hK : K = 32768) (he : -32768 ≤ e) (hi : nearW m e ≠ 9218868437227405312) :
    2 * (sI s * ((m * 2 ^ (e + K).toNat : Nat) : Int)) ≤ rV (sI s * nearW m e) (K - 1074) + rV (sI s * nearW m e + 1) (K - 1074) ∧ rV (sI s * nearW m e - 1) (K - 1074) + rV (sI s * nearW m e) (K - 1074) ≤ 2 * (sI s * ((m * 2 ^ (e + K).toNat : Nat) : Int)) := by
  obtain ⟨a, b⟩ := near_gapN m e K hK he hi
  have hb := nearW_bd m e
  have z0 := cv_zero (K - 1074)
  generalize nearW m e = W at *
  generalize m * 2 ^ (e + K).toNat = T at *
  generalize K - 1074 = z at *
  cases s with
  | false =>
    rw [show sI false = 1 from rfl, Int.one_mul, Int.one_mul]
    unfold rV
    rw [if_pos hb.1, if_pos (by omega)]
    refine ⟨by omega, ?_⟩
    split
    · have := b (by omega); omega
    · rw [show W = 0 by omega, z0]; omega
  | true =>
    rw [show sI true = -1 from rfl, show -1 * W = -W by omega]
    unfold rV
    rw [show -(-W) = W by omega, show -(-W - 1) = W + 1 by omega, show -(-W + 1) = W - 1 by omega, if_neg (show ¬ 0 ≤ -W - 1 by omega)]
    by_cases w0 : W = 0
    · subst w0
      rw [show (-(0 : Int)) = 0 by omega, if_pos (Int.le_refl 0), z0, if_pos (by omega)]
      omega
    · rw [if_neg (show ¬ 0 ≤ -W by omega)]
      have := b (by omega)
      split
      · rw [show -W + 1 = W - 1 by omega]
        have : W - 1 = 0 := by omega
        rw [this, z0] at *
        omega
      · omega
theorem rV_mono (j : Int) (z : Nat) (h : -9218868437227405312 ≤ j) (h' : j < 9218868437227405312) : rV j z < rV (j + 1) z := by
  unfold rV
  have z0 := cv_zero z
  by_cases c : 0 ≤ j
  · rw [if_pos c, if_pos (by omega)]
    have := cv_next j c h' z
    have := Nat.two_pow_pos (cK j + z)
    omega
  · rw [if_neg c]
    have nx := cv_next (-j - 1) (by omega) (by omega) z
    rw [show -j - 1 + 1 = -j by omega] at nx
    have := Nat.two_pow_pos (cK (-j - 1) + z)
    by_cases d : j = -1
    · subst d
      rw [if_pos (by omega)]
      rw [show -1 + 1 = (0 : Int) by omega, z0]
      omega
    · rw [if_neg (by omega), show -(j + 1) = -j - 1 by omega]
      omega
/-- a finite binary64's number goes by its rung -/
theorem from_rung (x : Int) (ux : U x) (hx : finB x = true) (K : Nat) (hK : K = 32768) : vI (fromP x) (-(K : Int)) = rV (rungV x) (K - 1074) := by
  rw [from_val x ux hx K hK]
  have hf : x % 9223372036854775808 < 9218868437227405312 := by unfold finB at hx; simpa using hx
  obtain ⟨u0, u1⟩ := ux
  have e := cell_mod x
  unfold rV rungV sgnB
  by_cases c : 9223372036854775808 ≤ x
  · rw [if_pos c, decide_eq_true c, show sI true = -1 from rfl]
    rw [show x % 9223372036854775808 = x - 9223372036854775808 by omega] at e
    by_cases d : x = 9223372036854775808
    · subst d
      rw [if_pos (by omega), show (9223372036854775808 : Int) - 9223372036854775808 = 0 by omega, cv_zero]
      have := cell_of 0 0 0 (by omega) (by decide) (.inl rfl) (by decide)
      rw [show (9223372036854775808 : Int) - 9223372036854775808 = 0 by omega] at e
      rw [← e.1, this.1, Nat.zero_mul]
      rfl
    · rw [if_neg (by omega), show -(9223372036854775808 - x) = x - 9223372036854775808 by omega]
      unfold cv
      rw [e.1, e.2]
      omega
  · rw [if_neg c, decide_eq_false c, show sI false = 1 from rfl, if_pos (by omega)]
    unfold cv
    omega
theorem up_rung (x : Int) (ux : U x) (hx : finB x = true) : rungV (upV x) = rungV x + 1 ∧ U (upV x) := by
  have hf : x % 9223372036854775808 < 9218868437227405312 := by unfold finB at hx; simpa using hx
  obtain ⟨u0, u1⟩ := ux
  have e : upV x = if x % 9223372036854775808 = 0 then 1 else if 9223372036854775808 ≤ x then x - 1 else x + 1 := by unfold upV; rw [if_neg (by omega)]
  rw [e]
  by_cases d : x % 9223372036854775808 = 0
  · rw [if_pos d]
    refine ⟨?_, by unfold U; omega⟩
    unfold rungV
    split <;> split <;> omega
  · rw [if_neg d]
    by_cases c : 9223372036854775808 ≤ x
    · rw [if_pos c]
      refine ⟨?_, by unfold U; omega⟩
      unfold rungV
      rw [if_pos c]
      split <;> omega
    · rw [if_neg c]
      refine ⟨?_, by unfold U; omega⟩
      unfold rungV
      rw [if_neg c]
      split <;> omega
theorem neg_rung (x : Int) (ux : U x) : rungV (negV x) = - rungV x ∧ U (negV x) ∧ finB (negV x) = finB x := by
  obtain ⟨u0, u1⟩ := ux
  have e : (negV x) % 9223372036854775808 = x % 9223372036854775808 := by unfold negV; omega
  refine ⟨?_, ?_, by unfold finB; rw [e]⟩
  · unfold rungV negV
    by_cases c : 9223372036854775808 ≤ x
    · rw [if_pos c]
      split <;> omega
    · rw [if_neg c]
      split <;> omega
  · unfold negV U; omega
theorem down_rung (x : Int) (ux : U x) (hx : finB x = true) : rungV (downV x) = rungV x - 1 ∧ U (downV x) := by
  obtain ⟨a, b, c⟩ := neg_rung x ux
  obtain ⟨d, f⟩ := up_rung (negV x) b (by rw [c, hx])
  obtain ⟨g, h, _⟩ := neg_rung (upV (negV x)) f
  unfold downV
  exact ⟨by rw [g, d, a]; omega, h⟩
end Go.Proofs.YtjgnoaieplmoiaaGreatDoor

namespace Go.Proofs.YtjgnoaieplmoiaaGreatDoor
open Go.RowKit

theorem near_exact (m : Nat) (e : Int) (K : Nat) (hK : K = 32768) (he : -32768 ≤ e) (c k : Nat) (hc : c < 9007199254740992) (hk : k = 0 ∨ 4503599627370496 ≤ c) (hk2 : k ≤ 2045) (hT : m * 2 ^ (e + K).toNat = c * 2 ^ (k + (K - 1074))) (h0 : c ≠ 0) :
    nearW m e = (k : Int) * 4503599627370496 + (c : Int) ∧ exactB m e = true ∧ m ≠ 0 := by
  have hp := Nat.two_pow_pos (k + (K - 1074))
  have hm0 : m ≠ 0 := fun q => by
    rw [q, Nat.zero_mul] at hT
    rcases Nat.mul_eq_zero.1 hT.symm with z | z
    · exact h0 z
    · omega
  have tp := tp_T m e K (by omega) hm0
  have up : m * 2 ^ (e + K).toNat < 2 ^ (53 + (k + (K - 1074))) := by
    rw [hT, Nat.pow_add 2 53]
    exact Nat.mul_lt_mul_of_pos_right (by rw [show (2 : Nat) ^ 53 = 9007199254740992 by decide]; exact hc) hp
  have hb := (blen_le _ _).2 up
  have hl : lsI m e = (k : Int) - 1074 ∧ tpI m e < 1024 := by
    unfold lsI
    rcases hk with q | q
    · subst q
      rw [tp]
      split <;> omega
    · have lo : ¬ blen (m * 2 ^ (e + K).toNat) ≤ 52 + (k + (K - 1074)) := fun w => by
        have h2 := (blen_le _ _).1 w
        rw [hT, Nat.pow_add 2 52] at h2
        have h3 : 2 ^ 52 * 2 ^ (k + (K - 1074)) ≤ c * 2 ^ (k + (K - 1074)) := Nat.mul_le_mul_right _ (show 2 ^ 52 ≤ c from by rw [show (2 : Nat) ^ 52 = 4503599627370496 by decide]; omega)
        omega
      rw [tp]
      split <;> omega
  obtain ⟨hl, ht⟩ := hl
  refine ⟨?_, ?_, hm0⟩
  · unfold nearW
    rw [if_neg hm0, if_neg (by omega), hl, rd_T m e _ K (by omega) (by omega), hT, show ((k : Int) - 1074 + K).toNat = k + (K - 1074) by omega, hv_exact]
    omega
  · unfold exactB
    rw [if_neg hm0, if_neg (by omega), hl, ls_T m e _ K (by omega) (by omega), hT, show ((k : Int) - 1074 + K).toNat = k + (K - 1074) by omega]
    unfold lostB
    rw [Nat.mul_mod_left]
    rfl
theorem from_rightO (x : Int) (ux : U x) : rightB (fromP x).2.1 (fromP x).2.2 = true := by
  cases hx : finB x with
  | false => unfold fromP; rw [hx, if_neg (by decide)]; decide +kernel
  | true =>
    obtain ⟨K, hK⟩ : ∃ K : Nat, K = 32768 := ⟨_, rfl⟩
    have hf : x % 9223372036854775808 < 9218868437227405312 := by unfold finB at hx; simpa using hx
    have cf := cell_facts (x % 9223372036854775808) (by omega) hf
    rw [(cell_mod x).1, (cell_mod x).2] at cf
    refine right_val _ (from_can x).1 K hK (by have := (from_can x).2; omega) ?_
    rw [from_val x ux hx K hK]
    have ea : (sI (sgnB x) * ((cC x * 2 ^ (cK x + (K - 1074)) : Nat) : Int)).natAbs = cC x * 2 ^ (cK x + (K - 1074)) := by unfold sI; split <;> omega
    rw [ea]
    have h1 : cC x * 2 ^ (cK x + (K - 1074)) < 2 ^ 53 * 2 ^ (cK x + (K - 1074)) := Nat.mul_lt_mul_of_pos_right (by rw [show (2 : Nat) ^ 53 = 9007199254740992 by decide]; exact cf.1) (Nat.two_pow_pos _)
    rw [← Nat.pow_add] at h1
    exact Nat.lt_of_lt_of_le h1 (Nat.pow_le_pow_right (by decide) (by omega))
/-- what a finite binary64's own number is rounded to -/
theorem near_own (x : Int) (ux : U x) (hx : finB x = true) : erR (fromP x).2.1 (fromP x).2.2 = 0 ∧ flR (fromP x).1 (fromP x).2.1 (fromP x).2.2 = 0 ∧ (nbR (fromP x).1 (fromP x).2.1 (fromP x).2.2 = x ∨ (x = 9223372036854775808 ∧ nbR (fromP x).1 (fromP x).2.1 (fromP x).2.2 = 0)) := by
  obtain ⟨K, hK⟩ : ∃ K : Nat, K = 32768 := ⟨_, rfl⟩
  have hr := from_rightO x ux
  have hv := from_val x ux hx K hK
  have hf : x % 9223372036854775808 < 9218868437227405312 := by unfold finB at hx; simpa using hx
  have cf := cell_facts (x % 9223372036854775808) (by omega) hf
  rw [(cell_mod x).1, (cell_mod x).2] at cf
  have he := (rightB_yes hr).2
  have u := ux
  obtain ⟨u0, u1⟩ := u
  refine ⟨by unfold erR; rw [if_pos hr], ?_⟩
  unfold flR nbR
  rw [if_pos hr, if_pos hr]
  by_cases c0 : cC x = 0
  · have hV : x % 9223372036854775808 = 0 := by
      rcases cf.2.1 with q | q
      · rw [q, c0] at cf; omega
      · omega
    have hz : (fromP x) = (false, 0, 0) := by
      unfold fromP fromD
      rw [if_pos hx, show (countV x).toNat = 0 from c0, form_zero]
    rw [hz]
    have e1 : exactB 0 0 = true := rfl
    have e2 : nearB false 0 0 = 0 := rfl
    rw [e1, e2]
    refine ⟨rfl, ?_⟩
    by_cases q : x = 0
    · exact .inl q.symm
    · exact .inr ⟨by omega, rfl⟩
  · generalize hP : fromP x = P at *
    have h2 : P.1 = sgnB x ∧ P.2.1 * 2 ^ (P.2.2 + K).toNat = cC x * 2 ^ (cK x + (K - 1074)) := by
      have pos : 0 < cC x * 2 ^ (cK x + (K - 1074)) := Nat.mul_pos (by omega) (Nat.two_pow_pos _)
      cases hs : sgnB x with
      | false =>
        rw [hs, show sI false = 1 from rfl, Int.one_mul] at hv
        obtain ⟨a, b⟩ := val_pos P _ _ pos hv
        exact ⟨a, by rw [← b, show P.2.2 - -(K : Int) = P.2.2 + K by omega]⟩
      | true =>
        rw [hs, show sI true = -1 from rfl, Int.neg_one_mul] at hv
        obtain ⟨a, b⟩ := val_neg P _ _ pos hv
        exact ⟨a, by rw [← b, show P.2.2 - -(K : Int) = P.2.2 + K by omega]⟩
    obtain ⟨a, b⟩ := h2
    obtain ⟨n1, n2, n3⟩ := near_exact P.2.1 P.2.2 K hK he.1 (cC x) (cK x) cf.1 cf.2.1 cf.2.2.1 b c0
    rw [n2, if_pos rfl]
    refine ⟨rfl, .inl ?_⟩
    unfold nearB
    rw [a, n1, ← cf.2.2.2]
    unfold sgnB negV
    by_cases q : 9223372036854775808 ≤ x
    · rw [decide_eq_true q, Bool.true_and, if_pos (decide_eq_true n3)]; omega
    · rw [decide_eq_false q, Bool.false_and, if_neg (by decide)]; omega
/-- how far two numbers lie apart, as the statement reckons it -/
def farD (y d : Bool × Nat × Int) : Bool × Nat × Int := absD (sumD y (negD d))
theorem far_val (y d : Bool × Nat × Int) (K : Nat) (hK : K = 32768) (hy : -32768 ≤ y.2.2) (hd : -32768 ≤ d.2.2) : -32768 ≤ (farD y d).2.2 ∧ (farD y d).2.1 * 2 ^ ((farD y d).2.2 + K).toNat = (vI y (-(K : Int)) - vI d (-(K : Int))).natAbs := by
  have hn : (negD d).2.2 = d.2.2 := rfl
  have hl := sum_low y (negD d) (-32768) (by decide) hy (by rw [hn]; exact hd)
  have hs := vI_sum y (negD d) (-(K : Int)) (by omega) (by rw [hn]; omega)
  rw [vI_neg] at hs
  unfold farD
  refine ⟨hl, ?_⟩
  rw [show vI y (-(K : Int)) - vI d (-(K : Int)) = vI (sumD y (negD d)) (-(K : Int)) by rw [hs]; omega]
  generalize sumD y (negD d) = S at *
  unfold vI absD sI
  simp only [show S.2.2 - -(K : Int) = S.2.2 + K by omega]
  split <;> omega
theorem T_zeroQ (m z : Nat) : m * 2 ^ z = 0 ↔ m = 0 := by
  have := Nat.two_pow_pos z
  constructor
  · intro h
    rcases Nat.mul_eq_zero.1 h with k | k
    · exact k
    · omega
  · intro h
    rw [h, Nat.zero_mul]
theorem far_zero (y d : Bool × Nat × Int) (K : Nat) (hK : K = 32768) (hy : -32768 ≤ y.2.2) (hd : -32768 ≤ d.2.2) : (farD y d).2.1 = 0 ↔ vI y (-(K : Int)) = vI d (-(K : Int)) := by
  have h := (far_val y d K hK hy hd).2
  have z := T_zeroQ (farD y d).2.1 ((farD y d).2.2 + K).toNat
  rw [h] at z
  omega
theorem near_abs (Y N D : Int) (h : (Y < N ∧ 2 * D ≤ Y + N) ∨ (N < Y ∧ N + Y ≤ 2 * D)) : (Y - D).natAbs ≤ (N - D).natAbs := by omega
theorem numU (s : Bool) (m : Nat) (e : Int) : U (nearB s m e) := nearB_U s m e
theorem class_inf (x : Int) (ux : U x) (hn : numB x = true) : classV x = 4 ↔ finB x = false := by
  obtain ⟨u0, u1⟩ := ux
  have h : x % 9223372036854775808 ≤ 9218868437227405312 := by unfold numB at hn; simpa using hn
  unfold finB classV expV fracV
  rw [decide_eq_false_iff_not]
  split
  · split <;> omega
  · split
    · omega
    · split
      · omega
      · omega
theorem rung_num (x : Int) (ux : U x) (h : -9218868437227405312 ≤ rungV x ∧ rungV x ≤ 9218868437227405312) : numB x = true ∧ (finB x = true ↔ rungV x ≠ -9218868437227405312 ∧ rungV x ≠ 9218868437227405312) := by
  obtain ⟨u0, u1⟩ := ux
  unfold rungV at h ⊢
  unfold numB finB
  simp only [decide_eq_true_eq]
  split at h
  · rename_i c
    rw [if_pos c]
    omega
  · rename_i c
    rw [if_neg c]
    omega
/-- what RoundOnce asks of a number that is rounded to a finite one -/
theorem once_off (s : Bool) (m : Nat) (e : Int) (hr : rightB m e = true) (hf : finB (nearB s m e) = true) (z : Int) (hz : z = upV (nearB s m e) ∨ z = downV (nearB s m e)) : U z ∧ (classV z ≠ 4 → finB z = true ∧ cmpD (farD (fromP (nearB s m e)) (formD s m e)) (farD (fromP z) (formD s m e)) ≤ 0) := by
  obtain ⟨K, hK⟩ : ∃ K : Nat, K = 32768 := ⟨_, rfl⟩
  have uR := numU s m e
  have he := (rightB_yes hr).2
  have jn := (near_num s m e).2
  have bd := nearW_bd m e
  have rn := rung_num _ uR (by rw [jn]; unfold sI; split <;> omega)
  have hj := rn.2.1 hf
  rw [jn] at hj
  have hi : nearW m e ≠ 9218868437227405312 := fun q => by rw [q] at hj; unfold sI at hj; split at hj <;> omega
  obtain ⟨g1, g2⟩ := near_gap s m e K hK he.1 hi
  have jb : -9218868437227405312 < sI s * nearW m e ∧ sI s * nearW m e < 9218868437227405312 := by unfold sI; split <;> omega
  have mo1 := rV_mono (sI s * nearW m e) (K - 1074) (by omega) (by omega)
  have mo2 := rV_mono (sI s * nearW m e - 1) (K - 1074) (by omega) (by omega)
  rw [show sI s * nearW m e - 1 + 1 = sI s * nearW m e by omega] at mo2
  have eY := from_rung _ uR hf K hK
  rw [jn] at eY
  have eD : vI (formD s m e) (-(K : Int)) = sI s * ((m * 2 ^ (e + K).toNat : Nat) : Int) := by rw [vI_form _ _ _ _ (by omega), show e - -(K : Int) = e + K by omega]
  have hz2 : U z ∧ (rungV z = sI s * nearW m e + 1 ∨ rungV z = sI s * nearW m e - 1) := by
    rcases hz with q | q
    · obtain ⟨a, b⟩ := up_rung _ uR hf
      rw [q]; exact ⟨b, .inl (by rw [a, jn])⟩
    · obtain ⟨a, b⟩ := down_rung _ uR hf
      rw [q]; exact ⟨b, .inr (by rw [a, jn])⟩
  obtain ⟨uz, rz⟩ := hz2
  refine ⟨uz, fun hc => ?_⟩
  have nz := rung_num z uz (by omega)
  have fz : finB z = true := by
    cases q : finB z with
    | true => rfl
    | false => exact absurd ((class_inf z uz nz.1).2 q) hc
  refine ⟨fz, ?_⟩
  have eZ := from_rung z uz fz K hK
  have ly : -32768 ≤ (fromP (nearB s m e)).2.2 := by have := (from_can (nearB s m e)).2; omega
  have lz : -32768 ≤ (fromP z).2.2 := by have := (from_can z).2; omega
  have ld : -32768 ≤ (formD s m e).2.2 := form_lo _ _ _ _ (by omega) (by decide)
  obtain ⟨a1, a2⟩ := far_val _ _ K hK ly ld
  obtain ⟨b1, b2⟩ := far_val _ _ K hK lz ld
  have key : (vI (fromP (nearB s m e)) (-(K : Int)) - vI (formD s m e) (-(K : Int))).natAbs ≤ (vI (fromP z) (-(K : Int)) - vI (formD s m e) (-(K : Int))).natAbs := by
    refine near_abs _ _ _ ?_
    rw [eY, eZ, eD]
    rcases rz with q | q
    · rw [q]; exact .inl ⟨mo1, g1⟩
    · rw [q]; exact .inr ⟨mo2, g2⟩
  rw [vI_cmp _ _ K (by omega) (by omega), cmp_le]
  have f1 : ∀ S : Bool × Nat × Int, vI (absD S) (-(K : Int)) = (((absD S).2.1 * 2 ^ ((absD S).2.2 + K).toNat : Nat) : Int) := fun S => by
    unfold vI absD
    rw [show S.2.2 - -(K : Int) = S.2.2 + K by omega, show sI false = 1 from rfl, Int.one_mul]
  have f2 := f1 (sumD (fromP (nearB s m e)) (negD (formD s m e)))
  have f3 := f1 (sumD (fromP z) (negD (formD s m e)))
  unfold farD at a2 b2 ⊢
  rw [f2, f3, a2, b2]
  exact Int.ofNat_le.2 key
theorem once_flag (s : Bool) (m : Nat) (e : Int) (hr : rightB m e = true) (hf : finB (nearB s m e) = true) : exactB m e = decide ((farD (fromP (nearB s m e)) (formD s m e)).2.1 = 0) := by
  obtain ⟨K, hK⟩ : ∃ K : Nat, K = 32768 := ⟨_, rfl⟩
  have uR := numU s m e
  have he := (rightB_yes hr).2
  have jn := (near_num s m e).2
  have bd := nearW_bd m e
  have rn := rung_num _ uR (by rw [jn]; unfold sI; split <;> omega)
  have hj := rn.2.1 hf
  rw [jn] at hj
  have hi : nearW m e ≠ 9218868437227405312 := fun q => by rw [q] at hj; unfold sI at hj; split at hj <;> omega
  have eY := from_rung _ uR hf K hK
  rw [jn] at eY
  have eD : vI (formD s m e) (-(K : Int)) = sI s * ((m * 2 ^ (e + K).toNat : Nat) : Int) := by rw [vI_form _ _ _ _ (by omega), show e - -(K : Int) = e + K by omega]
  have ly : -32768 ≤ (fromP (nearB s m e)).2.2 := by have := (from_can (nearB s m e)).2; omega
  have ld : -32768 ≤ (formD s m e).2.2 := form_lo _ _ _ _ (by omega) (by decide)
  have fz := far_zero _ _ K hK ly ld
  rw [eY, eD] at fz
  have eR : rV (sI s * nearW m e) (K - 1074) = sI s * ((cv (nearW m e) (K - 1074) : Nat) : Int) := by
    cases s with
    | false =>
      show rV (1 * nearW m e) _ = 1 * _
      rw [Int.one_mul, Int.one_mul]
      unfold rV
      rw [if_pos bd.1]
    | true =>
      show rV (-1 * nearW m e) _ = -1 * _
      rw [Int.neg_one_mul, Int.neg_one_mul]
      unfold rV
      by_cases q : nearW m e = 0
      · rw [q, if_pos (by decide), show -(0 : Int) = 0 from rfl, cv_zero]; rfl
      · rw [if_neg (by omega), Int.neg_neg]
  rw [eR] at fz
  have inj : ∀ A B : Nat, (sI s * (A : Int) = sI s * (B : Int)) ↔ A = B := fun A B => by unfold sI; split <;> omega
  rw [inj] at fz
  rw [Bool.eq_iff_iff, decide_eq_true_eq, fz]
  by_cases h0 : m = 0
  · have e1 : exactB m e = true := by unfold exactB; rw [if_pos h0]
    have e2 : nearW m e = 0 := by unfold nearW; rw [if_pos h0]
    rw [e1, e2, cv_zero, h0, Nat.zero_mul]
    exact ⟨fun _ => rfl, fun _ => rfl⟩
  · obtain ⟨k, q, _, _, _, _, eV, eq, _, hx⟩ := near_parts m e K hK he.1 h0 hi
    rw [hx, eV]
    constructor
    · intro h
      obtain ⟨c, hc⟩ := Nat.dvd_of_mod_eq_zero h
      rw [Nat.mul_comm (2 ^ (k + (K - 1074))) c] at hc
      rw [eq, hc, hv_exact]
    · intro h
      rw [← h, Nat.mul_mod_left]
end Go.Proofs.YtjgnoaieplmoiaaGreatDoor
