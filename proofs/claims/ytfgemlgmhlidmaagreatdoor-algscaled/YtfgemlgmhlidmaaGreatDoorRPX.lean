/- Round the points of change: what lies in a binary64's cell is rounded to its lower or its upper end (pure). The point of change above a binary64, and what lies just beside it (pure). No neighbour is nearer than what a number is rounded to (pure). A binary64's own number is rounded to it; how far what is answered, and its neighbours, lie off (pure). -/
import Derived.Test.YtfgemlgmhlidmaaGreatDoorAPY
import Derived.Test.YtfgemlgmhlidmaaGreatDoorRNV
import Derived.Test.YtfgemlgmhlidmaaGreatDoorTMQ
import Derived.Test.YtfgemlgmhlidmaaGreatDoorRD13
import Derived.Test.YtfgemlgmhlidmaaGreatDoorTMS

namespace Go.Proofs.YtfgemlgmhlidmaaGreatDoor
open Go.RowKit

theorem val_pos (P : Bool × Nat × Int) (E : Int) (T : Nat) (h0 : 0 < T) (h : vI P E = (T : Int)) : P.1 = false ∧ P.2.1 * 2 ^ (P.2.2 - E).toNat = T := by
 unfold vI sI at h
 cases hs : P.1 with
 | true => rw [hs, if_pos rfl] at h; omega
 | false => rw [hs, if_neg (by decide)] at h; exact ⟨rfl, by omega⟩
theorem val_neg (P : Bool × Nat × Int) (E : Int) (T : Nat) (h0 : 0 < T) (h : vI P E = -(T : Int)) : P.1 = true ∧ P.2.1 * 2 ^ (P.2.2 - E).toNat = T := by
 unfold vI sI at h
 cases hs : P.1 with
 | true => rw [hs, if_pos rfl] at h; exact ⟨rfl, by omega⟩
 | false => rw [hs, if_neg (by decide)] at h; omega
def cK (V : Int) : Nat := (unitV V + 1074).toNat
def cC (V : Int) : Nat := (countV V).toNat
theorem cell_facts (V : Int) (h0 : 0 ≤ V) (h1 : V < 9218868437227405312) : cC V < 9007199254740992 ∧ (cK V = 0 ∨ 4503599627370496 ≤ cC V) ∧ cK V ≤ 2045 ∧ V = (cK V : Int) * 4503599627370496 + (cC V : Int) := by
 unfold cK cC unitV countV expV fracV
 split <;> omega
theorem cell_mod (x : Int) : cC (x % 9223372036854775808) = cC x ∧ cK (x % 9223372036854775808) = cK x := by
 have e1 : expV (x % 9223372036854775808) = expV x := by unfold expV; omega
 have e2 : fracV (x % 9223372036854775808) = fracV x := by unfold fracV; omega
 unfold cC cK countV unitV
 rw [e1, e2]
 exact ⟨rfl, rfl⟩
theorem from_val (x : Int) (_ux : U x) (hx : finB x = true) (K : Nat) (hK : K = 32768) : vI (fromP x) (-(K : Int)) = sI (sgnB x) * ((cC x * 2 ^ (cK x + (K - 1074)) : Nat) : Int) := by
 unfold fromP
 rw [if_pos hx]
 unfold fromD
 have hu : -1074 ≤ unitV x := by unfold unitV expV; split <;> omega
 rw [vI_form _ _ _ _ (by omega)]
 unfold cC cK
 rw [show (unitV x - -(K : Int)).toNat = (unitV x + 1074).toNat + (K - 1074) by omega]
theorem from_can (x : Int) : CanD (fromP x) ∧ -1074 ≤ (fromP x).2.2 := by
 unfold fromP
 split
 ·refine ⟨form_can _ _ _, form_lo _ _ _ _ ?_ (by decide)⟩
  unfold unitV expV; split <;> omega
 ·exact ⟨.inl rfl, by decide⟩
theorem right_val (P : Bool × Nat × Int) (cP : CanD P) (K : Nat) (hK : K = 32768) (h1 : -4000 ≤ P.2.2) (h2 : (vI P (-(K : Int))).natAbs < 2 ^ (K + 2000)) : rightB P.2.1 P.2.2 = true := by
 have key : blen P.2.1 ≤ 65536 ∧ P.2.2 ≤ 32768 := by
  rcases cP with q | q
  ·rw [q]; exact ⟨by rw [blen_zero]; decide, by decide⟩
  ·have hm : P.2.1 ≠ 0 := by omega
   have hv : (vI P (-(K : Int))).natAbs = P.2.1 * 2 ^ (P.2.2 + K).toNat := by
    unfold vI sI
    rw [Int.natAbs_mul, show (P.2.2 - -(K : Int)).toNat = (P.2.2 + K).toNat by omega]
    rw [Int.natAbs_natCast]
    split <;> simp
   rw [hv] at h2
   have hb := (blen_le _ _).2 h2
   rw [blen_mul _ _ hm] at hb
   omega
 unfold rightB inB
 rw [(great_not _).2 key.1, decide_eq_true ⟨by omega, key.2⟩]
 rfl
theorem cell_of (V : Int) (k q : Nat) (hV : V = (k : Int) * 4503599627370496 + (q : Int)) (hq : q < 9007199254740992) (hk : k = 0 ∨ 4503599627370496 ≤ q) (hk2 : k ≤ 2045) : cC V = q ∧ cK V = k := by
 unfold cK cC unitV countV expV fracV
 split <;> omega
def cv (V : Int) (z : Nat) : Nat := cC V * 2 ^ (cK V + z)
theorem cv_zero (z : Nat) : cv 0 z = 0 := by
 have := cell_of 0 0 0 (by omega) (by decide) (.inl rfl) (by decide)
 unfold cv
 rw [this.1, Nat.zero_mul]
theorem one_more (q P : Nat) (h : q = 9007199254740992) : 4503599627370496 * (P * 2) = q * P := by subst h; omega
theorem near_parts (m : Nat) (e : Int) (K : Nat) (hK : K = 32768) (he : -32768 ≤ e) (h0 : m ≠ 0) (hi : nearW m e ≠ 9218868437227405312) :
  ∃ k q : Nat, nearW m e = (k : Int) * 4503599627370496 + (q : Int) ∧ q ≤ 9007199254740992 ∧ (k = 0 ∨ 4503599627370496 ≤ q) ∧ k ≤ 2045 ∧ cv (nearW m e) (K - 1074) = q * 2 ^ (k + (K - 1074)) ∧ q = hv (m * 2 ^ (e + K).toNat) (k + (K - 1074)) ∧ (k ≠ 0 → 4503599627370496 ≤ (m * 2 ^ (e + K).toNat) / 2 ^ (k + (K - 1074))) ∧ (exactB m e = true ↔ (m * 2 ^ (e + K).toNat) % 2 ^ (k + (K - 1074)) = 0) := by
 have hb := nearW_bd m e
 have ht : tpI m e < 1024 := by
  by_cases q : 1024 ≤ tpI m e
  ·exfalso; apply hi; unfold nearW; rw [if_neg h0, if_pos q]
  ·omega
 have l1 := ls_low m e
 have l2 := ls_top m e ht
 obtain ⟨k, hk⟩ : ∃ k : Nat, lsI m e = (k : Int) - 1074 := ⟨(lsI m e + 1074).toNat, by omega⟩
 have eW : nearW m e = (k : Int) * 4503599627370496 + (rd2 m (lsI m e - e) : Int) := by
  unfold nearW
  rw [if_neg h0, if_neg (by omega), show lsI m e + 1074 = (k : Int) by omega]
 have eq : rd2 m (lsI m e - e) = hv (m * 2 ^ (e + K).toNat) (k + (K - 1074)) := by
  rw [rd_T m e _ K (by omega) (by omega), hk, show ((k : Int) - 1074 + K).toNat = k + (K - 1074) by omega]
 have fl := M_lt m e
 have up : (up2 m (lsI m e - e)).toNat ≤ 1 := Bool.toNat_le _
 have q1 : rd2 m (lsI m e - e) ≤ 9007199254740992 := by unfold rd2; omega
 have q2 : k = 0 ∨ 4503599627370496 ≤ rd2 m (lsI m e - e) := by
  by_cases q : k = 0
  ·exact .inl q
  ·right
   have := M_ge m e h0 (by omega)
   unfold rd2
   omega
 have hx : exactB m e = true ↔ (m * 2 ^ (e + K).toNat) % 2 ^ (k + (K - 1074)) = 0 := by
  unfold exactB
  rw [if_neg h0, if_neg (by omega), ls_T m e _ K (by omega) (by omega), hk, show ((k : Int) - 1074 + K).toNat = k + (K - 1074) by omega]
  unfold lostB
  simp
 have hlow : k ≠ 0 → 4503599627370496 ≤ (m * 2 ^ (e + K).toNat) / 2 ^ (k + (K - 1074)) := fun hk0 => by
  have tp := tp_T m e K (by omega) h0
  have h1 : ¬ blen (m * 2 ^ (e + K).toNat) ≤ 52 + (k + (K - 1074)) := by
   unfold lsI at hk
   split at hk <;> omega
  have h2 : ¬ m * 2 ^ (e + K).toNat < 2 ^ (52 + (k + (K - 1074))) := fun q => h1 ((blen_le _ _).2 q)
  rw [Nat.pow_add 2 52, show (2 : Nat) ^ 52 = 4503599627370496 by decide] at h2
  exact (Nat.le_div_iff_mul_le (Nat.two_pow_pos _)).2 (by omega)
 have k2 : k ≤ 2045 := by omega
 obtain ⟨q, hq⟩ : ∃ q : Nat, q = hv (m * 2 ^ (e + K).toNat) (k + (K - 1074)) := ⟨_, rfl⟩
 rw [eq, ← hq] at eW q1 q2
 refine ⟨k, q, eW, q1, q2, k2, ?_, hq, hlow, hx⟩
 by_cases c : q < 9007199254740992
 ·have := cell_of (nearW m e) k q eW c q2 k2
  unfold cv
  rw [this.1, this.2]
 ·have c' : q = 9007199254740992 := by omega
  by_cases k3 : k ≤ 2044
  ·have := cell_of (nearW m e) (k + 1) 4503599627370496 (by rw [eW, c']; omega) (by decide) (.inr (Nat.le_refl _)) (by omega)
   unfold cv
   rw [this.1, this.2, show k + 1 + (K - 1074) = k + (K - 1074) + 1 by omega, Nat.pow_succ]
   exact one_more _ _ c'
  ·exfalso; apply hi; rw [eW, c']; omega
def rV (j : Int) (z : Nat) : Int := if 0 ≤ j then (cv j z : Int) else -(cv (-j) z : Int)
theorem from_rung (x : Int) (ux : U x) (hx : finB x = true) (K : Nat) (hK : K = 32768) : vI (fromP x) (-(K : Int)) = rV (rungV x) (K - 1074) := by
 rw [from_val x ux hx K hK]
 have hf : x % 9223372036854775808 < 9218868437227405312 := by unfold finB at hx; simpa using hx
 obtain ⟨u0, u1⟩ := ux
 have e := cell_mod x
 unfold rV rungV sgnB
 by_cases c : 9223372036854775808 ≤ x
 ·rw [if_pos c, decide_eq_true c, show sI true = -1 from rfl]
  rw [show x % 9223372036854775808 = x - 9223372036854775808 by omega] at e
  by_cases d : x = 9223372036854775808
  ·subst d
   rw [if_pos (by omega), show (9223372036854775808 : Int) - 9223372036854775808 = 0 by omega, cv_zero]
   have := cell_of 0 0 0 (by omega) (by decide) (.inl rfl) (by decide)
   rw [show (9223372036854775808 : Int) - 9223372036854775808 = 0 by omega] at e
   rw [← e.1, this.1, Nat.zero_mul]
   rfl
  ·rw [if_neg (by omega), show -(9223372036854775808 - x) = x - 9223372036854775808 by omega]
   unfold cv
   rw [e.1, e.2]
   omega
 ·rw [if_neg c, decide_eq_false c, show sI false = 1 from rfl, if_pos (by omega)]
  unfold cv
  omega
theorem near_exact (m : Nat) (e : Int) (K : Nat) (hK : K = 32768) (he : -32768 ≤ e) (c k : Nat) (hc : c < 9007199254740992) (hk : k = 0 ∨ 4503599627370496 ≤ c) (hk2 : k ≤ 2045) (hT : m * 2 ^ (e + K).toNat = c * 2 ^ (k + (K - 1074))) (h0 : c ≠ 0) :
  nearW m e = (k : Int) * 4503599627370496 + (c : Int) ∧ exactB m e = true ∧ m ≠ 0 := by
 have hp := Nat.two_pow_pos (k + (K - 1074))
 have hm0 : m ≠ 0 := fun q => by
  rw [q, Nat.zero_mul] at hT
  rcases Nat.mul_eq_zero.1 hT.symm with z | z
  ·exact h0 z
  ·omega
 have tp := tp_T m e K (by omega) hm0
 have up : m * 2 ^ (e + K).toNat < 2 ^ (53 + (k + (K - 1074))) := by
  rw [hT, Nat.pow_add 2 53]
  exact Nat.mul_lt_mul_of_pos_right (by rw [show (2 : Nat) ^ 53 = 9007199254740992 by decide]; exact hc) hp
 have hb := (blen_le _ _).2 up
 have hl : lsI m e = (k : Int) - 1074 ∧ tpI m e < 1024 := by
  unfold lsI
  rcases hk with q | q
  ·subst q
   rw [tp]
   split <;> omega
  ·have lo : ¬ blen (m * 2 ^ (e + K).toNat) ≤ 52 + (k + (K - 1074)) := fun w => by
    have h2 := (blen_le _ _).1 w
    rw [hT, Nat.pow_add 2 52] at h2
    have h3 : 2 ^ 52 * 2 ^ (k + (K - 1074)) ≤ c * 2 ^ (k + (K - 1074)) := Nat.mul_le_mul_right _ (show 2 ^ 52 ≤ c from by rw [show (2 : Nat) ^ 52 = 4503599627370496 by decide]; omega)
    omega
   rw [tp]
   split <;> omega
 obtain ⟨hl, ht⟩ := hl
 refine ⟨?_, ?_, hm0⟩
 ·unfold nearW
  rw [if_neg hm0, if_neg (by omega), hl, rd_T m e _ K (by omega) (by omega), hT, show ((k : Int) - 1074 + K).toNat = k + (K - 1074) by omega, hv_exact]
  omega
 ·unfold exactB
  rw [if_neg hm0, if_neg (by omega), hl, ls_T m e _ K (by omega) (by omega), hT, show ((k : Int) - 1074 + K).toNat = k + (K - 1074) by omega]
  unfold lostB
  rw [Nat.mul_mod_left]
  rfl
theorem from_rightO (x : Int) (ux : U x) : rightB (fromP x).2.1 (fromP x).2.2 = true := by
 cases hx : finB x with
 | false => unfold fromP; rw [hx, if_neg (by decide)]; decide +kernel
 | true =>
  obtain ⟨K, hK⟩ : ∃ K : Nat, K = 32768 := ⟨_, rfl⟩
  have hf : x % 9223372036854775808 < 9218868437227405312 := by unfold finB at hx; simpa using hx
  have cf := cell_facts (x % 9223372036854775808) (by omega) hf
  rw [(cell_mod x).1, (cell_mod x).2] at cf
  refine right_val _ (from_can x).1 K hK (by have := (from_can x).2; omega) ?_
  rw [from_val x ux hx K hK]
  have ea : (sI (sgnB x) * ((cC x * 2 ^ (cK x + (K - 1074)) : Nat) : Int)).natAbs = cC x * 2 ^ (cK x + (K - 1074)) := by unfold sI; split <;> omega
  rw [ea]
  have h1 : cC x * 2 ^ (cK x + (K - 1074)) < 2 ^ 53 * 2 ^ (cK x + (K - 1074)) := Nat.mul_lt_mul_of_pos_right (by rw [show (2 : Nat) ^ 53 = 9007199254740992 by decide]; exact cf.1) (Nat.two_pow_pos _)
  rw [← Nat.pow_add] at h1
  exact Nat.lt_of_lt_of_le h1 (Nat.pow_le_pow_right (by decide) (by omega))
theorem near_own (x : Int) (ux : U x) (hx : finB x = true) : erR (fromP x).2.1 (fromP x).2.2 = 0 ∧ flR (fromP x).1 (fromP x).2.1 (fromP x).2.2 = 0 ∧ (nbR (fromP x).1 (fromP x).2.1 (fromP x).2.2 = x ∨ (x = 9223372036854775808 ∧ nbR (fromP x).1 (fromP x).2.1 (fromP x).2.2 = 0)) := by
 obtain ⟨K, hK⟩ : ∃ K : Nat, K = 32768 := ⟨_, rfl⟩
 have hr := from_rightO x ux
 have hv := from_val x ux hx K hK
 have hf : x % 9223372036854775808 < 9218868437227405312 := by unfold finB at hx; simpa using hx
 have cf := cell_facts (x % 9223372036854775808) (by omega) hf
 rw [(cell_mod x).1, (cell_mod x).2] at cf
 have he := (rightB_yes hr).2
 have u := ux
 obtain ⟨u0, u1⟩ := u
 refine ⟨by unfold erR; rw [if_pos hr], ?_⟩
 unfold flR nbR
 rw [if_pos hr, if_pos hr]
 by_cases c0 : cC x = 0
 ·have hV : x % 9223372036854775808 = 0 := by
   rcases cf.2.1 with q | q
   ·rw [q, c0] at cf; omega
   ·omega
  have hz : (fromP x) = (false, 0, 0) := by
   unfold fromP fromD
   rw [if_pos hx, show (countV x).toNat = 0 from c0, form_zero]
  rw [hz]
  have e1 : exactB 0 0 = true := rfl
  have e2 : nearB false 0 0 = 0 := rfl
  rw [e1, e2]
  refine ⟨rfl, ?_⟩
  by_cases q : x = 0
  ·exact .inl q.symm
  ·exact .inr ⟨by omega, rfl⟩
 ·generalize hP : fromP x = P at *
  have h2 : P.1 = sgnB x ∧ P.2.1 * 2 ^ (P.2.2 + K).toNat = cC x * 2 ^ (cK x + (K - 1074)) := by
   have pos : 0 < cC x * 2 ^ (cK x + (K - 1074)) := Nat.mul_pos (by omega) (Nat.two_pow_pos _)
   cases hs : sgnB x with
   | false =>
    rw [hs, show sI false = 1 from rfl, Int.one_mul] at hv
    obtain ⟨a, b⟩ := val_pos P _ _ pos hv
    exact ⟨a, by rw [← b, show P.2.2 - -(K : Int) = P.2.2 + K by omega]⟩
   | true =>
    rw [hs, show sI true = -1 from rfl, Int.neg_one_mul] at hv
    obtain ⟨a, b⟩ := val_neg P _ _ pos hv
    exact ⟨a, by rw [← b, show P.2.2 - -(K : Int) = P.2.2 + K by omega]⟩
  obtain ⟨a, b⟩ := h2
  obtain ⟨n1, n2, n3⟩ := near_exact P.2.1 P.2.2 K hK he.1 (cC x) (cK x) cf.1 cf.2.1 cf.2.2.1 b c0
  rw [n2, if_pos rfl]
  refine ⟨rfl, .inl ?_⟩
  unfold nearB
  rw [a, n1, ← cf.2.2.2]
  unfold sgnB negV
  by_cases q : 9223372036854775808 ≤ x
  ·rw [decide_eq_true q, Bool.true_and, if_pos (decide_eq_true n3)]; omega
  ·rw [decide_eq_false q, Bool.false_and, if_neg (by decide)]; omega
def farD (y d : Bool × Nat × Int) : Bool × Nat × Int := absD (sumD y (negD d))
theorem far_val (y d : Bool × Nat × Int) (K : Nat) (hK : K = 32768) (hy : -32768 ≤ y.2.2) (hd : -32768 ≤ d.2.2) : -32768 ≤ (farD y d).2.2 ∧ (farD y d).2.1 * 2 ^ ((farD y d).2.2 + K).toNat = (vI y (-(K : Int)) - vI d (-(K : Int))).natAbs := by
 have hn : (negD d).2.2 = d.2.2 := rfl
 have hl := sum_low y (negD d) (-32768) (by decide) hy (by rw [hn]; exact hd)
 have hs := vI_sum y (negD d) (-(K : Int)) (by omega) (by rw [hn]; omega)
 rw [vI_neg] at hs
 unfold farD
 refine ⟨hl, ?_⟩
 rw [show vI y (-(K : Int)) - vI d (-(K : Int)) = vI (sumD y (negD d)) (-(K : Int)) by rw [hs]; omega]
 generalize sumD y (negD d) = S at *
 unfold vI absD sI
 simp only [show S.2.2 - -(K : Int) = S.2.2 + K by omega]
 split <;> omega
theorem T_zeroQ (m z : Nat) : m * 2 ^ z = 0 ↔ m = 0 := by
 have := Nat.two_pow_pos z
 constructor
 ·intro h
  rcases Nat.mul_eq_zero.1 h with k | k
  ·exact k
  ·omega
 ·intro h
  rw [h, Nat.zero_mul]
theorem far_zero (y d : Bool × Nat × Int) (K : Nat) (hK : K = 32768) (hy : -32768 ≤ y.2.2) (hd : -32768 ≤ d.2.2) : (farD y d).2.1 = 0 ↔ vI y (-(K : Int)) = vI d (-(K : Int)) := by
 have h := (far_val y d K hK hy hd).2
 have z := T_zeroQ (farD y d).2.1 ((farD y d).2.2 + K).toNat
 rw [h] at z
 omega
theorem numU (s : Bool) (m : Nat) (e : Int) : U (nearB s m e) := nearB_U s m e
theorem rung_num (x : Int) (ux : U x) (h : -9218868437227405312 ≤ rungV x ∧ rungV x ≤ 9218868437227405312) : numB x = true ∧ (finB x = true ↔ rungV x ≠ -9218868437227405312 ∧ rungV x ≠ 9218868437227405312) := by
 obtain ⟨u0, u1⟩ := ux
 unfold rungV at h ⊢
 unfold numB finB
 simp only [decide_eq_true_eq]
 split at h
 ·rename_i c
  rw [if_pos c]
  omega
 ·rename_i c
  rw [if_neg c]
  omega
theorem once_flag (s : Bool) (m : Nat) (e : Int) (hr : rightB m e = true) (hf : finB (nearB s m e) = true) : exactB m e = decide ((farD (fromP (nearB s m e)) (formD s m e)).2.1 = 0) := by
 obtain ⟨K, hK⟩ : ∃ K : Nat, K = 32768 := ⟨_, rfl⟩
 have uR := numU s m e
 have he := (rightB_yes hr).2
 have jn := (near_num s m e).2
 have bd := nearW_bd m e
 have rn := rung_num _ uR (by rw [jn]; unfold sI; split <;> omega)
 have hj := rn.2.1 hf
 rw [jn] at hj
 have hi : nearW m e ≠ 9218868437227405312 := fun q => by rw [q] at hj; unfold sI at hj; split at hj <;> omega
 have eY := from_rung _ uR hf K hK
 rw [jn] at eY
 have eD : vI (formD s m e) (-(K : Int)) = sI s * ((m * 2 ^ (e + K).toNat : Nat) : Int) := by rw [vI_form _ _ _ _ (by omega), show e - -(K : Int) = e + K by omega]
 have ly : -32768 ≤ (fromP (nearB s m e)).2.2 := by have := (from_can (nearB s m e)).2; omega
 have ld : -32768 ≤ (formD s m e).2.2 := form_lo _ _ _ _ (by omega) (by decide)
 have fz := far_zero _ _ K hK ly ld
 rw [eY, eD] at fz
 have eR : rV (sI s * nearW m e) (K - 1074) = sI s * ((cv (nearW m e) (K - 1074) : Nat) : Int) := by
  cases s with
  | false =>
   show rV (1 * nearW m e) _ = 1 * _
   rw [Int.one_mul, Int.one_mul]
   unfold rV
   rw [if_pos bd.1]
  | true =>
   show rV (-1 * nearW m e) _ = -1 * _
   rw [Int.neg_one_mul, Int.neg_one_mul]
   unfold rV
   by_cases q : nearW m e = 0
   ·rw [q, if_pos (by decide), show -(0 : Int) = 0 from rfl, cv_zero]; rfl
   ·rw [if_neg (by omega), Int.neg_neg]
 rw [eR] at fz
 have inj : ∀ A B : Nat, (sI s * (A : Int) = sI s * (B : Int)) ↔ A = B := fun A B => by unfold sI; split <;> omega
 rw [inj] at fz
 rw [Bool.eq_iff_iff, decide_eq_true_eq, fz]
 by_cases h0 : m = 0
 ·have e1 : exactB m e = true := by unfold exactB; rw [if_pos h0]
  have e2 : nearW m e = 0 := by unfold nearW; rw [if_pos h0]
  rw [e1, e2, cv_zero, h0, Nat.zero_mul]
  exact ⟨fun _ => rfl, fun _ => rfl⟩
 ·obtain ⟨k, q, _, _, _, _, eV, eq, _, hx⟩ := near_parts m e K hK he.1 h0 hi
  rw [hx, eV]
  constructor
  ·intro h
   obtain ⟨c, hc⟩ := Nat.dvd_of_mod_eq_zero h
   rw [Nat.mul_comm (2 ^ (k + (K - 1074))) c] at hc
   rw [eq, hc, hv_exact]
  ·intro h
   rw [← h, Nat.mul_mod_left]
end Go.Proofs.YtfgemlgmhlidmaaGreatDoor
