/- A number times a power of 2, and its roots (pure). Powers of 2 go through roots, reciprocals of roots and distances (pure). -/
import Derived.Test.YtfgemlgmhlidmaaGreatDoorAE0

namespace Go.Proofs.YtfgemlgmhlidmaaGreatDoor
open Go.RowKit

theorem cls_norm {x : Int} : classV x = 3 ↔ (1 ≤ expV x ∧ expV x ≤ 2046) := by
 have h := exp_bd x
 unfold classV
 by_cases c : expV x = 0
 ·rw [if_pos c]
  by_cases d : fracV x = 0
  ·rw [if_pos d]; constructor <;> intro q <;> omega
  ·rw [if_neg d]; constructor <;> intro q <;> omega
 ·rw [if_neg c]
  by_cases d : expV x < 2047
  ·rw [if_pos d]; constructor <;> intro q <;> omega
  ·rw [if_neg d]
   by_cases f : fracV x = 0
   ·rw [if_pos f]; constructor <;> intro q <;> omega
   ·rw [if_neg f]
    by_cases g : 2251799813685248 ≤ fracV x
    ·rw [if_pos g]; constructor <;> intro q <;> omega
    ·rw [if_neg g]; constructor <;> intro q <;> omega
theorem norm_fin {x : Int} (h : 1 ≤ expV x ∧ expV x ≤ 2046) : finB x = true := by
 unfold finB
 unfold expV at h
 rw [decide_eq_true_eq]
 omega
theorem norm_cnt {x : Int} (h : 1 ≤ expV x ∧ expV x ≤ 2046) : blen (countV x).toNat = 53 ∧ (countV x).toNat ≠ 0 ∧ unitV x = expV x - 1075 := by
 have hf := frac_bd x
 have hc : 4503599627370496 ≤ (countV x).toNat ∧ (countV x).toNat < 9007199254740992 := by
  unfold countV
  rw [if_neg (by omega)]
  omega
 have b1 : blen (countV x).toNat ≤ 53 := (blen_le _ _).2 (by have : (2 : Nat) ^ 53 = 9007199254740992 := rfl; omega)
 have b2 : ¬ blen (countV x).toNat ≤ 52 := fun q => by have := (blen_le _ _).1 q; have e : (2 : Nat) ^ 52 = 4503599627370496 := rfl; omega
 exact ⟨by omega, by omega, by unfold unitV; rw [if_neg (by omega)]⟩
theorem norm_from {x : Int} (h : 1 ≤ expV x ∧ expV x ≤ 2046) : fromP x = formD (sgnB x) (countV x).toNat (unitV x) := by
 unfold fromP fromD
 rw [if_pos (norm_fin h)]
theorem norm_tp {x : Int} (h : 1 ≤ expV x ∧ expV x ≤ 2046) : tpI (fromP x).2.1 (fromP x).2.2 = expV x - 1023 ∧ (fromP x).2.1 ≠ 0 := by
 obtain ⟨c1, c2, c3⟩ := norm_cnt h
 rw [norm_from h, form_pos _ c2]
 have o2 := (odd_part c2).2
 have hm : (countV x).toNat / 2 ^ tz (countV x).toNat ≠ 0 := fun q => by rw [q, Nat.zero_mul] at o2; omega
 have hb := blen_mul _ (tz (countV x).toNat) hm
 rw [o2] at hb
 refine ⟨?_, hm⟩
 unfold tpI
 show unitV x + (tz (countV x).toNat : Int) + (blen ((countV x).toNat / 2 ^ tz (countV x).toNat) : Int) - 1 = _
 omega
def upN (x n : Int) : Int := x + n * 4503599627370496
def NormT (x n : Int) : Prop := (1 ≤ expV x ∧ expV x ≤ 2046) ∧ 1 ≤ expV x + n ∧ expV x + n ≤ 2046
theorem up_parts (x n : Int) (ux : U x) (h : NormT x n) : U (upN x n) ∧ expV (upN x n) = expV x + n ∧ fracV (upN x n) = fracV x ∧ sgnB (upN x n) = sgnB x := by
 obtain ⟨⟨h1, h2⟩, h3, h4⟩ := h
 unfold U at ux
 unfold upN expV fracV sgnB U at *
 refine ⟨by omega, by omega, by omega, ?_⟩
 rw [decide_eq_decide]
 omega
theorem up_from (x n : Int) (ux : U x) (h : NormT x n) : fromP (upN x n) = ((fromP x).1, (fromP x).2.1, (fromP x).2.2 + n) ∧ classV (upN x n) = 3 ∧ finB (upN x n) = true := by
 obtain ⟨u1, u2, u3, u4⟩ := up_parts x n ux h
 have hn : 1 ≤ expV (upN x n) ∧ expV (upN x n) ≤ 2046 := by rw [u2]; exact h.2
 obtain ⟨c1, c2, c3⟩ := norm_cnt h.1
 have hc : countV (upN x n) = countV x := by
  unfold countV
  rw [if_neg (by omega), if_neg (by have := h.1; omega), u3]
 refine ⟨?_, cls_norm.2 hn, norm_fin hn⟩
 rw [norm_from hn, norm_from h.1, hc, u4, form_pos _ c2, form_pos _ c2, (norm_cnt hn).2.2, c3, u2]
 refine Prod.ext rfl (Prod.ext rfl ?_)
 show expV x + n - 1075 + _ = expV x - 1075 + _ + n
 omega
theorem up_to (x n : Int) (ux : U x) (h : NormT x n) : toR (fromP x).1 (fromP x).2.1 ((fromP x).2.2 + n) = (upN x n, true) := by
 obtain ⟨f1, f2, f3⟩ := up_from x n ux h
 obtain ⟨u1, u2, u3, u4⟩ := up_parts x n ux h
 have hn : 1 ≤ expV (upN x n) ∧ expV (upN x n) ≤ 2046 := by rw [u2]; exact h.2
 have ht := to_from (upN x n) u1 f3
 have e : fromP (upN x n) = fromD (upN x n) := by unfold fromP; rw [if_pos f3]
 rw [← e, f1, if_neg (norm_cnt hn).2.1] at ht
 exact ht
theorem up_only (x n : Int) (hx : 1 ≤ expV x ∧ expV x ≤ 2046) (hn : -100 ≤ n ∧ n ≤ 100) (h : (toR (fromP x).1 (fromP x).2.1 ((fromP x).2.2 + n)).2 = true) (hc : classV (toR (fromP x).1 (fromP x).2.1 ((fromP x).2.2 + n)).1 = 3) : NormT x n := by
 have hb := fa_bd x
 obtain ⟨t1, t0⟩ := norm_tp hx
 have hr : rightB (fromP x).2.1 ((fromP x).2.2 + n) = true := by
  unfold rightB inB
  rw [(great_not _).2 (by omega)]
  simp
  omega
 obtain ⟨a1, a2⟩ := toA_yes _ _ _ hr t0 h
 obtain ⟨b1, b2, b3⟩ := exact_back (fromP x).1 _ _ hr t0 a2
 rw [a1] at hc
 have hy := cls_norm.1 hc
 have t2 := (norm_tp hy).1
 have ho : (fromP x).2.1 % 2 = 1 := fa_odd x t0
 rw [b3, form_odd _ ho] at t2
 refine ⟨hx, ?_⟩
 have : tpI (fromP x).2.1 ((fromP x).2.2 + n) = tpI (fromP x).2.1 (fromP x).2.2 + n := by unfold tpI; omega
 change tpI (fromP x).2.1 ((fromP x).2.2 + n) = _ at t2
 omega
theorem near_twice (M : Nat) (E : Int) (h0 : M ≠ 0) (h1 : -1022 ≤ tpI M E) (h2 : tpI M E ≤ 1022) (hE : -30000 ≤ E) : nearW M (E + 1) = nearW M E + 4503599627370496 ∧ exactB M (E + 1) = exactB M E ∧ tinyP M E = false ∧ tinyP M (E + 1) = false ∧ 4503599627370496 ≤ nearW M E := by
 have ht : tpI M (E + 1) = tpI M E + 1 := by unfold tpI; omega
 have l1 : lsI M E = tpI M E - 52 := by unfold lsI; rw [if_neg (by omega)]
 have l2 : lsI M (E + 1) = tpI M E - 51 := by unfold lsI; rw [ht, if_neg (by omega)]; omega
 have hb := blen_ge M h0
 have hbl : blen M ≠ 0 := fun q => h0 ((blen_nil M).1 q)
 obtain ⟨K, hK⟩ : ∃ K : Nat, K = 32768 := ⟨_, rfl⟩
 have tiny : ∀ F : Int, -32768 ≤ F → -1022 ≤ tpI M F → tinyP M F = false := fun F hF hT => by
  rw [tiny_num M F K (by omega) hF]
  refine decide_eq_false (Nat.not_lt.2 ?_)
  refine Nat.le_trans ?_ (Nat.mul_le_mul_right _ hb)
  rw [← Nat.pow_add]
  refine Nat.le_trans (Nat.mul_le_mul_right _ (show 18014398509481983 ≤ 2 ^ 54 by decide)) ?_
  rw [← Nat.pow_add]
  unfold tpI at hT
  exact Nat.pow_le_pow_right (by decide) (by omega)
 refine ⟨?_, ?_, tiny E (by omega) h1, tiny (E + 1) (by omega) (by omega), ?_⟩
 ·unfold nearW
  rw [if_neg h0, if_neg h0, if_neg (by omega), if_neg (by omega), l1, l2, show tpI M E - 51 - (E + 1) = tpI M E - 52 - E by omega]
  omega
 ·unfold exactB
  rw [if_neg h0, if_neg h0, if_neg (by omega), if_neg (by omega), l1, l2, show tpI M E - 51 - (E + 1) = tpI M E - 52 - E by omega]
 ·have hg := fl_ge M 52 (lsI M E - E) h0 (by rw [l1]; unfold tpI; omega)
  unfold nearW
  rw [if_neg h0, if_neg (by omega)]
  unfold rd2
  have e : (2 : Nat) ^ 52 = 4503599627370496 := rfl
  omega
theorem up_near (s : Bool) (M : Nat) (E : Int) (h0 : M ≠ 0) (h1 : -1022 ≤ tpI M E) (h2 : tpI M E ≤ 1022) (hE : -30000 ≤ E) (hf : nearW M E + 4503599627370496 < 9218868437227405312) : NormT (nearB s M E) 1 ∧ upN (nearB s M E) 1 = nearB s M (E + 1) ∧ NormT (nearB s M (E + 1)) (-1) ∧ upN (nearB s M (E + 1)) (-1) = nearB s M E := by
 obtain ⟨n1, _, _, _, n5⟩ := near_twice M E h0 h1 h2 hE
 have b := nearW_bd M E
 unfold nearB
 rw [n1]
 generalize nearW M E = W at *
 have key : ∀ t : Bool, NormT (if t = true then negV W else W) 1 ∧ upN (if t = true then negV W else W) 1 = (if t = true then negV (W + 4503599627370496) else W + 4503599627370496) ∧ NormT (if t = true then negV (W + 4503599627370496) else W + 4503599627370496) (-1) ∧ upN (if t = true then negV (W + 4503599627370496) else W + 4503599627370496) (-1) = (if t = true then negV W else W) := fun t => by
  cases t
  ·simp only [Bool.false_eq_true, if_false]
   unfold NormT upN expV
   omega
  ·simp only [if_true]
   unfold NormT upN expV negV
   omega
 exact key _
theorem fl_same (s : Bool) (M : Nat) (E F : Int) (hr : rightB M E = true) (hr' : rightB M F = true) (hx : exactB M E = exactB M F) (ht : tinyP M E = false) (ht' : tinyP M F = false) (h1 : nearW M E < 9218868437227405312) (h2 : nearW M F < 9218868437227405312) : flR s M E = flR s M F := by
 unfold flR
 rw [if_pos hr, if_pos hr', hx, ht, ht']
 by_cases c : exactB M F = true
 ·rw [if_pos c, if_pos c]
 ·rw [if_neg c, if_neg c]
  have b1 := nearW_bd M E
  have b2 := nearW_bd M F
  have a1 : ∀ G : Int, nearW M G < 9218868437227405312 → 0 ≤ nearW M G → absV (nearB s M G) ≠ 9218868437227405312 := fun G q q0 => by
   unfold nearB absV
   split
   ·unfold negV; omega
   ·omega
  unfold inxF
  first | rw [if_neg (a1 E h1 b1.1), if_neg (a1 F h2 b2.1)] | (simp only [a1 E h1 b1.1, a1 F h2 b2.1])
theorem at_bd (k m : Nat) (e E : Int) (hk : k = 2 ∨ k = 3) (h0 : m ≠ 0) (h1 : E ≤ agX k (tpI m e)) (h2 : agX k (tpI m e) ≤ E + 1) : 2 ^ 53 ≤ rt k (agA m (e - k * E)) ∧ blen (rt k (agA m (e - k * E))) ≤ 66 := by
 have hn := agN_bd k (tpI m e) (by omega)
 have hm := agX_mul k (tpI m e)
 have hi : 53 * (k : Int) < (blen m : Int) + (e - k * E) ∧ (blen m : Int) + (e - k * E) ≤ 66 * (k : Int) := by
  unfold tpI at *
  rcases hk with q | q <;> subst q <;> omega
 have hb := agA_blen m (e - k * E) h0 (by omega)
 have := rt_bd k (agA m (e - k * E)) (by omega) (by omega) (by omega)
 exact ⟨this.1, this.2.1⟩
theorem sk_tp (s : Nat) (mk : Bool) (E : Int) (h : s ≠ 0) : tpI (skA s mk) (E - 1) = E - 1 + (blen s : Int) := by
 have hb := blen_shift 1 mk.toNat s (by have := Bool.toNat_le mk; omega) h
 have e : mk.toNat + 2 ^ 1 * s = skA s mk := by unfold skA; rw [Nat.pow_one]; omega
 rw [e] at hb
 unfold tpI
 omega
theorem blen_53 {s : Nat} (h : 2 ^ 53 ≤ s) : 54 ≤ blen s := by
 rcases Nat.lt_or_ge (blen s) 54 with q | q
 ·have := (blen_le s 53).1 (by omega); omega
 ·exact q
theorem near_hi (M : Nat) (E : Int) (h0 : M ≠ 0) (h1 : -1022 ≤ tpI M E) (h2 : tpI M E ≤ 1020) : nearW M E < 9218868437227405312 := by
 have l1 : lsI M E = tpI M E - 52 := by unfold lsI; rw [if_neg (by omega)]
 have hm := M_lt M E
 unfold nearW
 rw [if_neg h0, if_neg (by omega)]
 unfold rd2
 have : (up2 M (lsI M E - E)).toNat ≤ 1 := Bool.toNat_le _
 omega
theorem scal (s : Bool) (M : Nat) (E : Int) (A1 : Nat) (E1 : Int) (A2 : Nat) (E2 : Int) (h0 : M ≠ 0) (hE : -20000 ≤ E) (hE2 : E ≤ 20000) (hM : blen M ≤ 70) (t1 : -1022 ≤ tpI M (E - 1)) (t2 : tpI M (E - 1) ≤ 1022) (hf : nearW M (E - 1) + 4503599627370496 < 9218868437227405312) (r1 : rightB A1 E1 = true) (r2 : rightB A2 E2 = true) (z1 : A1 ≠ 0) (z2 : A2 ≠ 0)
  (a : nearW A1 E1 = nearW M (E - 1) ∧ exactB A1 E1 = exactB M (E - 1) ∧ tinyP A1 E1 = tinyP M (E - 1)) (b : nearW A2 E2 = nearW M E ∧ exactB A2 E2 = exactB M E ∧ tinyP A2 E2 = tinyP M E) :
  NormT (nbR s A1 E1) 1 ∧ upN (nbR s A1 E1) 1 = nbR s A2 E2 ∧ flR s A2 E2 = flR s A1 E1 ∧ NormT (nbR s A2 E2) (-1) ∧ upN (nbR s A2 E2) (-1) = nbR s A1 E1 := by
 have hb : ∀ (A : Nat) (F G : Int), A ≠ 0 → nearW A F = nearW M G → nearB s A F = nearB s M G := fun A F G z q => by
  unfold nearB; rw [q, decide_eq_true z, decide_eq_true h0]
 have m1 : rightB M (E - 1) = true := by unfold rightB inB; rw [(great_not _).2 (by omega)]; simp; omega
 have m2 : rightB M E = true := by unfold rightB inB; rw [(great_not _).2 (by omega)]; simp; omega
 have b1 : nbR s A1 E1 = nearB s M (E - 1) := by unfold nbR; rw [if_pos r1, hb _ _ _ z1 a.1]
 have b2 : nbR s A2 E2 = nearB s M E := by unfold nbR; rw [if_pos r2, hb _ _ _ z2 b.1]
 have f1 : flR s A1 E1 = flR s M (E - 1) := by unfold flR; rw [if_pos r1, if_pos m1, a.2.1, a.2.2, hb _ _ _ z1 a.1]
 have f2 : flR s A2 E2 = flR s M E := by unfold flR; rw [if_pos r2, if_pos m2, b.2.1, b.2.2, hb _ _ _ z2 b.1]
 obtain ⟨n1, n2, n3, n4, _⟩ := near_twice M (E - 1) h0 t1 t2 (by omega)
 obtain ⟨u1, u2, u3, u4⟩ := up_near s M (E - 1) h0 t1 t2 (by omega) hf
 rw [show E - 1 + 1 = E by omega] at n1 n2 n4 u2 u3 u4
 rw [b1, b2, f1, f2]
 exact ⟨u1, u2, fl_same s M E (E - 1) m2 m1 n2 n4 n3 (by omega) (by have := nearW_bd M (E - 1); omega), u3, u4⟩
theorem cb_scaled (x : Int) (ux : U x) (h : NormT x 3) : lastE x = 0 ∧ lastE (upN x 3) = 0 ∧ NormT (cbB x) 1 ∧ cbB (upN x 3) = upN (cbB x) 1 ∧ cbF (upN x 3) = cbF x := by
 obtain ⟨f1, _, f3⟩ := up_from x 3 ux h
 obtain ⟨tp, h0⟩ := norm_tp h.1
 have fx := norm_fin h.1
 have hbd := fa_bd x
 refine ⟨last_yes fx, last_yes f3, ?_⟩
 have e1 : cbB x = nbR (fromP x).1 (ansM 3 (fromP x).2.1 (fromP x).2.2) (ansE 3 (fromP x).2.1 (fromP x).2.2) := by unfold cbB; rw [if_pos fx, if_neg h0]
 have e2 : cbB (upN x 3) = nbR (fromP x).1 (ansM 3 (fromP x).2.1 ((fromP x).2.2 + 3)) (ansE 3 (fromP x).2.1 ((fromP x).2.2 + 3)) := by unfold cbB; rw [if_pos f3, f1, if_neg h0]
 have e3 : cbF x = flR (fromP x).1 (ansM 3 (fromP x).2.1 (fromP x).2.2) (ansE 3 (fromP x).2.1 (fromP x).2.2) := by unfold cbF; rw [if_neg h0]
 have e4 : cbF (upN x 3) = flR (fromP x).1 (ansM 3 (fromP x).2.1 ((fromP x).2.2 + 3)) (ansE 3 (fromP x).2.1 ((fromP x).2.2 + 3)) := by unfold cbF; rw [f1, if_neg h0]
 rw [e1, e2, e3, e4]
 have ht : -5000 ≤ tpI (fromP x).2.1 (fromP x).2.2 ∧ tpI (fromP x).2.1 (fromP x).2.2 ≤ 5000 := fa_tp x
 have htp : tpI (fromP x).2.1 ((fromP x).2.2 + 3) = tpI (fromP x).2.1 (fromP x).2.2 + 3 := by unfold tpI; omega
 have ht3 : -5000 ≤ tpI (fromP x).2.1 ((fromP x).2.2 + 3) ∧ tpI (fromP x).2.1 ((fromP x).2.2 + 3) ≤ 5000 := by have := h.1; omega
 generalize (fromP x).1 = s
 generalize (fromP x).2.1 = m at *
 generalize (fromP x).2.2 = e at *
 have n1 := agN_bd 3 (tpI m e) (by decide)
 have n2 := agN_bd 3 (tpI m (e + 3)) (by decide)
 have k1 := agX_mul 3 (tpI m e)
 have k2 := agX_mul 3 (tpI m (e + 3))
 obtain ⟨E, q1, q2, q3⟩ : ∃ E : Int, E ≤ agX 3 (tpI m e) ∧ E + 1 ≤ agX 3 (tpI m (e + 3)) ∧ agX 3 (tpI m e) ≤ E + 1 := ⟨min (agX 3 (tpI m e)) (agX 3 (tpI m (e + 3)) - 1), by omega, by omega, by omega⟩
 obtain ⟨a1, a2, a3, a4⟩ := ans_at 3 m e E (Or.inr rfl) h0 q1 (by have := h.1; omega)
 obtain ⟨b1, b2, b3, _⟩ := ans_at 3 m (e + 3) (E + 1) (Or.inr rfl) h0 q2 (by have := h.1; omega)
 have hM : atM 3 m (e + 3) (E + 1) = atM 3 m e E := by unfold atM; rw [show e + 3 - ((3 : Nat) : Int) * (E + 1) = e - ((3 : Nat) : Int) * E by omega]
 rw [hM, show E + 1 - 1 = E by omega] at b1 b2 b3
 obtain ⟨g1, g2⟩ := at_bd 3 m e E (Or.inr rfl) h0 q1 q3
 have g3 := blen_53 g1
 have hs : rt 3 (agA m (e - (3 : Nat) * E)) ≠ 0 := fun q => by rw [q, blen_zero] at g3; omega
 have htM : tpI (atM 3 m e E) (E - 1) = E - 1 + (blen (rt 3 (agA m (e - (3 : Nat) * E))) : Int) := sk_tp _ _ _ hs
 have hbM : blen (atM 3 m e E) ≤ 67 := skA_blen _ g2
 obtain ⟨r1, r2, _⟩ := ans_right 3 m e (Or.inr rfl) h0 ht
 obtain ⟨r3, r4, _⟩ := ans_right 3 m (e + 3) (Or.inr rfl) h0 ht3
 have hb := h.1
 have hnt := near_twice (atM 3 m e E) (E - 1) a4 (by omega) (by omega) (by omega)
 have hhi := near_hi (atM 3 m e E) E a4 (by unfold tpI at *; omega) (by unfold tpI at *; omega)
 rw [show E - 1 + 1 = E by omega] at hnt
 obtain ⟨c1, c2, c3, _, _⟩ := scal s (atM 3 m e E) E _ _ _ _ a4 (by omega) (by omega) (by omega) (by omega) (by omega) (by omega) r1 r3 r2 r4 ⟨a1, a2, a3⟩ ⟨b1, b2, b3⟩
 exact ⟨c1, c2.symm, c3⟩
theorem inv_bd (m : Nat) (e E : Int) (h0 : m ≠ 0) (h1 : E ≤ agX 2 (-(tpI m e))) (h2 : agX 2 (-(tpI m e)) ≤ E + 1) : 2 ^ 53 ≤ rt 2 (2 ^ (-(2 * E) - e).toNat / m) ∧ blen (rt 2 (2 ^ (-(2 * E) - e).toNat / m)) ≤ 66 := by
 have hn := agN_bd 2 (-(tpI m e)) (by omega)
 have hm := agX_mul 2 (-(tpI m e))
 have hi : 126 ≤ (-(2 * E) - e) - (blen m : Int) ∧ (-(2 * E) - e) - (blen m : Int) ≤ 130 := by
  unfold tpI at *
  omega
 have hp : 0 < m := by omega
 have l1 := lt_blen m
 have l2 := blen_ge m h0
 have hb : blen m ≠ 0 := fun q => h0 ((blen_nil m).1 q)
 generalize hI : (-(2 * E) - e).toNat = i at *
 have c1 : 53 * 2 < blen (2 ^ i / m) := by
  rcases Nat.lt_or_ge (53 * 2) (blen (2 ^ i / m)) with q | q
  ·exact q
  ·exfalso
   have q2 := (blen_le _ _).1 q
   rw [Nat.div_lt_iff_lt_mul hp] at q2
   have q3 : 2 ^ (53 * 2) * m < 2 ^ (53 * 2) * 2 ^ blen m := Nat.mul_lt_mul_of_pos_left l1 (Nat.two_pow_pos _)
   rw [← Nat.pow_add] at q3
   have := Nat.pow_le_pow_right (show 0 < 2 by decide) (show 53 * 2 + blen m ≤ i by omega)
   omega
 have c2 : blen (2 ^ i / m) ≤ 66 * 2 := by
  refine (blen_le _ _).2 ?_
  rw [Nat.div_lt_iff_lt_mul hp]
  refine Nat.lt_of_lt_of_le ?_ (Nat.mul_le_mul_left _ l2)
  rw [← Nat.pow_add]
  exact Nat.pow_lt_pow_right (by decide) (by omega)
 have := rt_bd 2 _ (by omega) c1 c2
 exact ⟨this.1, this.2.1⟩
theorem rs_scaled (x : Int) (ux : U x) (h : NormT x 2) (hx : x < 9223372036854775808) : rsE x = 0 ∧ rsE (upN x 2) = 0 ∧ NormT (rsB x) (-1) ∧ rsB (upN x 2) = upN (rsB x) (-1) ∧ rsF (upN x 2) = rsF x := by
 obtain ⟨f1, _, f3⟩ := up_from x 2 ux h
 obtain ⟨tp, h0⟩ := norm_tp h.1
 have fx := norm_fin h.1
 have hs0 : (fromP x).1 = false := by
  rw [norm_from h.1, form_pos _ (norm_cnt h.1).2.1]
  show sgnB x = false
  unfold sgnB
  exact decide_eq_false (by omega)
 have E1 : rsE x = 0 := by unfold rsE; exact if_neg (fun q => by rcases q with q | q; exact h0 q; rw [hs0] at q; cases q)
 have E2 : rsE (upN x 2) = 0 := by unfold rsE; rw [f1]; exact if_neg (fun q => by rcases q with q | q; exact h0 q; exact absurd (hs0.symm.trans q) (by decide))
 refine ⟨E1, E2, ?_⟩
 have e1 : rsB x = nbR false (invM (fromP x).2.1 (fromP x).2.2) (invE (fromP x).2.1 (fromP x).2.2) := by unfold rsB; rw [if_pos E1]
 have e2 : rsB (upN x 2) = nbR false (invM (fromP x).2.1 ((fromP x).2.2 + 2)) (invE (fromP x).2.1 ((fromP x).2.2 + 2)) := by unfold rsB; rw [if_pos E2, f1]
 have e3 : rsF x = flR false (invM (fromP x).2.1 (fromP x).2.2) (invE (fromP x).2.1 (fromP x).2.2) := by unfold rsF; rw [if_pos E1]
 have e4 : rsF (upN x 2) = flR false (invM (fromP x).2.1 ((fromP x).2.2 + 2)) (invE (fromP x).2.1 ((fromP x).2.2 + 2)) := by unfold rsF; rw [if_pos E2, f1]
 rw [e1, e2, e3, e4]
 have ht : -5000 ≤ tpI (fromP x).2.1 (fromP x).2.2 ∧ tpI (fromP x).2.1 (fromP x).2.2 ≤ 5000 := fa_tp x
 have htp : tpI (fromP x).2.1 ((fromP x).2.2 + 2) = tpI (fromP x).2.1 (fromP x).2.2 + 2 := by unfold tpI; omega
 have hb := h.1
 have ht2 : -5000 ≤ tpI (fromP x).2.1 ((fromP x).2.2 + 2) ∧ tpI (fromP x).2.1 ((fromP x).2.2 + 2) ≤ 5000 := by omega
 clear e1 e2 e3 e4 E1 E2 hs0 f1 f3 fx
 generalize (fromP x).2.1 = m at *
 generalize (fromP x).2.2 = e at *
 have n1 := agN_bd 2 (-(tpI m e)) (by decide)
 have n2 := agN_bd 2 (-(tpI m (e + 2))) (by decide)
 have k1 := agX_mul 2 (-(tpI m e))
 have k2 := agX_mul 2 (-(tpI m (e + 2)))
 obtain ⟨E, q1, q2, q3⟩ : ∃ E : Int, E ≤ agX 2 (-(tpI m e)) ∧ E - 1 ≤ agX 2 (-(tpI m (e + 2))) ∧ agX 2 (-(tpI m e)) ≤ E + 1 := ⟨min (agX 2 (-(tpI m e))) (agX 2 (-(tpI m (e + 2))) + 1), by omega, by omega, by omega⟩
 obtain ⟨a1, a2, a3, a4⟩ := inv_at m e E h0 q1 (by omega)
 obtain ⟨b1, b2, b3, _⟩ := inv_at m (e + 2) (E - 1) h0 q2 (by omega)
 have hM : atI m (e + 2) (E - 1) = atI m e E := by unfold atI; rw [show -(2 * (E - 1)) - (e + 2) = -(2 * E) - e by omega]
 rw [hM] at b1 b2 b3
 obtain ⟨g1, g2⟩ := inv_bd m e E h0 q1 q3
 have g3 := blen_53 g1
 have hs : rt 2 (2 ^ (-(2 * E) - e).toNat / m) ≠ 0 := fun q => by rw [q, blen_zero] at g3; omega
 have htM : tpI (atI m e E) (E - 1) = E - 1 + (blen (rt 2 (2 ^ (-(2 * E) - e).toNat / m)) : Int) := sk_tp _ _ _ hs
 have hbM : blen (atI m e E) ≤ 67 := skA_blen _ g2
 obtain ⟨r1, r2, _⟩ := inv_right m e h0 ht
 obtain ⟨r3, r4, _⟩ := inv_right m (e + 2) h0 ht2
 have htM2 : tpI (atI m e E) (E - 1 - 1) = tpI (atI m e E) (E - 1) - 1 := by unfold tpI; omega
 have hnt := near_twice (atI m e E) (E - 1 - 1) a4 (by omega) (by omega) (by omega)
 have hhi := near_hi (atI m e E) (E - 1) a4 (by omega) (by omega)
 rw [show E - 1 - 1 + 1 = E - 1 by omega] at hnt
 obtain ⟨_, _, c3, c4, c5⟩ := scal false (atI m e E) (E - 1) _ _ _ _ a4 (by omega) (by omega) (by omega) (by omega) (by omega) (by omega) r3 r1 r4 r2 ⟨b1, b2, b3⟩ ⟨a1, a2, a3⟩
 exact ⟨c4, c5.symm, c3.symm⟩
theorem up_uA (x : Int) (ux : U x) (h : NormT x 1) : uA (upN x 1) = 2 * uA x := by
 obtain ⟨f1, _, _⟩ := up_from x 1 ux h
 have hb := fa_bd x
 unfold uA
 rw [f1]
 show (fromP x).2.1 * 2 ^ ((fromP x).2.2 + 1 + (1074 : Nat)).toNat = _
 rw [show ((fromP x).2.2 + 1 + (1074 : Nat)).toNat = ((fromP x).2.2 + (1074 : Nat)).toNat + 1 by omega, Nat.pow_succ, ← Nat.mul_assoc, Nat.mul_comm _ 2]
theorem norm_uA (x : Int) (h : 1 ≤ expV x ∧ expV x ≤ 2046) : 2 ^ 52 ≤ uA x := by
 obtain ⟨t, h0⟩ := norm_tp h
 have hb := blen_ge _ h0
 have hbl : blen (fromP x).2.1 ≠ 0 := fun q => h0 ((blen_nil _).1 q)
 have hbd := fa_bd x
 unfold uA
 refine Nat.le_trans ?_ (Nat.mul_le_mul_right _ hb)
 rw [← Nat.pow_add]
 unfold tpI at t
 exact Nat.pow_le_pow_right (by decide) (by omega)
theorem hy_scaled (x y : Int) (ux : U x) (uy : U y) (hx : NormT x 1) (hy : NormT y 1) (hf : NormT (hyB x y) 1) : hyE (upN x 1) (upN y 1) = 0 ∧ hyB (upN x 1) (upN y 1) = upN (hyB x y) 1 ∧ hyF (upN x 1) (upN y 1) = hyF x y := by
 have fx := norm_fin hx.1
 have fy := norm_fin hy.1
 have gx := (up_from x 1 ux hx).2.2
 have gy := (up_from y 1 uy hy).2.2
 have E1 : hyE x y = 0 := by unfold hyE; rw [fx, fy]; rfl
 have E2 : hyE (upN x 1) (upN y 1) = 0 := by unfold hyE; rw [gx, gy]; rfl
 have hu := hy_units x y
 have hv := hy_units (upN x 1) (upN y 1)
 rw [up_uA x ux hx, up_uA y uy hy] at hv
 have ha := norm_uA x hx.1
 have hlo := hy_low x y
 have hlo2 := hy_low (upN x 1) (upN y 1)
 have hs := (hy_room x y).2.2.2.2
 have hs2 := (hy_room (upN x 1) (upN y 1)).2.2.2.2
 have hsq : 2 ^ 104 ≤ uA x * uA x + uA y * uA y := by
  have := Nat.mul_le_mul ha ha
  rw [← Nat.pow_add] at this
  have e : (2 : Nat) ^ (52 + 52) = 2 ^ 104 := rfl
  omega
 have h0 : (hyD x y).2.1 ≠ 0 := fun q => by
  rw [q, Nat.zero_mul] at hu
  have := Nat.two_pow_pos 104
  omega
 have hD : hyD (upN x 1) (upN y 1) = (false, (hyD x y).2.1, (hyD x y).2.2 + 2) := by
  have hcan : CanD (false, (hyD x y).2.1, (hyD x y).2.2 + 2) := by
   rcases hy_can x y with q | q
   ·rw [q] at h0; exact absurd rfl h0
   ·exact Or.inr q
  refine vI_inj _ _ (hy_can _ _) hcan (-2148) hlo2 (by show -2148 ≤ (hyD x y).2.2 + 2; omega) ?_
  unfold vI
  rw [hs2, show ((hyD (upN x 1) (upN y 1)).2.2 - -2148).toNat = ((hyD (upN x 1) (upN y 1)).2.2 + (2148 : Nat)).toNat by omega, hv]
  show sI false * ((_ : Nat) : Int) = sI false * (((hyD x y).2.1 * 2 ^ ((hyD x y).2.2 + 2 - -2148).toNat : Nat) : Int)
  have w1 : (hyD x y).2.1 * 2 ^ ((hyD x y).2.2 + 2 - -2148).toNat = 4 * (uA x * uA x + uA y * uA y) := by
   rw [← hu, show ((hyD x y).2.2 + 2 - -2148).toNat = ((hyD x y).2.2 + (2148 : Nat)).toNat + 2 by omega, Nat.pow_add, ← Nat.mul_assoc, Nat.mul_comm _ (2 ^ 2)]
  have w2 := Nat.mul_mul_mul_comm 2 (uA x) 2 (uA x)
  have w3 := Nat.mul_mul_mul_comm 2 (uA y) 2 (uA y)
  rw [w1, w2, w3]
  congr 2
  omega
 have ht := hy_tp x y h0
 have hroom := (hy_room (upN x 1) (upN y 1)).2.2.2.1
 rw [hD] at hroom hlo2
 have hroom2 := hroom h0
 change (hyD x y).2.2 + 2 + (blen (hyD x y).2.1 : Int) ≤ 2200 at hroom2
 have e1 : hyB x y = nbR false (ansM 2 (hyD x y).2.1 (hyD x y).2.2) (ansE 2 (hyD x y).2.1 (hyD x y).2.2) := by unfold hyB; rw [if_pos E1, if_neg h0]
 have e2 : hyB (upN x 1) (upN y 1) = nbR false (ansM 2 (hyD x y).2.1 ((hyD x y).2.2 + 2)) (ansE 2 (hyD x y).2.1 ((hyD x y).2.2 + 2)) := by unfold hyB; rw [if_pos E2, hD, if_neg h0]
 have e3 : hyF x y = flR false (ansM 2 (hyD x y).2.1 (hyD x y).2.2) (ansE 2 (hyD x y).2.1 (hyD x y).2.2) := by unfold hyF; rw [if_pos E1, if_neg h0]
 have e4 : hyF (upN x 1) (upN y 1) = flR false (ansM 2 (hyD x y).2.1 ((hyD x y).2.2 + 2)) (ansE 2 (hyD x y).2.1 ((hyD x y).2.2 + 2)) := by unfold hyF; rw [if_pos E2, hD, if_neg h0]
 refine ⟨E2, ?_⟩
 rw [e1] at hf
 rw [e1, e2, e3, e4]
 have hsz : 2 ^ 104 ≤ (hyD x y).2.1 * 2 ^ ((hyD x y).2.2 + (2148 : Nat)).toNat := by rw [hu]; exact hsq
 clear e1 e2 e3 e4 E1 E2 hD hu hv hsq ha fx fy gx gy hs hs2 hroom hlo2
 generalize (hyD x y).2.1 = m at *
 generalize (hyD x y).2.2 = e at *
 have htp : tpI m (e + 2) = tpI m e + 2 := by unfold tpI; omega
 have hbm : blen m ≠ 0 := fun q => h0 ((blen_nil m).1 q)
 have ht2 : -5000 ≤ tpI m (e + 2) ∧ tpI m (e + 2) ≤ 5000 := by unfold tpI at *; omega
 have n1 := agN_bd 2 (tpI m e) (by decide)
 have n2 := agN_bd 2 (tpI m (e + 2)) (by decide)
 have k1 := agX_mul 2 (tpI m e)
 have k2 := agX_mul 2 (tpI m (e + 2))
 obtain ⟨E, q1, q2, q3⟩ : ∃ E : Int, E ≤ agX 2 (tpI m e) ∧ E + 1 ≤ agX 2 (tpI m (e + 2)) ∧ agX 2 (tpI m e) ≤ E + 1 := ⟨min (agX 2 (tpI m e)) (agX 2 (tpI m (e + 2)) - 1), by omega, by omega, by omega⟩
 obtain ⟨a1, a2, a3, a4⟩ := ans_at 2 m e E (Or.inl rfl) h0 q1 (by omega)
 obtain ⟨b1, b2, b3, _⟩ := ans_at 2 m (e + 2) (E + 1) (Or.inl rfl) h0 q2 (by omega)
 have hM : atM 2 m (e + 2) (E + 1) = atM 2 m e E := by unfold atM; rw [show e + 2 - ((2 : Nat) : Int) * (E + 1) = e - ((2 : Nat) : Int) * E by omega]
 rw [hM, show E + 1 - 1 = E by omega] at b1 b2 b3
 obtain ⟨g1, g2⟩ := at_bd 2 m e E (Or.inl rfl) h0 q1 q3
 have g3 := blen_53 g1
 have hs : rt 2 (agA m (e - (2 : Nat) * E)) ≠ 0 := fun q => by rw [q, blen_zero] at g3; omega
 have htM : tpI (atM 2 m e E) (E - 1) = E - 1 + (blen (rt 2 (agA m (e - (2 : Nat) * E))) : Int) := sk_tp _ _ _ hs
 have hbM : blen (atM 2 m e E) ≤ 67 := skA_blen _ g2
 obtain ⟨r1, r2, _⟩ := ans_right 2 m e (Or.inl rfl) h0 ht
 obtain ⟨r3, r4, _⟩ := ans_right 2 m (e + 2) (Or.inl rfl) h0 ht2
 have hlow : -1022 ≤ tpI (atM 2 m e E) (E - 1) := by
  rcases Int.lt_or_le E (-1075) with c | c
  ·obtain ⟨j, hj⟩ : ∃ j : Nat, (j : Int) = -1022 - E := ⟨(-1022 - E).toNat, by omega⟩
   have hrt := ag_rtA 2 m (e - (2 : Nat) * E) (by decide)
   have hle : 2 ^ j ≤ rt 2 (agA m (e - (2 : Nat) * E)) := by
    refine rtA_le (by decide) hrt (agQ_pos _) ?_
    unfold agQ agP
    rw [← Nat.pow_mul, ← Nat.pow_add]
    have := scale_le (m := 1) (m' := m) (a := (-(e - ((2 : Nat) : Int) * E)).toNat + j * 2) (b := (e - ((2 : Nat) : Int) * E).toNat) (p := 104) (q := (e + (2148 : Nat)).toNat) (by rw [Nat.one_mul]; exact hsz) (by omega)
    rwa [Nat.one_mul] at this
   have : j + 1 ≤ blen (rt 2 (agA m (e - (2 : Nat) * E))) := by
    rcases Nat.lt_or_ge j (blen (rt 2 (agA m (e - (2 : Nat) * E)))) with q | q
    ·exact q
    ·have := (blen_le _ _).1 q; omega
   omega
  ·omega
 have hw : nearW (ansM 2 m e) (ansE 2 m e) = nearW (atM 2 m e E) (E - 1) := a1
 have hnb : nbR false (ansM 2 m e) (ansE 2 m e) = nearW (atM 2 m e E) (E - 1) := by unfold nbR nearB; rw [if_pos r1, hw]; rfl
 rw [hnb] at hf
 have hbd := nearW_bd (atM 2 m e E) (E - 1)
 have hexp : nearW (atM 2 m e E) (E - 1) + 4503599627370496 < 9218868437227405312 := by
  obtain ⟨_, _, h3⟩ := hf
  unfold expV at h3
  omega
 have hup : tpI (atM 2 m e E) (E - 1) ≤ 1022 := by
  rcases Int.lt_or_le 1022 (tpI (atM 2 m e E) (E - 1)) with c | c
  ·exfalso
   by_cases d : 1024 ≤ tpI (atM 2 m e E) (E - 1)
   ·have : nearW (atM 2 m e E) (E - 1) = 9218868437227405312 := by unfold nearW; rw [if_neg a4, if_pos d]
    omega
   ·have hls : lsI (atM 2 m e E) (E - 1) = 971 := by unfold lsI; rw [if_neg (by omega)]; omega
    have hg := M_ge (atM 2 m e E) (E - 1) a4 (by omega)
    have : nearW (atM 2 m e E) (E - 1) = (lsI (atM 2 m e E) (E - 1) + 1074) * 4503599627370496 + (rd2 (atM 2 m e E) (lsI (atM 2 m e E) (E - 1) - (E - 1)) : Int) := by unfold nearW; rw [if_neg a4, if_neg d]
    have hr : fl2 (atM 2 m e E) (lsI (atM 2 m e E) (E - 1) - (E - 1)) ≤ rd2 (atM 2 m e E) (lsI (atM 2 m e E) (E - 1) - (E - 1)) := Nat.le_add_right _ _
    omega
  ·exact c
 obtain ⟨c1, c2, c3, _, _⟩ := scal false (atM 2 m e E) E _ _ _ _ a4 (by omega) (by omega) (by omega) hlow hup hexp r1 r3 r2 r4 ⟨a1, a2, a3⟩ ⟨b1, b2, b3⟩
 exact ⟨c2.symm, c3⟩
end Go.Proofs.YtfgemlgmhlidmaaGreatDoor
