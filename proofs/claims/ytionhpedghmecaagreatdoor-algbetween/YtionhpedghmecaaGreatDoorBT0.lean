/- A number lies between the powers of the points halfway to the neighbours of its root (pure). -/
import Derived.Test.YtionhpedghmecaaGreatDoorRPX
namespace Go.Proofs.YtionhpedghmecaaGreatDoor
open Go.RowKit
theorem fin_of_rung {y : Int} (u : U y) (h : -9218868437227405312 < rungV y ∧ rungV y < 9218868437227405312) : finB y = true := by
 obtain ⟨u0, u1⟩ := u
 unfold rungV at h
 unfold finB
 rw [decide_eq_true_eq]
 split at h <;> omega
theorem mid_rung (x : Int) (ux : U x) (h : -9218868437227405312 < rungV x ∧ rungV x + 1 < 9218868437227405312) (K : Nat) (hK : K = 32768) : 2 * vI (midQ x) (-(K : Int)) = rV (rungV x) (K - 1074) + rV (rungV x + 1) (K - 1074) := by
 have hx := fin_of_rung ux ⟨h.1, by omega⟩
 obtain ⟨r1, u1⟩ := up_rung x ux hx
 have hy := fin_of_rung u1 (by omega)
 have hu : upT x = fromP (upV x) := by unfold upT; rw [if_pos hy]
 rw [mid_twice x K hK, from_rung x ux hx K hK, hu, from_rung _ u1 hy K hK, r1]
theorem vI_scale (p : Bool × Nat × Int) (E : Int) (K : Nat) (h : E ≤ p.2.2) (hK : 0 ≤ E + K) : vI p (-(K : Int)) = vI p E * ((2 ^ (E + K).toNat : Nat) : Int) := by
 unfold vI
 rw [show (p.2.2 - -(K : Int)).toNat = (p.2.2 - E).toNat + (E + K).toNat by omega, Nat.pow_add, ← Nat.mul_assoc, Int.natCast_mul, ← Int.mul_assoc]
theorem cancel_lo (s v : Int) (T g : Nat) (hg : 0 < g) (h : 2 * (s * ((T * g : Nat) : Int)) ≤ 2 * (v * ((2 * g : Nat) : Int))) : s * (T : Int) ≤ 2 * v := by
 have e1 : s * ((T * g : Nat) : Int) = s * (T : Int) * (g : Int) := by rw [Int.natCast_mul, Int.mul_assoc]
 have e2 : v * ((2 * g : Nat) : Int) = 2 * v * (g : Int) := by rw [Int.natCast_mul, ← Int.mul_assoc, Int.mul_comm v]; rfl
 rw [e1, e2] at h
 exact Int.le_of_mul_le_mul_right (by omega) (show (0 : Int) < (g : Int) by omega)
theorem cancel_hi (s v : Int) (T g : Nat) (hg : 0 < g) (h : 2 * (v * ((2 * g : Nat) : Int)) ≤ 2 * (s * ((T * g : Nat) : Int))) : 2 * v ≤ s * (T : Int) := by
 have e1 : s * ((T * g : Nat) : Int) = s * (T : Int) * (g : Int) := by rw [Int.natCast_mul, Int.mul_assoc]
 have e2 : v * ((2 * g : Nat) : Int) = 2 * v * (g : Int) := by rw [Int.natCast_mul, ← Int.mul_assoc, Int.mul_comm v]; rfl
 rw [e1, e2] at h
 exact Int.le_of_mul_le_mul_right (by omega) (show (0 : Int) < (g : Int) by omega)
theorem cancel_po (v : Int) (g : Nat) (hg : 0 < g) (h : 0 ≤ 2 * (v * ((2 * g : Nat) : Int))) : 0 ≤ v :=
 Int.le_of_mul_le_mul_right (by rw [Int.zero_mul]; omega) (show (0 : Int) < ((2 * g : Nat) : Int) by omega)
theorem rV_pos (j : Int) (z : Nat) (h : 0 ≤ j) : 0 ≤ rV j z := by unfold rV; rw [if_pos h]; omega
theorem between (σ : Bool) (T : Nat) (E : Int) (r : Int) (ur : U r) (hE : -20000 ≤ E ∧ E ≤ -1075) (hr : rungV r = sI σ * nearW T (E - 1)) (hw : 1 ≤ nearW T (E - 1) ∧ nearW T (E - 1) + 2 < 9218868437227405312) :
  sI σ * (T : Int) ≤ 2 * vI (midQ r) E ∧ 2 * vI (midQ (downV r)) E ≤ sI σ * (T : Int) ∧ (σ = false → 0 ≤ vI (midQ (downV r)) E) ∧ finB r = true ∧ U (downV r) ∧ finB (downV r) = true := by
 obtain ⟨K, hK⟩ : ∃ K : Nat, K = 32768 := ⟨_, rfl⟩
 obtain ⟨g1, g2⟩ := near_gap σ T (E - 1) K hK (by omega) (by omega)
 have hJ : (σ = false → rungV r = nearW T (E - 1)) ∧ -9218868437227405310 < rungV r ∧ rungV r < 9218868437227405310 := by
  rw [hr]
  cases σ with
  | false => rw [show sI false = 1 from rfl]; exact ⟨fun _ => (by omega), by omega, by omega⟩
  | true => rw [show sI true = -1 from rfl]; exact ⟨fun q => (by cases q), by omega, by omega⟩
 rw [← hr] at g1 g2
 have hx := fin_of_rung ur (by omega)
 obtain ⟨d1, d2⟩ := down_rung r ur hx
 have hd := fin_of_rung d2 (by omega)
 have m1 := mid_rung r ur (by omega) K hK
 have m2 := mid_rung (downV r) d2 (by omega) K hK
 rw [d1, show rungV r - 1 + 1 = rungV r by omega] at m2
 have e1 := vI_scale (midQ r) E K (by have := (mid_can r).2; omega) (by omega)
 have e2 := vI_scale (midQ (downV r)) E K (by have := (mid_can (downV r)).2; omega) (by omega)
 have hp : 2 ^ (E + K).toNat = 2 * 2 ^ (E - 1 + K).toNat := by rw [show (E + K).toNat = (E - 1 + K).toNat + 1 by omega, Nat.pow_succ, Nat.mul_comm]
 have hg := Nat.two_pow_pos (E - 1 + K).toNat
 rw [hp] at e1 e2
 rw [e1] at m1
 rw [e2] at m2
 refine ⟨cancel_lo _ _ _ _ hg ?_, cancel_hi _ _ _ _ hg ?_, fun q => cancel_po _ _ hg ?_, hx, d2, hd⟩
 ·rw [m1]; exact g1
 ·rw [m2]; exact g2
 ·rw [m2]
  have j := hJ.1 q
  have := rV_pos (rungV r - 1) (K - 1074) (by omega)
  have := rV_pos (rungV r) (K - 1074) (by omega)
  omega
theorem rtA_lo {k P Q s n : Nat} {mk : Bool} (h : RtA k P Q s mk) (hn : 2 * n ≤ skA s mk) : Q * n ^ k ≤ P := by
 have : n ≤ s := by unfold skA at hn; have := Bool.toNat_le mk; omega
 exact Nat.le_trans (Nat.mul_le_mul_left _ (Nat.pow_le_pow_left this k)) h.1
theorem rtA_hi {k P Q s n : Nat} {mk : Bool} (h : RtA k P Q s mk) (hn : skA s mk ≤ 2 * n) : P ≤ Q * n ^ k := by
 unfold skA at hn
 cases mk with
 | true =>
  have : s + 1 ≤ n := by rw [show true.toNat = 1 from rfl] at hn; omega
  exact Nat.le_trans (Nat.le_of_lt h.2.1) (Nat.mul_le_mul_left _ (Nat.pow_le_pow_left this k))
 | false =>
  have e : Q * s ^ k = P := by
   by_cases c : Q * s ^ k = P
   ·exact c
   ·have := h.2.2.2 c; cases this
  have : s ≤ n := by rw [show false.toNat = 0 from rfl] at hn; omega
  rw [← e]
  exact Nat.mul_le_mul_left _ (Nat.pow_le_pow_left this k)
theorem cu_cast (n : Nat) : ((1 * n ^ 3 : Nat) : Int) = (n : Int) * ((n : Int) * (n : Int)) := by
 rw [Nat.one_mul, Nat.pow_succ, Nat.pow_two, Nat.mul_comm, Int.natCast_mul, Int.natCast_mul]
theorem cube_lo {P s : Nat} {mk : Bool} (h : RtA 3 P 1 s mk) (b : Int) (hb : 2 * b ≤ (skA s mk : Int)) : b * (b * b) ≤ (P : Int) := by
 rcases Int.lt_or_le b 0 with c | c
 ·have h1 : 0 ≤ b * b := Int.mul_nonneg_of_nonpos_of_nonpos (Int.le_of_lt c) (Int.le_of_lt c)
  have h2 : b * (b * b) ≤ 0 := Int.mul_nonpos_of_nonpos_of_nonneg (Int.le_of_lt c) h1
  omega
 ·obtain ⟨n, rfl⟩ := Int.eq_ofNat_of_zero_le c
  have := Int.ofNat_le.2 (rtA_lo h (n := n) (by omega))
  rwa [cu_cast] at this
theorem cube_hi {P s : Nat} {mk : Bool} (h : RtA 3 P 1 s mk) (b : Int) (hb : (skA s mk : Int) ≤ 2 * b) : (P : Int) ≤ b * (b * b) := by
 obtain ⟨n, rfl⟩ := Int.eq_ofNat_of_zero_le (show 0 ≤ b by omega)
 have := Int.ofNat_le.2 (rtA_hi h (n := n) (by omega))
 rwa [cu_cast] at this
theorem sq_cast (m n : Nat) : ((m * n ^ 2 : Nat) : Int) = (m : Int) * ((n : Int) * (n : Int)) := by
 rw [Nat.pow_two, Int.natCast_mul, Int.natCast_mul]
theorem squ_lo {P Q s : Nat} {mk : Bool} (h : RtA 2 P Q s mk) (b : Int) (h0 : 0 ≤ b) (hb : 2 * b ≤ (skA s mk : Int)) : (Q : Int) * (b * b) ≤ (P : Int) := by
 obtain ⟨n, rfl⟩ := Int.eq_ofNat_of_zero_le h0
 have := Int.ofNat_le.2 (rtA_lo h (n := n) (by omega))
 rwa [sq_cast] at this
theorem squ_hi {P Q s : Nat} {mk : Bool} (h : RtA 2 P Q s mk) (b : Int) (hb : (skA s mk : Int) ≤ 2 * b) : (P : Int) ≤ (Q : Int) * (b * b) := by
 obtain ⟨n, rfl⟩ := Int.eq_ofNat_of_zero_le (show 0 ≤ b by omega)
 have := Int.ofNat_le.2 (rtA_hi h (n := n) (by omega))
 rwa [sq_cast] at this
theorem near_mid (M : Nat) (E : Int) (h0 : M ≠ 0) (h1 : -1000 ≤ tpI M E) (h2 : tpI M E ≤ 1000) : 1 ≤ nearW M E ∧ nearW M E + 2 < 9218868437227405312 := by
 have l1 : lsI M E = tpI M E - 52 := by unfold lsI; rw [if_neg (by omega)]
 have hm := M_lt M E
 unfold nearW
 rw [if_neg h0, if_neg (by omega)]
 unfold rd2
 have : (up2 M (lsI M E - E)).toNat ≤ 1 := Bool.toNat_le _
 omega
theorem skB_tp (s : Nat) (mk : Bool) (E : Int) (h : s ≠ 0) : tpI (skA s mk) (E - 1) = E - 1 + (blen s : Int) := by
 have hb := blen_shift 1 mk.toNat s (by have := Bool.toNat_le mk; omega) h
 have e : mk.toNat + 2 ^ 1 * s = skA s mk := by unfold skA; rw [Nat.pow_one]; omega
 rw [e] at hb
 unfold tpI
 omega
theorem rootB_mid (s : Nat) (mk : Bool) (E : Int) (h : s ≠ 0) (hb : blen s ≤ 66) (hE : -900 ≤ E ∧ E ≤ 900) : 1 ≤ nearW (skA s mk) (E - 1) ∧ nearW (skA s mk) (E - 1) + 2 < 9218868437227405312 := by
 have ht := skB_tp s mk E h
 refine near_mid _ _ (by unfold skA; omega) (by omega) (by omega)
theorem faB_tp (x : Int) (h0 : (fromP x).2.1 ≠ 0) : -1074 ≤ tpI (fromP x).2.1 (fromP x).2.2 ∧ tpI (fromP x).2.1 (fromP x).2.2 ≤ 1082 := by
 have hb := fa_bd x
 have : blen (fromP x).2.1 ≠ 0 := fun q => h0 ((blen_nil _).1 q)
 unfold tpI
 omega
theorem agXB (k : Nat) (tp : Int) (hk : k = 2 ∨ k = 3) (ht : -1082 ≤ tp ∧ tp ≤ 1082) : -900 ≤ agX k tp ∧ agX k tp ≤ 900 := by
 have h1 := agN_bd k tp (by omega)
 have h2 := agX_mul k tp
 rcases hk with q | q <;> subst q <;> omega
theorem root_mid (k : Nat) (x : Int) (hk : k = 2 ∨ k = 3) (h0 : (fromP x).2.1 ≠ 0) : 1 ≤ nearW (ansM k (fromP x).2.1 (fromP x).2.2) (ansE k (fromP x).2.1 (fromP x).2.2) ∧ nearW (ansM k (fromP x).2.1 (fromP x).2.2) (ansE k (fromP x).2.1 (fromP x).2.2) + 2 < 9218868437227405312 := by
 have hab := ansA_bd k _ (fromP x).2.2 hk h0
 have hb := rt_bd k _ (by omega) hab.1 hab.2
 have ht := faB_tp x h0
 exact rootB_mid _ _ _ hb.2.2 hb.2.1 (agXB k _ hk (by omega))
theorem inv_mid (x : Int) (h0 : (fromP x).2.1 ≠ 0) : 1 ≤ nearW (invM (fromP x).2.1 (fromP x).2.2) (invE (fromP x).2.1 (fromP x).2.2) ∧ nearW (invM (fromP x).2.1 (fromP x).2.2) (invE (fromP x).2.1 (fromP x).2.2) + 2 < 9218868437227405312 := by
 have hab := invA_bd _ (fromP x).2.2 h0
 have hb := rt_bd 2 _ (by omega) hab.1 hab.2
 have ht := faB_tp x h0
 exact rootB_mid _ _ _ hb.2.2 hb.2.1 (agXB 2 _ (Or.inl rfl) (by omega))
theorem cmpD_le (p q : Bool × Nat × Int) (F : Int) (hF : F ≤ 0) (hp : F ≤ p.2.2) (hq : F ≤ q.2.2) (h : vI p F ≤ vI q F) : cmpD p q ≤ 0 := by
 obtain ⟨K, hK⟩ : ∃ K : Nat, F = -(K : Int) := ⟨(-F).toNat, by omega⟩
 subst hK
 rw [vI_cmp p q K hp hq]
 exact (cmp_le _ _).2 h
def sqQ (p : Bool × Nat × Int) : Bool × Nat × Int := mulD p p
def cuQ (p : Bool × Nat × Int) : Bool × Nat × Int := mulD p (mulD p p)
theorem sqQ_v (p : Bool × Nat × Int) (E : Int) (h : E ≤ p.2.2) (h0 : E ≤ 0) : vI (sqQ p) (E + E) = vI p E * vI p E ∧ E + E ≤ (sqQ p).2.2 := ⟨vI_mul p p E E h h, mul_low p p E E (by omega) h h⟩
theorem tiQ_v (q p : Bool × Nat × Int) (F E : Int) (hq : F ≤ q.2.2) (h : E ≤ p.2.2) (h0 : E ≤ 0) (hF : F ≤ 0) : vI (mulD q (sqQ p)) (F + (E + E)) = vI q F * (vI p E * vI p E) ∧ F + (E + E) ≤ (mulD q (sqQ p)).2.2 := by
 obtain ⟨a, b⟩ := sqQ_v p E h h0
 refine ⟨?_, mul_low q _ F (E + E) (by omega) hq b⟩
 rw [vI_mul q (sqQ p) F (E + E) hq b, a]
theorem cb_between (x : Int) (ux : U x) (hx : finB x = true) (h0 : (fromP x).2.1 ≠ 0) (uc : U (cbB x)) :
  (finB (cbB x) = true ∧ U (downV (cbB x)) ∧ finB (downV (cbB x)) = true) ∧ cmpD (cuQ (midQ (downV (cbB x)))) (fromP x) ≤ 0 ∧ cmpD (fromP x) (cuQ (midQ (cbB x))) ≤ 0 := by
 obtain ⟨E, hE⟩ : ∃ E : Int, E = -6000 := ⟨_, rfl⟩
 have hb := fa_bd x
 have hX := agX_bd 3 _ (Or.inr rfl) (fa_tp x)
 obtain ⟨n1, -, -, -⟩ := ans_at 3 (fromP x).2.1 (fromP x).2.2 E (Or.inr rfl) h0 (by omega) (by omega)
 have hw := root_mid 3 x (Or.inr rfl) h0
 have hr := cb_rung x ux hx
 unfold rtW at hr
 rw [if_neg h0, n1] at hr
 rw [n1] at hw
 obtain ⟨g1, g2, -, f1, f2, f3⟩ := between (fromP x).1 (atM 3 (fromP x).2.1 (fromP x).2.2 E) E (cbB x) uc (by omega) hr hw
 have rA := ag_rtA 3 (fromP x).2.1 ((fromP x).2.2 - (3 : Nat) * E) (by decide)
 rw [show agQ ((fromP x).2.2 - (3 : Nat) * E) = 1 by unfold agQ; rw [show (-((fromP x).2.2 - ((3 : Nat) : Int) * E)).toNat = 0 by omega]] at rA
 unfold atM at g1 g2
 have hv : vI (fromP x) (E + (E + E)) = sI (fromP x).1 * ((agP (fromP x).2.1 ((fromP x).2.2 - (3 : Nat) * E) : Nat) : Int) := by
  unfold vI agP
  rw [show ((fromP x).2.2 - (E + (E + E))).toNat = ((fromP x).2.2 - ((3 : Nat) : Int) * E).toNat by omega]
 have l1 := (mid_can (downV (cbB x))).2
 have l2 := (mid_can (cbB x)).2
 obtain ⟨v1, w1⟩ := tiQ_v (midQ (downV (cbB x))) (midQ (downV (cbB x))) E E (by omega) (by omega) (by omega) (by omega)
 obtain ⟨v2, w2⟩ := tiQ_v (midQ (cbB x)) (midQ (cbB x)) E E (by omega) (by omega) (by omega) (by omega)
 refine ⟨⟨f1, f2, f3⟩, cmpD_le _ _ (E + (E + E)) (by omega) w1 (by omega) ?_, cmpD_le _ _ (E + (E + E)) (by omega) (by omega) w2 ?_⟩
 ·show vI (mulD _ (sqQ _)) _ ≤ _
  rw [v1, hv]
  generalize vI (midQ (downV (cbB x))) E = b at *
  cases hs : (fromP x).1 with
  | false =>
   rw [hs, show sI false = 1 from rfl, Int.one_mul] at g2
   rw [show sI false = 1 from rfl, Int.one_mul]
   exact cube_lo rA b g2
  | true =>
   rw [hs, show sI true = -1 from rfl] at g2
   rw [show sI true = -1 from rfl]
   have := cube_hi rA (-b) (by omega)
   rw [Int.neg_mul_neg, Int.neg_mul] at this
   omega
 ·show _ ≤ vI (mulD _ (sqQ _)) _
  rw [v2, hv]
  generalize vI (midQ (cbB x)) E = b at *
  cases hs : (fromP x).1 with
  | false =>
   rw [hs, show sI false = 1 from rfl, Int.one_mul] at g1
   rw [show sI false = 1 from rfl, Int.one_mul]
   exact cube_hi rA b g1
  | true =>
   rw [hs, show sI true = -1 from rfl] at g1
   rw [show sI true = -1 from rfl]
   have := cube_lo rA (-b) (by omega)
   rw [Int.neg_mul_neg, Int.neg_mul] at this
   omega
theorem sq_between (x : Int) (ux : U x) (hx : sqE x = 0) (h0 : (fromP x).2.1 ≠ 0) (uc : U (sqB x)) :
  (finB (sqB x) = true ∧ U (downV (sqB x)) ∧ finB (downV (sqB x)) = true) ∧ cmpD (sqQ (midQ (downV (sqB x)))) (fromP x) ≤ 0 ∧ cmpD (fromP x) (sqQ (midQ (sqB x))) ≤ 0 := by
 obtain ⟨E, hE⟩ : ∃ E : Int, E = -6000 := ⟨_, rfl⟩
 have hb := fa_bd x
 have hs := (sq_ok hx).2
 have hX := agX_bd 2 _ (Or.inl rfl) (fa_tp x)
 obtain ⟨n1, -, -, -⟩ := ans_at 2 (fromP x).2.1 (fromP x).2.2 E (Or.inl rfl) h0 (by omega) (by omega)
 have hw := root_mid 2 x (Or.inl rfl) h0
 have hr := sq_rung x ux hx
 unfold rtW at hr
 rw [if_neg h0, n1] at hr
 rw [n1] at hw
 obtain ⟨g1, g2, g3, f1, f2, f3⟩ := between false (atM 2 (fromP x).2.1 (fromP x).2.2 E) E (sqB x) uc (by omega) (by rw [hr, show sI false = 1 from rfl, Int.one_mul]) hw
 have rA := ag_rtA 2 (fromP x).2.1 ((fromP x).2.2 - (2 : Nat) * E) (by decide)
 rw [show agQ ((fromP x).2.2 - (2 : Nat) * E) = 1 by unfold agQ; rw [show (-((fromP x).2.2 - ((2 : Nat) : Int) * E)).toNat = 0 by omega]] at rA
 unfold atM at g1 g2
 rw [show sI false = 1 from rfl, Int.one_mul] at g1 g2
 have hv : vI (fromP x) (E + E) = ((agP (fromP x).2.1 ((fromP x).2.2 - (2 : Nat) * E) : Nat) : Int) := by
  unfold vI agP
  rw [hs, show sI false = 1 from rfl, Int.one_mul, show ((fromP x).2.2 - (E + E)).toNat = ((fromP x).2.2 - ((2 : Nat) : Int) * E).toNat by omega]
 have l1 := (mid_can (downV (sqB x))).2
 have l2 := (mid_can (sqB x)).2
 obtain ⟨v1, w1⟩ := sqQ_v (midQ (downV (sqB x))) E (by omega) (by omega)
 obtain ⟨v2, w2⟩ := sqQ_v (midQ (sqB x)) E (by omega) (by omega)
 refine ⟨⟨f1, f2, f3⟩, cmpD_le _ _ (E + E) (by omega) w1 (by omega) ?_, cmpD_le _ _ (E + E) (by omega) (by omega) w2 ?_⟩
 ·rw [v1, hv]
  have := squ_lo rA _ (g3 rfl) g2
  rwa [show ((1 : Nat) : Int) = 1 from rfl, Int.one_mul] at this
 ·rw [v2, hv]
  have := squ_hi rA _ g1
  rwa [show ((1 : Nat) : Int) = 1 from rfl, Int.one_mul] at this
theorem rs_between (x : Int) (hx : rsE x = 0) (uc : U (rsB x)) :
  (finB (rsB x) = true ∧ U (downV (rsB x)) ∧ finB (downV (rsB x)) = true) ∧ cmpD (mulD (fromP x) (sqQ (midQ (downV (rsB x))))) (false, 1, 0) ≤ 0 ∧ cmpD (false, 1, 0) (mulD (fromP x) (sqQ (midQ (rsB x)))) ≤ 0 := by
 obtain ⟨E, hE⟩ : ∃ E : Int, E = -6000 := ⟨_, rfl⟩
 obtain ⟨F, hF⟩ : ∃ F : Int, F = -1074 := ⟨_, rfl⟩
 have hb := fa_bd x
 obtain ⟨-, hs, h0⟩ := rs_ok hx
 have ht := faB_tp x h0
 have hX := agX_bd 2 (-(tpI (fromP x).2.1 (fromP x).2.2)) (Or.inl rfl) (by omega)
 obtain ⟨n1, -, -, -⟩ := inv_at (fromP x).2.1 (fromP x).2.2 E h0 (by omega) (by omega)
 have hw := inv_mid x h0
 have hr := rs_rung x hx
 rw [n1] at hr hw
 obtain ⟨g1, g2, g3, f1, f2, f3⟩ := between false (atI (fromP x).2.1 (fromP x).2.2 E) E (rsB x) uc (by omega) (by rw [hr, show sI false = 1 from rfl, Int.one_mul]) hw
 have rA : RtA 2 (2 ^ (-(2 * E) - (fromP x).2.2).toNat) (fromP x).2.1 _ _ := rtA_of 2 _ _ (by decide) (by omega)
 unfold atI at g1 g2
 rw [show sI false = 1 from rfl, Int.one_mul] at g1 g2
 have hv : vI (fromP x) F = ((2 ^ ((fromP x).2.2 - F).toNat : Nat) : Int) * ((fromP x).2.1 : Int) := by
  unfold vI
  rw [hs, show sI false = 1 from rfl, Int.one_mul, Int.natCast_mul, Int.mul_comm]
 have ho : vI (false, 1, 0) (F + (E + E)) = ((2 ^ ((fromP x).2.2 - F).toNat : Nat) : Int) * ((2 ^ (-(2 * E) - (fromP x).2.2).toNat : Nat) : Int) := by
  unfold vI
  show sI false * ((1 * 2 ^ (0 - (F + (E + E))).toNat : Nat) : Int) = _
  rw [show sI false = 1 from rfl, Int.one_mul, Nat.one_mul, ← Int.natCast_mul, ← Nat.pow_add]
  congr 2
  omega
 have l1 := (mid_can (downV (rsB x))).2
 have l2 := (mid_can (rsB x)).2
 obtain ⟨v1, w1⟩ := tiQ_v (fromP x) (midQ (downV (rsB x))) F E (by omega) (by omega) (by omega) (by omega)
 obtain ⟨v2, w2⟩ := tiQ_v (fromP x) (midQ (rsB x)) F E (by omega) (by omega) (by omega) (by omega)
 have hp : (0 : Int) ≤ ((2 ^ ((fromP x).2.2 - F).toNat : Nat) : Int) := Int.natCast_nonneg _
 refine ⟨⟨f1, f2, f3⟩, cmpD_le _ _ (F + (E + E)) (by omega) w1 (by show F + (E + E) ≤ 0; omega) ?_, cmpD_le _ _ (F + (E + E)) (by omega) (by show F + (E + E) ≤ 0; omega) w2 ?_⟩
 ·rw [v1, hv, ho, Int.mul_assoc]
  exact Int.mul_le_mul_of_nonneg_left (squ_lo rA _ (g3 rfl) g2) hp
 ·rw [v2, hv, ho, Int.mul_assoc]
  exact Int.mul_le_mul_of_nonneg_left (squ_hi rA _ g1) hp
theorem mulD_bd (p q : Bool × Nat × Int) (a b : Nat) (hp : blen p.2.1 ≤ a) (hq : blen q.2.1 ≤ b) (ep : -(a : Int) ≤ p.2.2 ∧ p.2.2 ≤ a) (eq : -(b : Int) ≤ q.2.2 ∧ q.2.2 ≤ b) : blen (mulD p q).2.1 ≤ a + b ∧ -(2 * ((a : Int) + b)) ≤ (mulD p q).2.2 ∧ (mulD p q).2.2 ≤ 2 * ((a : Int) + b) := by
 have h1 : blen (p.2.1 * q.2.1) ≤ a + b := by
  refine (blen_le _ _).2 ?_
  rw [Nat.pow_add]
  exact Nat.mul_lt_mul'' ((blen_le _ _).1 hp) ((blen_le _ _).1 hq)
 unfold mulD
 refine ⟨Nat.le_trans (blen_mono (form_amount_le _ _ _)) h1, form_lo _ _ _ _ (by omega) (by omega), ?_⟩
 by_cases h0 : p.2.1 * q.2.1 = 0
 ·rw [h0, form_zero]; show (0 : Int) ≤ _; omega
 ·rw [form_pos _ h0]
  have := tz_le_blen (p.2.1 * q.2.1)
  show p.2.2 + q.2.2 + (tz (p.2.1 * q.2.1) : Int) ≤ _
  omega
theorem midQ_right (x : Int) (ux : U x) (hx : finB x = true) : blen (midQ x).2.1 ≤ 65536 ∧ -65536 ≤ (midQ x).2.2 ∧ (midQ x).2.2 ≤ 65536 := by
 have h := (three x 1100 ux hx (by omega)).1
 obtain ⟨a, b⟩ := rightB_yes h
 exact ⟨(great_not _).1 a, by omega, by omega⟩
end Go.Proofs.YtionhpedghmecaaGreatDoor
