/- Less a number: what alg answers of it (pure). Roots at any scale; they rise; of powers they are what was raised (pure). -/
import Derived.Test.YtfgemlgmhlidmaaGreatDoorALX

namespace Go.Proofs.YtfgemlgmhlidmaaGreatDoor
open Go.RowKit

theorem ng_parts (x : Int) (h : U x) : expV (negV x) = expV x ∧ fracV (negV x) = fracV x ∧ sgnB (negV x) = !sgnB x ∧ finB (negV x) = finB x ∧ U (negV x) := by
 unfold U at h
 refine ⟨?_, ?_, ?_, ?_, ?_⟩
 ·unfold expV negV; omega
 ·unfold fracV negV; omega
 ·unfold sgnB negV
  by_cases q : 9223372036854775808 ≤ x
  ·rw [decide_eq_true q, decide_eq_false (by omega)]; rfl
  ·rw [decide_eq_false q, decide_eq_true (by omega)]; rfl
 ·unfold finB negV
  rw [decide_eq_decide]
  omega
 ·unfold U negV; omega
theorem ng_from (x : Int) (h : U x) : (fromP (negV x)).2 = (fromP x).2 ∧ ((fromP x).2.1 ≠ 0 → (fromP (negV x)).1 = !(fromP x).1) := by
 obtain ⟨h1, h2, h3, h4, _⟩ := ng_parts x h
 have hc : countV (negV x) = countV x := by unfold countV; rw [h1, h2]
 have hu : unitV (negV x) = unitV x := by unfold unitV; rw [h1]
 unfold fromP fromD
 rw [h4, hc, hu, h3]
 by_cases hf : finB x = true
 ·rw [if_pos hf, if_pos hf]
  by_cases h0 : (countV x).toNat = 0
  ·rw [h0, form_zero, form_zero]; exact ⟨rfl, fun q => absurd rfl q⟩
  ·rw [form_pos _ h0, form_pos _ h0]; exact ⟨rfl, fun _ => rfl⟩
 ·rw [if_neg hf, if_neg hf]; exact ⟨rfl, fun q => absurd rfl q⟩
theorem ng_near (s : Bool) (m : Nat) (e : Int) (hr : rightB m e = true) (h0 : m ≠ 0) : nbR (!s) m e = negV (nbR s m e) ∧ flR (!s) m e = flR s m e := by
 have hb : nearB (!s) m e = negV (nearB s m e) := by
  have w := nearW_bd m e
  unfold nearB
  rw [decide_eq_true h0]
  cases s
  ·simp
  ·simp; unfold negV; omega
 refine ⟨by unfold nbR; rw [if_pos hr, if_pos hr, hb], ?_⟩
 unfold flR
 rw [if_pos hr, if_pos hr, hb]
 unfold inxF
 rw [show absV (negV (nearB s m e)) = absV (nearB s m e) from by have := nearB_U s m e; unfold absV negV; unfold U at this; omega]
/-- what is answered of a root is right, and not 0 -/
theorem ans_right (k m : Nat) (e : Int) (hk : k = 2 ∨ k = 3) (h0 : m ≠ 0) (ht : -5000 ≤ tpI m e ∧ tpI m e ≤ 5000) : rightB (ansM k m e) (ansE k m e) = true ∧ ansM k m e ≠ 0 ∧ 2 ^ 53 ≤ rt k (agA m (ansI k m e)) := by
 have hab := ansA_bd k m e hk h0
 have hb := rt_bd k _ (by omega) hab.1 hab.2
 have hx := agX_bd k _ hk ht
 refine ⟨sk_right _ _ hb.2.1 (by unfold ansE; omega) (by unfold ansE; omega), ?_, hb.1⟩
 unfold ansM skA
 have := hb.2.2
 omega
theorem inv_right (m : Nat) (e : Int) (h0 : m ≠ 0) (ht : -5000 ≤ tpI m e ∧ tpI m e ≤ 5000) : rightB (invM m e) (invE m e) = true ∧ invM m e ≠ 0 ∧ 2 ^ 53 ≤ rt 2 (invA m e) := by
 have hab := invA_bd m e h0
 have hb := rt_bd 2 _ (by omega) hab.1 hab.2
 have hx := agX_bd 2 (-(tpI m e)) (Or.inl rfl) (by omega)
 refine ⟨sk_right _ _ hb.2.1 (by unfold invE; omega) (by unfold invE; omega), ?_, hb.1⟩
 unfold invM skA
 have := hb.2.2
 omega
theorem fa_tp (x : Int) : -5000 ≤ tpI (fromP x).2.1 (fromP x).2.2 ∧ tpI (fromP x).2.1 (fromP x).2.2 ≤ 5000 := by
 have := fa_bd x
 unfold tpI
 omega
theorem cb_mirror (x : Int) (h : U x) : lastE (negV x) = lastE x ∧ (lastE x = 0 → cbB (negV x) = negV (cbB x) ∧ cbF (negV x) = cbF x) := by
 obtain ⟨n1, n2⟩ := ng_from x h
 obtain ⟨_, _, _, hf, _⟩ := ng_parts x h
 refine ⟨by unfold lastE; rw [hf], fun hl => ?_⟩
 have hfx : finB x = true := by
  cases q : finB x with
  | true => rfl
  | false => rw [(last_no q).1] at hl; cases hl
 unfold cbB cbF
 rw [hf, if_pos hfx, if_pos hfx, n1]
 by_cases h0 : (fromP x).2.1 = 0
 ·rw [if_pos h0, if_pos h0, if_pos h0]; exact ⟨rfl, by rw [if_pos h0]⟩
 ·rw [if_neg h0, if_neg h0, if_neg h0, n2 h0]
  obtain ⟨r1, r2, _⟩ := ans_right 3 _ _ (Or.inr rfl) h0 (fa_tp x)
  exact ⟨(ng_near _ _ _ r1 r2).1, by rw [if_neg h0]; exact (ng_near _ _ _ r1 r2).2⟩
theorem sq_mirror (x : Int) (h : U x) : sqD (negV x) = sqD x := by
 have n1 := (ng_from x h).1
 unfold sqD mulD
 rw [n1]
 simp
theorem hy_mirror (x y : Int) (hx : U x) (hy : U y) : (hyE y (negV x) = hyE x y ∧ hyB y (negV x) = hyB x y ∧ hyF y (negV x) = hyF x y) ∧ (hyE (negV y) x = hyE x y ∧ hyB (negV y) x = hyB x y ∧ hyF (negV y) x = hyF x y) := by
 have fx := (ng_parts x hx).2.2.2.1
 have fy := (ng_parts y hy).2.2.2.1
 have d1 : hyD y (negV x) = hyD x y := by rw [hy_comm]; unfold hyD; rw [sq_mirror x hx]
 have d2 : hyD (negV y) x = hyD x y := by rw [hy_comm]; unfold hyD; rw [sq_mirror y hy]
 have e1 : hyE y (negV x) = hyE x y := by unfold hyE; rw [fx, Bool.and_comm]
 have e2 : hyE (negV y) x = hyE x y := by unfold hyE; rw [fy, Bool.and_comm]
 unfold hyB hyF
 rw [d1, d2, e1, e2]
 exact ⟨⟨rfl, rfl, rfl⟩, ⟨rfl, rfl, rfl⟩⟩

theorem ag_ratio (m : Nat) (i d : Int) (hd : 0 ≤ d) : agP m (i + d) * agQ i = agP m i * agQ (i + d) * 2 ^ d.toNat := by
 unfold agP agQ
 rw [Nat.mul_assoc, ← Nat.pow_add, Nat.mul_assoc, Nat.mul_assoc, ← Nat.pow_add, ← Nat.pow_add]
 congr 2
 omega
theorem agQ_pos (i : Int) : 0 < agQ i := Nat.two_pow_pos _
theorem ag_rtA (k m : Nat) (i : Int) (hk : 0 < k) : RtA k (agP m i) (agQ i) (rt k (agA m i)) (ansK k (agA m i) (agL m i)) := rtA_of k _ _ hk (agQ_pos i)
/-- a root, told in units of 2^E; one divided by it -/
def atM (k m : Nat) (e E : Int) : Nat := skA (rt k (agA m (e - k * E))) (ansK k (agA m (e - k * E)) (agL m (e - k * E)))
def atI (m : Nat) (e E : Int) : Nat := skA (rt 2 (2 ^ (-(2 * E) - e).toNat / m)) (ansK 2 (2 ^ (-(2 * E) - e).toNat / m) (decide (2 ^ (-(2 * E) - e).toNat % m ≠ 0)))
theorem ans_at (k m : Nat) (e E : Int) (hk : k = 2 ∨ k = 3) (h0 : m ≠ 0) (hE : E ≤ agX k (tpI m e)) (hl : -30000 ≤ E) :
  nearW (ansM k m e) (ansE k m e) = nearW (atM k m e E) (E - 1) ∧ exactB (ansM k m e) (ansE k m e) = exactB (atM k m e E) (E - 1) ∧ tinyP (ansM k m e) (ansE k m e) = tinyP (atM k m e E) (E - 1) ∧ atM k m e E ≠ 0 := by
 obtain ⟨j, hj⟩ : ∃ j : Nat, agX k (tpI m e) = E + j := ⟨(agX k (tpI m e) - E).toNat, by omega⟩
 have hab := ansA_bd k m e hk h0
 have hb := (rt_bd k _ (by omega) hab.1 hab.2).1
 have hm := agX_mul k (tpI m e)
 have r1 := ag_rtA k m (ansI k m e) (by omega)
 have r2 := ag_rtA k m (e - k * E) (by omega)
 have hi : e - k * E = ansI k m e + ((j * k : Nat) : Int) := by
  unfold ansI
  rw [hj] at hm
  rcases hk with q | q <;> subst q <;> omega
 have hr := ag_ratio m (ansI k m e) ((j * k : Nat) : Int) (by omega)
 rw [← hi, Int.toNat_natCast, Nat.pow_mul] at hr
 obtain ⟨s1, s2⟩ := rtA_scale (by omega) (agQ_pos _) (agQ_pos _) r1 r2 j hr
 have := skA_near _ _ j _ _ (E - 1) (by omega) s1 s2 hb
 unfold ansM atM ansE
 rw [hj, show E + (j : Int) - 1 = E - 1 + j by omega]
 exact ⟨this.1, this.2.1, this.2.2.1, this.2.2.2.2⟩
theorem inv_at (m : Nat) (e E : Int) (h0 : m ≠ 0) (hE : E ≤ agX 2 (-(tpI m e))) (hl : -30000 ≤ E) :
  nearW (invM m e) (invE m e) = nearW (atI m e E) (E - 1) ∧ exactB (invM m e) (invE m e) = exactB (atI m e E) (E - 1) ∧ tinyP (invM m e) (invE m e) = tinyP (atI m e E) (E - 1) ∧ atI m e E ≠ 0 := by
 obtain ⟨j, hj⟩ : ∃ j : Nat, agX 2 (-(tpI m e)) = E + j := ⟨(agX 2 (-(tpI m e)) - E).toNat, by omega⟩
 have hab := invA_bd m e h0
 have hb := (rt_bd 2 _ (by omega) hab.1 hab.2).1
 have hm := agX_mul 2 (-(tpI m e))
 have hib := invI_bd m e
 have r1 : RtA 2 (2 ^ (invI m e).toNat) m (rt 2 (invA m e)) (ansK 2 (invA m e) (invL m e)) := rtA_of 2 _ _ (by decide) (by omega)
 have r2 : RtA 2 (2 ^ (-(2 * E) - e).toNat) m (rt 2 (2 ^ (-(2 * E) - e).toNat / m)) (ansK 2 (2 ^ (-(2 * E) - e).toNat / m) (decide (2 ^ (-(2 * E) - e).toNat % m ≠ 0))) := rtA_of 2 _ _ (by decide) (by omega)
 have hi : (-(2 * E) - e).toNat = (invI m e).toNat + j * 2 := by
  unfold invI at *
  rw [hj] at hm
  omega
 have hr : 2 ^ (-(2 * E) - e).toNat * m = 2 ^ (invI m e).toNat * m * (2 ^ j) ^ 2 := by
  rw [hi, Nat.pow_add, Nat.pow_mul, Nat.mul_right_comm]
 obtain ⟨s1, s2⟩ := rtA_scale (by omega) (by omega) (by omega) r1 r2 j hr
 have := skA_near _ _ j _ _ (E - 1) (by omega) s1 s2 hb
 unfold invM atI invE
 rw [hj, show E + (j : Int) - 1 = E - 1 + j by omega]
 exact ⟨this.1, this.2.1, this.2.2.1, this.2.2.2.2⟩
/-- of a greater number the root that is told is greater or the same -/
theorem skA_mono {k P Q s P' Q' s' : Nat} {mk mk' : Bool} (hk : 0 < k) (hQ : 0 < Q) (hQ' : 0 < Q') (h : RtA k P Q s mk) (h' : RtA k P' Q' s' mk') (hle : P * Q' ≤ P' * Q) : skA s mk ≤ skA s' mk' := by
 have a1 : s ≤ s' := by
  refine rtA_le hk h' hQ' (Nat.le_of_mul_le_mul_right (c := Q) ?_ hQ)
  refine Nat.le_trans ?_ hle
  rw [Nat.mul_right_comm, Nat.mul_comm Q', Nat.mul_right_comm]
  exact Nat.mul_le_mul_right _ h.1
 unfold skA
 have b1 := Bool.toNat_le mk
 have b2 := Bool.toNat_le mk'
 rcases Nat.lt_or_ge s s' with q | q
 ·omega
 ·have e : s = s' := by omega
  subst e
  cases hm' : mk' with
  | true => simp; omega
  | false =>
   have e1 : Q' * s ^ k = P' := by
    by_cases c : Q' * s ^ k = P'
    ·exact c
    ·have := h'.2.2.2 c; rw [hm'] at this; cases this
   have e2 : P ≤ Q * s ^ k := by
    refine Nat.le_of_mul_le_mul_right (c := Q') ?_ hQ'
    rw [← e1] at hle
    refine Nat.le_trans hle (Nat.le_of_eq ?_)
    rw [Nat.mul_comm Q', Nat.mul_right_comm, Nat.mul_comm Q]
   have e3 : mk = false := by
    cases hm : mk with
    | false => rfl
    | true => exact absurd (Nat.le_antisymm h.1 e2) (h.2.2.1 hm)
   rw [e3]
   simp
theorem scale_le {m m' a b p q : Nat} (h : m * 2 ^ p ≤ m' * 2 ^ q) (he : a + q = b + p) : m * 2 ^ a ≤ m' * 2 ^ b := by
 refine Nat.le_of_mul_le_mul_right (c := 2 ^ p) ?_ (Nat.two_pow_pos p)
 rw [Nat.mul_assoc m', ← Nat.pow_add, ← he, Nat.mul_right_comm, Nat.pow_add, ← Nat.mul_assoc, Nat.mul_right_comm m']
 exact Nat.mul_le_mul_right _ h
theorem root_mono (k m : Nat) (e : Int) (m' : Nat) (e' : Int) (K : Nat) (hk : k = 2 ∨ k = 3) (h0 : m ≠ 0) (h0' : m' ≠ 0) (he : -(K : Int) ≤ e) (he' : -(K : Int) ≤ e') (ht : -5000 ≤ tpI m e ∧ tpI m e ≤ 5000) (ht' : -5000 ≤ tpI m' e' ∧ tpI m' e' ≤ 5000) (h : m * 2 ^ (e + K).toNat ≤ m' * 2 ^ (e' + K).toNat) :
  nearW (ansM k m e) (ansE k m e) ≤ nearW (ansM k m' e') (ansE k m' e') := by
 have x1 := agX_bd k _ hk ht
 have x2 := agX_bd k _ hk ht'
 obtain ⟨E, e1, e2, e3⟩ : ∃ E : Int, E ≤ agX k (tpI m e) ∧ E ≤ agX k (tpI m' e') ∧ -6000 ≤ E := ⟨min (agX k (tpI m e)) (agX k (tpI m' e')), by omega, by omega, by omega⟩
 rw [(ans_at k m e E hk h0 e1 (by omega)).1, (ans_at k m' e' E hk h0' e2 (by omega)).1]
 obtain ⟨K2, hK2⟩ : ∃ K2 : Nat, K2 = 32768 := ⟨_, rfl⟩
 refine near_mono _ _ _ _ K2 (by omega) (by omega) (by omega) (Nat.mul_le_mul_right _ ?_)
 refine skA_mono (by omega) (agQ_pos _) (agQ_pos _) (ag_rtA k m _ (by omega)) (ag_rtA k m' _ (by omega)) ?_
 unfold agP agQ
 rw [Nat.mul_assoc, ← Nat.pow_add, Nat.mul_assoc, ← Nat.pow_add]
 exact scale_le h (by omega)
theorem inv_mono (m : Nat) (e : Int) (m' : Nat) (e' : Int) (K : Nat) (h0 : m ≠ 0) (h0' : m' ≠ 0) (he : -(K : Int) ≤ e) (he' : -(K : Int) ≤ e') (ht : -5000 ≤ tpI m e ∧ tpI m e ≤ 5000) (ht' : -5000 ≤ tpI m' e' ∧ tpI m' e' ≤ 5000) (h : m * 2 ^ (e + K).toNat ≤ m' * 2 ^ (e' + K).toNat) :
  nearW (invM m' e') (invE m' e') ≤ nearW (invM m e) (invE m e) := by
 have x1 := agX_bd 2 (-(tpI m e)) (Or.inl rfl) (by omega)
 have x2 := agX_bd 2 (-(tpI m' e')) (Or.inl rfl) (by omega)
 have i1 := invI_bd m e
 have i2 := invI_bd m' e'
 have m1 := agX_mul 2 (-(tpI m e))
 have m2 := agX_mul 2 (-(tpI m' e'))
 obtain ⟨E, e1, e2, e3⟩ : ∃ E : Int, E ≤ agX 2 (-(tpI m e)) ∧ E ≤ agX 2 (-(tpI m' e')) ∧ -6000 ≤ E := ⟨min (agX 2 (-(tpI m e))) (agX 2 (-(tpI m' e'))), by omega, by omega, by omega⟩
 rw [(inv_at m e E h0 e1 (by omega)).1, (inv_at m' e' E h0' e2 (by omega)).1]
 obtain ⟨K2, hK2⟩ : ∃ K2 : Nat, K2 = 32768 := ⟨_, rfl⟩
 refine near_mono _ _ _ _ K2 (by omega) (by omega) (by omega) (Nat.mul_le_mul_right _ ?_)
 refine skA_mono (k := 2) (by omega) (show 0 < m' by omega) (show 0 < m by omega) (rtA_of 2 _ _ (by decide) (by omega)) (rtA_of 2 _ _ (by decide) (by omega)) ?_
 rw [Nat.mul_comm, Nat.mul_comm _ m']
 unfold invI at i1 i2
 exact scale_le h (by omega)
theorem rt_pow (k z : Nat) (hk : 0 < k) : rt k (z ^ k) = z := (rt_unique hk (Nat.le_refl _) (Nat.pow_lt_pow_left (Nat.lt_succ_self z) (by omega))).symm
/-- the root of a power is what was raised, rounded -/
theorem root_pow (k z : Nat) (f : Int) (hk : k = 2 ∨ k = 3) (h0 : z ≠ 0) (hf : -5000 ≤ f) (hf2 : f ≤ 5000) (ht : -5000 ≤ tpI (z ^ k) (k * f) ∧ tpI (z ^ k) (k * f) ≤ 5000) :
  nearW (ansM k (z ^ k) (k * f)) (ansE k (z ^ k) (k * f)) = nearW z f ∧ exactB (ansM k (z ^ k) (k * f)) (ansE k (z ^ k) (k * f)) = exactB z f ∧ tinyP (ansM k (z ^ k) (k * f)) (ansE k (z ^ k) (k * f)) = tinyP z f := by
 have x1 := agX_bd k _ hk ht
 have hz : z ^ k ≠ 0 := Nat.pos_iff_ne_zero.1 (Nat.pow_pos (by omega))
 obtain ⟨E, e1, e2, e3⟩ : ∃ E : Int, E ≤ agX k (tpI (z ^ k) (k * f)) ∧ E ≤ f ∧ -6000 ≤ E := ⟨min (agX k (tpI (z ^ k) (k * f))) f, by omega, by omega, by omega⟩
 obtain ⟨r1, r2, r3, _⟩ := ans_at k (z ^ k) (k * f) E hk hz e1 (by omega)
 obtain ⟨j, hj⟩ : ∃ j : Nat, f = E + j := ⟨(f - E).toNat, by omega⟩
 have hi : (k : Int) * f - k * E = ((j * k : Nat) : Int) := by
  rw [hj]
  rcases hk with q | q <;> subst q <;> omega
 have hA : agA (z ^ k) (k * f - k * E) = (z * 2 ^ j) ^ k := by
  unfold agA agP agQ
  rw [hi, Int.toNat_natCast, show (-((j * k : Nat) : Int)).toNat = 0 by omega, Nat.pow_zero, Nat.div_one, Nat.mul_pow, Nat.pow_mul]
 have hL : agL (z ^ k) (k * f - k * E) = false := by
  unfold agL agQ
  rw [hi, show (-((j * k : Nat) : Int)).toNat = 0 by omega, Nat.pow_zero, Nat.mod_one]
  rfl
 have hM : atM k (z ^ k) (k * f) E = 2 * (z * 2 ^ j) := by
  unfold atM ansK skA
  rw [hA, hL, rt_pow k _ (by omega), Nat.sub_self]
  rfl
 obtain ⟨K, hK⟩ : ∃ K : Nat, K = 32768 := ⟨_, rfl⟩
 have hT : 2 * (z * 2 ^ j) * 2 ^ (E - 1 + K).toNat = z * 2 ^ (f + K).toNat := by
  rw [show (f + K).toNat = 1 + j + (E - 1 + K).toNat by omega, Nat.pow_add, Nat.pow_add, Nat.pow_one, Nat.mul_left_comm 2, Nat.mul_assoc, Nat.mul_assoc]
 obtain ⟨n1, n2, _⟩ := near_same (2 * (z * 2 ^ j)) (E - 1) z f K (by omega) (by omega) (by omega) hT
 rw [r1, r2, r3, hM]
 refine ⟨n1, n2, ?_⟩
 rw [tiny_num _ _ K (by omega) (by omega), tiny_num _ _ K (by omega) (by omega), hT]
end Go.Proofs.YtfgemlgmhlidmaaGreatDoor
