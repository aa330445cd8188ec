/- Roots do not fall, reciprocals do not rise; a distance lies between the greater amount and both together (pure). -/
import Derived.Test.YtfgemlgmhlidmaaGreatDoorAMX
import Derived.Test.YtfgemlgmhlidmaaGreatDoorRPX
namespace Go.Proofs.YtfgemlgmhlidmaaGreatDoor
open Go.RowKit

def uA (x : Int) : Nat := (fromP x).2.1 * 2 ^ ((fromP x).2.2 + (1074 : Nat)).toNat
theorem uA_vI (x : Int) : vI (fromP x) (-1074) = sI (fromP x).1 * (uA x : Int) := by
 unfold vI uA
 rw [show ((fromP x).2.2 - -1074).toNat = ((fromP x).2.2 + (1074 : Nat)).toNat by omega]
theorem uA_zero (x : Int) : uA x = 0 ↔ (fromP x).2.1 = 0 := by
 unfold uA
 have := Nat.two_pow_pos ((fromP x).2.2 + (1074 : Nat)).toNat
 constructor
 ·intro q; rcases Nat.mul_eq_zero.1 q with k | k <;> omega
 ·intro q; rw [q, Nat.zero_mul]
theorem own_rung (x : Int) (ux : U x) (hx : finB x = true) : rungV x = sI (fromP x).1 * nearW (fromP x).2.1 (fromP x).2.2 ∧ numB x = true := by
 obtain ⟨_, _, h⟩ := near_own x ux hx
 have hr := fa_right x
 unfold nbR at h
 rw [if_pos hr] at h
 have hn := near_num (fromP x).1 (fromP x).2.1 (fromP x).2.2
 have hb : numB x = true := by
  unfold finB at hx
  unfold numB
  rw [decide_eq_true_eq] at hx ⊢
  omega
 refine ⟨?_, hb⟩
 rcases h with q | ⟨q1, q2⟩
 ·rw [← hn.2, q]
 ·rw [← hn.2, q2, q1]; decide
theorem less_num {x y : Int} (h : lessB x y = true) : rungV x < rungV y := by
 unfold lessB at h
 rw [Bool.and_eq_true, decide_eq_true_eq] at h
 exact h.2
theorem not_lessB {x y : Int} (h : rungV y ≤ rungV x) : lessB x y = false := by
 unfold lessB
 rw [decide_eq_false (by omega), Bool.and_false]
theorem lessA_val (x y : Int) (ux : U x) (uy : U y) (hx : finB x = true) (hy : finB y = true) (h : lessB x y = true) : sI (fromP x).1 * (uA x : Int) ≤ sI (fromP y).1 * (uA y : Int) := by
 have hl := less_num h
 rcases Int.lt_or_le (sI (fromP y).1 * (uA y : Int)) (sI (fromP x).1 * (uA x : Int)) with q | q
 ·exfalso
  have r1 := (own_rung x ux hx).1
  have r2 := (own_rung y uy hy).1
  obtain ⟨K, hK⟩ : ∃ K : Nat, K = 1074 := ⟨_, rfl⟩
  have hc : cmpD (formD (fromP y).1 (fromP y).2.1 (fromP y).2.2) (formD (fromP x).1 (fromP x).2.1 (fromP x).2.2) ≤ 0 := by
   rw [form_of_can (fa_can x), form_of_can (fa_can y), vI_cmp _ _ K (by have := (fa_bd y).2.1; omega) (by have := (fa_bd x).2.1; omega), cmp_le]
   rw [show (-(K : Int)) = -1074 by omega, uA_vI, uA_vI]
   omega
  have := near_le _ _ _ _ _ _ (by have := (fa_bd y).2.1; omega) (by have := (fa_bd x).2.1; omega) hc
  rw [(near_num _ _ _).2, (near_num _ _ _).2] at this
  omega
 ·exact q
def rtW (k m : Nat) (e : Int) : Int := if m = 0 then 0 else nearW (ansM k m e) (ansE k m e)
theorem rtW_pos (k m : Nat) (e : Int) : 0 ≤ rtW k m e := by
 unfold rtW
 split
 ·omega
 ·exact (nearW_bd _ _).1
theorem rtW_mono (k m : Nat) (e : Int) (m' : Nat) (e' : Int) (K : Nat) (hk : k = 2 ∨ k = 3) (he : -(K : Int) ≤ e) (he' : -(K : Int) ≤ e') (ht : m ≠ 0 → -5000 ≤ tpI m e ∧ tpI m e ≤ 5000) (ht' : m' ≠ 0 → -5000 ≤ tpI m' e' ∧ tpI m' e' ≤ 5000) (h : m * 2 ^ (e + K).toNat ≤ m' * 2 ^ (e' + K).toNat) : rtW k m e ≤ rtW k m' e' := by
 by_cases h0 : m = 0
 ·have := rtW_pos k m' e'
  unfold rtW at *
  rw [if_pos h0]
  exact this
 ·have h0' : m' ≠ 0 := fun q => by
   rw [q, Nat.zero_mul] at h
   have := Nat.mul_pos (show 0 < m by omega) (Nat.two_pow_pos (e + K).toNat)
   omega
  unfold rtW
  rw [if_neg h0, if_neg h0']
  exact root_mono k m e m' e' K hk h0 h0' he he' (ht h0) (ht' h0') h
theorem near_rung (s : Bool) (m : Nat) (e : Int) (hr : rightB m e = true) : rungV (nbR s m e) = sI s * nearW m e := by
 unfold nbR
 rw [if_pos hr, (near_num s m e).2]
theorem zero_rung (x : Int) (ux : U x) (hx : finB x = true) (h : (fromP x).2.1 = 0) : rungV x = 0 := by
 rw [(own_rung x ux hx).1, h, show nearW 0 (fromP x).2.2 = 0 by unfold nearW; rfl, Int.mul_zero]
theorem cb_rung (x : Int) (ux : U x) (hx : finB x = true) : rungV (cbB x) = sI (fromP x).1 * rtW 3 (fromP x).2.1 (fromP x).2.2 := by
 unfold cbB rtW
 rw [if_pos hx]
 by_cases h0 : (fromP x).2.1 = 0
 ·rw [if_pos h0, if_pos h0, zero_rung x ux hx h0, Int.mul_zero]
 ·rw [if_neg h0, if_neg h0, near_rung _ _ _ (ans_right 3 _ _ (Or.inr rfl) h0 (fa_tp x)).1]
theorem u_mono (k : Nat) (x y : Int) (hk : k = 2 ∨ k = 3) (h : uA x ≤ uA y) : rtW k (fromP x).2.1 (fromP x).2.2 ≤ rtW k (fromP y).2.1 (fromP y).2.2 :=
 rtW_mono k _ _ _ _ 1074 hk (by have := (fa_bd x).2.1; omega) (by have := (fa_bd y).2.1; omega) (fun _ => fa_tp x) (fun _ => fa_tp y) h
theorem last_fin {x : Int} (h : lastE x = 0) : finB x = true := by
 cases q : finB x with
 | true => rfl
 | false => rw [(last_no q).1] at h; cases h
theorem cb_rises (x y : Int) (ux : U x) (uy : U y) (h : lessB x y = true) (h1 : lastE x = 0) (h2 : lastE y = 0) : lessB (cbB y) (cbB x) = false := by
 have f1 := last_fin h1
 have f2 := last_fin h2
 have hv := lessA_val x y ux uy f1 f2 h
 refine not_lessB ?_
 rw [cb_rung x ux f1, cb_rung y uy f2]
 have p1 := rtW_pos 3 (fromP x).2.1 (fromP x).2.2
 have p2 := rtW_pos 3 (fromP y).2.1 (fromP y).2.2
 have m1 := u_mono 3 x y (Or.inr rfl)
 have m2 := u_mono 3 y x (Or.inr rfl)
 have z1 := uA_zero x
 have z2 := uA_zero y
 have w1 : (fromP x).2.1 = 0 → rtW 3 (fromP x).2.1 (fromP x).2.2 = 0 := fun q => by unfold rtW; rw [if_pos q]
 have w2 : (fromP y).2.1 = 0 → rtW 3 (fromP y).2.1 (fromP y).2.2 = 0 := fun q => by unfold rtW; rw [if_pos q]
 generalize rtW 3 (fromP x).2.1 (fromP x).2.2 = A at *
 generalize rtW 3 (fromP y).2.1 (fromP y).2.2 = B at *
 generalize uA x = a at *
 generalize uA y = b at *
 generalize (fromP x).1 = s at *
 generalize (fromP y).1 = t at *
 unfold sI at *
 cases s <;> cases t <;> simp at hv ⊢
 ·have := m1 (by omega); omega
 ·have h3 := w1 (z1.1 (by omega)); have h4 := w2 (z2.1 (by omega)); omega
 ·omega
 ·have := m2 (by omega); omega
theorem sq_ok {x : Int} (h : sqE x = 0) : finB x = true ∧ (fromP x).1 = false := by
 unfold sqE at h
 by_cases q : finB x = true
 ·rw [if_pos q] at h
  refine ⟨q, ?_⟩
  cases c : (fromP x).1 with
  | false => rfl
  | true => rw [c] at h; cases h
 ·rw [if_neg q] at h; cases h
theorem sq_rung (x : Int) (ux : U x) (h : sqE x = 0) : rungV (sqB x) = rtW 2 (fromP x).2.1 (fromP x).2.2 := by
 unfold sqB rtW
 rw [if_pos h]
 by_cases h0 : (fromP x).2.1 = 0
 ·rw [if_pos h0, if_pos h0, zero_rung x ux (sq_ok h).1 h0]
 ·rw [if_neg h0, if_neg h0, near_rung _ _ _ (ans_right 2 _ _ (Or.inl rfl) h0 (fa_tp x)).1]
  show 1 * _ = _
  omega
theorem sq_rises (x y : Int) (ux : U x) (uy : U y) (h : lessB x y = true) (h1 : sqE x = 0) (h2 : sqE y = 0) : lessB (sqB y) (sqB x) = false := by
 obtain ⟨f1, n1⟩ := sq_ok h1
 obtain ⟨f2, n2⟩ := sq_ok h2
 have hv := lessA_val x y ux uy f1 f2 h
 rw [n1, n2] at hv
 refine not_lessB ?_
 rw [sq_rung x ux h1, sq_rung y uy h2]
 refine u_mono 2 x y (Or.inl rfl) ?_
 unfold sI at hv
 simp at hv
 omega
theorem rs_ok {x : Int} (h : rsE x = 0) : finB x = true ∧ (fromP x).1 = false ∧ (fromP x).2.1 ≠ 0 := by
 unfold rsE at h
 by_cases q : (fromP x).2.1 = 0 ∨ (fromP x).1 = true
 ·rw [if_pos q] at h; cases h
 ·have q1 : (fromP x).2.1 ≠ 0 := fun c => q (Or.inl c)
  refine ⟨?_, ?_, q1⟩
  ·cases c : finB x with
   | true => rfl
   | false => rw [(last_no c).2] at q1; exact absurd rfl q1
  ·cases c : (fromP x).1 with
   | false => rfl
   | true => exact absurd (Or.inr c) q
theorem rs_rung (x : Int) (h : rsE x = 0) : rungV (rsB x) = nearW (invM (fromP x).2.1 (fromP x).2.2) (invE (fromP x).2.1 (fromP x).2.2) := by
 unfold rsB
 rw [if_pos h, near_rung _ _ _ (inv_right _ _ (rs_ok h).2.2 (fa_tp x)).1]
 show 1 * _ = _
 omega
theorem rs_rises (x y : Int) (ux : U x) (uy : U y) (h : lessB x y = true) (h1 : rsE x = 0) (h2 : rsE y = 0) : lessB (rsB x) (rsB y) = false := by
 obtain ⟨f1, n1, z1⟩ := rs_ok h1
 obtain ⟨f2, n2, z2⟩ := rs_ok h2
 have hv := lessA_val x y ux uy f1 f2 h
 rw [n1, n2] at hv
 refine not_lessB ?_
 rw [rs_rung x h1, rs_rung y h2]
 refine inv_mono _ _ _ _ 1074 z1 z2 (by have := (fa_bd x).2.1; omega) (by have := (fa_bd y).2.1; omega) (fa_tp x) (fa_tp y) ?_
 unfold sI at hv
 simp at hv
 exact hv
theorem hy_rung (x y : Int) (h : hyE x y = 0) : rungV (hyB x y) = rtW 2 (hyD x y).2.1 (hyD x y).2.2 := by
 unfold hyB rtW
 rw [if_pos h]
 by_cases h0 : (hyD x y).2.1 = 0
 ·rw [if_pos h0, if_pos h0]; decide
 ·rw [if_neg h0, if_neg h0, near_rung _ _ _ (ans_right 2 _ _ (Or.inl rfl) h0 (by have := hy_low x y; have := (hy_room x y).2.2.2.1 h0; unfold tpI; omega)).1]
  show 1 * _ = _
  omega
theorem hy_fin {x y : Int} (h : hyE x y = 0) : finB x = true ∧ finB y = true := by
 unfold hyE at h
 by_cases q : (finB x && finB y) = true
 ·rwa [Bool.and_eq_true] at q
 ·rw [if_neg q] at h; cases h
theorem hy_units (x y : Int) : (hyD x y).2.1 * 2 ^ ((hyD x y).2.2 + (2148 : Nat)).toNat = uA x * uA x + uA y * uA y := by
 have h := hy_vI x y
 rw [sq_vI, sq_vI, uA_vI, uA_vI] at h
 have hs := (hy_room x y).2.2.2.2
 unfold vI at h
 rw [hs, show sI false = 1 from rfl, Int.one_mul, show ((hyD x y).2.2 - -2148).toNat = ((hyD x y).2.2 + (2148 : Nat)).toNat by omega] at h
 have e : ∀ (b : Bool) (n : Nat), sI b * (n : Int) * (sI b * (n : Int)) = ((n * n : Nat) : Int) := fun b n => by
  unfold sI
  cases b
  ·simp
  ·simp [Int.neg_mul_neg]
 rw [e, e] at h
 omega
theorem uA_lt (x : Int) (K : Nat) (hK : 2157 ≤ K) : uA x < 2 ^ K := by
 have h := fa_units x K hK
 rw [uA_vI, Int.natAbs_mul, Int.natAbs_natCast] at h
 have : (sI (fromP x).1).natAbs = 1 := by unfold sI; split <;> rfl
 rwa [this, Nat.one_mul] at h
theorem hy_tp (x y : Int) (h0 : (hyD x y).2.1 ≠ 0) : -5000 ≤ tpI (hyD x y).2.1 (hyD x y).2.2 ∧ tpI (hyD x y).2.1 (hyD x y).2.2 ≤ 5000 := by
 have := hy_low x y
 have := (hy_room x y).2.2.2.1 h0
 unfold tpI
 omega
theorem sq_tp (z : Nat) (hz : blen z ≤ 2160) : -5000 ≤ tpI (z ^ 2) ((2 : Nat) * (-1074 : Int)) ∧ tpI (z ^ 2) ((2 : Nat) * (-1074 : Int)) ≤ 5000 := by
 obtain ⟨B, hB⟩ : ∃ B : Nat, B = 2160 := ⟨_, rfl⟩
 have h1 := (blen_le z B).1 (by omega)
 have h2 : blen (z ^ 2) ≤ B + B := by
  refine (blen_le _ _).2 ?_
  rw [Nat.pow_two, Nat.pow_add]
  exact Nat.mul_lt_mul_of_le_of_lt (Nat.le_of_lt h1) h1 (Nat.two_pow_pos _)
 unfold tpI
 omega
theorem rtW_sq (z : Nat) (hz : blen z ≤ 2160) : rtW 2 (z ^ 2) ((2 : Nat) * (-1074 : Int)) = nearW z (-1074) := by
 by_cases h0 : z = 0
 ·subst h0
  unfold rtW nearW
  rfl
 ·unfold rtW
  rw [if_neg (Nat.pos_iff_ne_zero.1 (Nat.pow_pos (by omega)))]
  exact (root_pow 2 z (-1074) (Or.inl rfl) h0 (by decide) (by decide) (sq_tp z hz)).1
theorem hy_to (x y : Int) (z : Nat) (hz : blen z ≤ 2160) : (z * z ≤ uA x * uA x + uA y * uA y → nearW z (-1074) ≤ rtW 2 (hyD x y).2.1 (hyD x y).2.2) ∧ (uA x * uA x + uA y * uA y ≤ z * z → rtW 2 (hyD x y).2.1 (hyD x y).2.2 ≤ nearW z (-1074)) := by
 have hu := hy_units x y
 have e : z ^ 2 * 2 ^ (((2 : Nat) * (-1074 : Int)) + (2148 : Nat)).toNat = z * z := by
  rw [show (((2 : Nat) * (-1074 : Int)) + (2148 : Nat)).toNat = 0 by decide, Nat.pow_zero, Nat.mul_one, Nat.pow_two]
 refine ⟨fun h => ?_, fun h => ?_⟩
 ·rw [← rtW_sq z hz]
  exact rtW_mono 2 _ _ _ _ 2148 (Or.inl rfl) (by decide) (by have := hy_low x y; omega) (fun _ => sq_tp z hz) (hy_tp x y) (by rw [e, hu]; exact h)
 ·rw [← rtW_sq z hz]
  exact rtW_mono 2 _ _ _ _ 2148 (Or.inl rfl) (by have := hy_low x y; omega) (by decide) (hy_tp x y) (fun _ => sq_tp z hz) (by rw [e, hu]; exact h)
theorem own_near (x : Int) : nearW (fromP x).2.1 (fromP x).2.2 = nearW (uA x) (-1074) := by
 obtain ⟨K, hK⟩ : ∃ K : Nat, K = 32768 := ⟨_, rfl⟩
 have hb := fa_bd x
 refine (near_same _ _ _ _ K (by omega) (by omega) (by omega) ?_).1
 unfold uA
 rw [Nat.mul_assoc, ← Nat.pow_add]
 congr 2
 omega
theorem ab_parts (x : Int) (_ux : U x) : U (absV x) ∧ finB (absV x) = finB x ∧ (fromP (absV x)).1 = false ∧ uA (absV x) = uA x := by
 have h1 : expV (absV x) = expV x := by unfold expV absV; omega
 have h2 : fracV (absV x) = fracV x := by unfold fracV absV; omega
 have h3 : sgnB (absV x) = false := by unfold sgnB absV; exact decide_eq_false (by omega)
 have h4 : finB (absV x) = finB x := by unfold finB absV; rw [decide_eq_decide]; omega
 have hc : countV (absV x) = countV x := by unfold countV; rw [h1, h2]
 have hu : unitV (absV x) = unitV x := by unfold unitV; rw [h1]
 have hp : (fromP (absV x)).1 = false ∧ (fromP (absV x)).2 = (fromP x).2 := by
  unfold fromP fromD
  rw [h4, hc, hu, h3]
  by_cases hf : finB x = true
  ·rw [if_pos hf, if_pos hf]
   by_cases h0 : (countV x).toNat = 0
   ·rw [h0, form_zero, form_zero]; exact ⟨rfl, rfl⟩
   ·rw [form_pos _ h0, form_pos _ h0]; exact ⟨rfl, rfl⟩
  ·rw [if_neg hf, if_neg hf]; exact ⟨rfl, rfl⟩
 refine ⟨by unfold U absV; omega, h4, hp.1, ?_⟩
 unfold uA
 rw [hp.2]
theorem hy_least (x y : Int) (ux : U x) (uy : U y) (h : hyE x y = 0) : lessB (hyB x y) (absV x) = false ∧ lessB (hyB x y) (absV y) = false := by
 obtain ⟨fx, fy⟩ := hy_fin h
 have g : ∀ z, U z → finB z = true → uA z * uA z ≤ uA x * uA x + uA y * uA y → lessB (hyB x y) (absV z) = false := fun z uz fz hz => by
  obtain ⟨a1, a2, a3, a4⟩ := ab_parts z uz
  refine not_lessB ?_
  rw [hy_rung x y h, (own_rung (absV z) a1 (by rw [a2]; exact fz)).1, a3, own_near, a4]
  have hl := uA_lt z 2160 (by decide)
  have := (hy_to x y (uA z) ((blen_le _ _).2 hl)).1 hz
  show 1 * _ ≤ _
  omega
 exact ⟨g x ux fx (Nat.le_add_right _ _), g y uy fy (Nat.le_add_left _ _)⟩
def smD (x y : Int) : Bool × Nat × Int := sumD (fromP (absV x)) (fromP (absV y))
theorem sm_all (x y : Int) (ux : U x) (uy : U y) (h : hyE x y = 0) : rightB (smD x y).2.1 (smD x y).2.2 = true ∧ lessB (nbR (smD x y).1 (smD x y).2.1 (smD x y).2.2) (hyB x y) = false := by
 obtain ⟨a1, a2, a3, a4⟩ := ab_parts x ux
 obtain ⟨b1, b2, b3, b4⟩ := ab_parts y uy
 obtain ⟨K, hK⟩ : ∃ K : Nat, K = 2157 := ⟨_, rfl⟩
 have hl1 := uA_lt x K (by omega)
 have hl2 := uA_lt y K (by omega)
 have hv := vI_sum (fromP (absV x)) (fromP (absV y)) (-1074) (fa_bd _).2.1 (fa_bd _).2.1
 rw [uA_vI, uA_vI, a3, a4, b3, b4, show sI false = 1 from rfl, Int.one_mul, Int.one_mul] at hv
 have hlo := sum_low (fromP (absV x)) (fromP (absV y)) (-1074) (by decide) (fa_bd _).2.1 (fa_bd _).2.1
 have hcan := sum_canA (fa_can (absV x)) (fa_can (absV y))
 change vI (smD x y) (-1074) = _ at hv
 change -1074 ≤ (smD x y).2.2 at hlo
 change CanD (smD x y) at hcan
 have hp2 : 2 ^ (K + 1) = 2 * 2 ^ K := by rw [Nat.pow_succ, Nat.mul_comm]
 obtain ⟨_, _, hr, _⟩ := units_bd hcan (-1074) (K + 1) hlo (by decide) (by omega) (by rw [hv, hp2]; omega)
 refine ⟨hr, not_lessB ?_⟩
 have hn : (smD x y).2.1 * 2 ^ ((smD x y).2.2 + (1074 : Nat)).toNat = uA x + uA y ∧ sI (smD x y).1 * nearW (smD x y).2.1 (smD x y).2.2 = nearW (smD x y).2.1 (smD x y).2.2 := by
  unfold vI at hv
  rw [show ((smD x y).2.2 - -1074).toNat = ((smD x y).2.2 + (1074 : Nat)).toNat by omega] at hv
  cases hs : (smD x y).1 with
  | false =>
   rw [hs, show sI false = 1 from rfl, Int.one_mul] at hv
   exact ⟨by omega, by show 1 * _ = _; omega⟩
  | true =>
   rw [hs, show sI true = -1 from rfl] at hv
   have z : (smD x y).2.1 * 2 ^ ((smD x y).2.2 + (1074 : Nat)).toNat = 0 := by omega
   have z2 : (smD x y).2.1 = 0 := by rcases Nat.mul_eq_zero.1 z with q | q; exact q; have := Nat.two_pow_pos ((smD x y).2.2 + (1074 : Nat)).toNat; omega
   refine ⟨by omega, ?_⟩
   rw [z2, show nearW 0 (smD x y).2.2 = 0 by unfold nearW; rfl]
   rfl
 rw [hy_rung x y h, near_rung _ _ _ hr, hn.2]
 have hz : blen (uA x + uA y) ≤ 2160 := by
  have : blen (uA x + uA y) ≤ K + 1 := (blen_le _ _).2 (by rw [hp2]; omega)
  omega
 have h2 := (hy_to x y (uA x + uA y) hz).2 (by rw [Nat.add_mul, Nat.mul_add, Nat.mul_add]; omega)
 refine Int.le_trans h2 (Int.le_of_eq ?_)
 obtain ⟨K2, hK2⟩ : ∃ K2 : Nat, K2 = 32768 := ⟨_, rfl⟩
 refine (near_same _ _ _ _ K2 (by omega) (by omega) (by omega) ?_).1
 rw [← hn.1, Nat.mul_assoc, ← Nat.pow_add]
 congr 2
 omega
end Go.Proofs.YtfgemlgmhlidmaaGreatDoor
