/- Of cubes and squares the roots are what was raised; 3, 4, 5 (pure). -/
import Derived.Test.YtfgemlgmhlidmaaGreatDoorAR0
import Derived.Test.YtfgemlgmhlidmaaGreatDoorRWX
namespace Go.Proofs.YtfgemlgmhlidmaaGreatDoor
open Go.RowKit

theorem exact_fin (m : Nat) (e : Int) (h0 : m ≠ 0) (hx : exactB m e = true) : nearW m e < 9218868437227405312 := by
 unfold exactB at hx
 rw [if_neg h0] at hx
 by_cases c : 1024 ≤ tpI m e
 ·rw [if_pos c] at hx; cases hx
 ·rw [if_neg c] at hx
  have a2 := ls_top m e (by omega)
  have a3 := M_lt m e
  have hz : more2 m (lsI m e - e) = 0 := (more_zero m _).2 (by simpa using hx)
  have hr := (choose_rd m (lsI m e - e)).1 (by omega)
  unfold nearW
  rw [if_neg h0, if_neg c, hr]
  omega
theorem exact_back (s : Bool) (m : Nat) (e : Int) (hr : rightB m e = true) (h0 : m ≠ 0) (hx : exactB m e = true) : U (nearB s m e) ∧ finB (nearB s m e) = true ∧ fromP (nearB s m e) = formD s m e := by
 have hU := nearB_U s m e
 have hf := exact_fin m e h0 hx
 have hb := nearW_bd m e
 have hfin : finB (nearB s m e) = true := by
  unfold finB nearB
  rw [decide_eq_true_eq]
  split
  ·unfold negV; omega
  ·omega
 refine ⟨hU, hfin, ?_⟩
 obtain ⟨K, hK⟩ : ∃ K : Nat, K = 32768 := ⟨_, rfl⟩
 have h1 := once_flag s m e hr hfin
 rw [hx] at h1
 have h2 := of_decide_eq_true h1.symm
 have hb1 := (fa_bd (nearB s m e)).2.1
 have hlo := form_lo s m e (-32768) (by have := (rightB_yes hr).2; omega) (by decide)
 have h3 := (far_zero (fromP (nearB s m e)) (formD s m e) K hK (by omega) hlo).1 h2
 exact vI_inj _ _ (fa_can _) (form_can _ _ _) (-(K : Int)) (by omega) (by omega) h3
theorem toA_yes (s : Bool) (m : Nat) (e : Int) (hr : rightB m e = true) (h0 : m ≠ 0) (h : (toR s m e).2 = true) : (toR s m e).1 = nearB s m e ∧ exactB m e = true := by
 have hx := to_exact s m e hr
 rw [h] at hx
 exact ⟨by rw [to_near s m e hr h0 hx.symm], hx.symm⟩
theorem own_exact (x : Int) (ux : U x) (hx : finB x = true) : exactB (fromP x).2.1 (fromP x).2.2 = true := by
 have h := to_from x ux hx
 have e : fromP x = fromD x := by unfold fromP; rw [if_pos hx]
 rw [← e] at h
 have := to_exact (fromP x).1 (fromP x).2.1 (fromP x).2.2 (fa_right x)
 rw [h] at this
 exact this.symm
theorem own_bits (x : Int) (ux : U x) (hx : finB x = true) (h0 : (fromP x).2.1 ≠ 0) : nearB (fromP x).1 (fromP x).2.1 (fromP x).2.2 = x ∧ absV x = nearW (fromP x).2.1 (fromP x).2.2 := by
 obtain ⟨_, _, h⟩ := near_own x ux hx
 unfold nbR at h
 rw [if_pos (fa_right x)] at h
 have hw := nearW_bd (fromP x).2.1 (fromP x).2.2
 have hb : nearB (fromP x).1 (fromP x).2.1 (fromP x).2.2 = x := by
  rcases h with q | ⟨q1, q2⟩
  ·exact q
  ·exfalso
   have hz : rungV x = 0 := by rw [q1]; decide
   have e := own_near x
   have hn : (fromP 9223372036854775808).2.1 = 0 := by decide +kernel
   rw [q1] at h0
   exact h0 hn
 refine ⟨hb, ?_⟩
 unfold nearB at hb
 by_cases c : ((fromP x).1 && decide ((fromP x).2.1 ≠ 0)) = true
 ·rw [if_pos c] at hb
  generalize nearW (fromP x).2.1 (fromP x).2.2 = W at *
  rw [← hb]
  unfold absV negV
  omega
 ·rw [if_neg c] at hb
  rw [hb]
  unfold absV
  omega
theorem odd_mul {a b : Nat} (h : a % 2 = 1) (h' : b % 2 = 1) : a * b % 2 = 1 := by rw [Nat.mul_mod, h, h']
theorem fa_odd (x : Int) (h0 : (fromP x).2.1 ≠ 0) : (fromP x).2.1 % 2 = 1 := by
 rcases fa_can x with q | q
 ·rw [q] at h0; exact absurd rfl h0
 ·exact q
def cuD (x : Int) : Bool × Nat × Int := mulD (fromP x) (mulD (fromP x) (fromP x))
theorem sq_form (x : Int) (h0 : (fromP x).2.1 ≠ 0) : sqD x = (false, (fromP x).2.1 ^ 2, ((2 : Nat) : Int) * (fromP x).2.2) := by
 have ho := fa_odd x h0
 unfold sqD mulD
 rw [form_odd _ (odd_mul ho ho)]
 rw [Nat.pow_two, show (fromP x).2.2 + (fromP x).2.2 = ((2 : Nat) : Int) * (fromP x).2.2 by omega]
 simp
theorem cu_form (x : Int) (h0 : (fromP x).2.1 ≠ 0) : cuD x = ((fromP x).1, (fromP x).2.1 ^ 3, ((3 : Nat) : Int) * (fromP x).2.2) := by
 have ho := fa_odd x h0
 have h := sq_form x h0
 unfold sqD at h
 unfold cuD
 rw [h]
 unfold mulD
 rw [form_odd _ (odd_mul ho (by rw [Nat.pow_two]; exact odd_mul ho ho))]
 refine Prod.ext ?_ (Prod.ext ?_ ?_)
 ·cases (fromP x).1 <;> rfl
 ·show _ * _ = _
  rw [Nat.pow_succ _ 2, Nat.mul_comm]
 ·show (fromP x).2.2 + ((2 : Nat) : Int) * (fromP x).2.2 = ((3 : Nat) : Int) * (fromP x).2.2
  omega
theorem pow_tp (k z : Nat) (f : Int) (hk : k = 2 ∨ k = 3) (h0 : z ≠ 0) (hb : blen z ≤ 60) (hf : -1100 ≤ f ∧ f ≤ 1100) : (-5000 ≤ tpI (z ^ k) (k * f) ∧ tpI (z ^ k) (k * f) ≤ 5000) ∧ rightB (z ^ k) (k * f) = true ∧ z ^ k ≠ 0 := by
 have h1 := (blen_le z 60).1 hb
 have h2 : blen (z ^ k) ≤ 60 * k := by
  refine (blen_le _ _).2 ?_
  rw [Nat.pow_mul]
  exact Nat.pow_lt_pow_left h1 (by omega)
 have h3 : (k : Int) * f ≤ 3300 ∧ -3300 ≤ (k : Int) * f := by rcases hk with q | q <;> subst q <;> omega
 refine ⟨by unfold tpI; omega, ?_, Nat.pos_iff_ne_zero.1 (Nat.pow_pos (by omega))⟩
 unfold rightB inB
 rw [(great_not _).2 (by omega)]
 simp
 omega
theorem root_all (s : Bool) (k z : Nat) (f : Int) (hk : k = 2 ∨ k = 3) (h0 : z ≠ 0) (hb : blen z ≤ 60) (hf : -1100 ≤ f ∧ f ≤ 1100) (hx : exactB z f = true) :
  nbR s (ansM k (z ^ k) (k * f)) (ansE k (z ^ k) (k * f)) = nearB s z f ∧ flR s (ansM k (z ^ k) (k * f)) (ansE k (z ^ k) (k * f)) = 0 := by
 obtain ⟨ht, _, hz⟩ := pow_tp k z f hk h0 hb hf
 obtain ⟨r1, r2, _⟩ := root_pow k z f hk h0 (by omega) (by omega) ht
 obtain ⟨q1, q2, _⟩ := ans_right k _ _ hk hz ht
 refine ⟨?_, ?_⟩
 ·unfold nbR nearB
  rw [if_pos q1, r1, decide_eq_true q2, decide_eq_true h0]
 ·unfold flR
  rw [if_pos q1, r2, if_pos hx]
theorem cube_back (x : Int) (ux : U x) (hx : finB x = true) (h0 : (fromP x).2.1 ≠ 0) (h : (toR (cuD x).1 (cuD x).2.1 (cuD x).2.2).2 = true) :
  U (toR (cuD x).1 (cuD x).2.1 (cuD x).2.2).1 ∧ lastE (toR (cuD x).1 (cuD x).2.1 (cuD x).2.2).1 = 0 ∧ cbB (toR (cuD x).1 (cuD x).2.1 (cuD x).2.2).1 = x ∧ cbF (toR (cuD x).1 (cuD x).2.1 (cuD x).2.2).1 = 0 := by
 have hb := fa_bd x
 obtain ⟨_, hr, hz⟩ := pow_tp 3 (fromP x).2.1 (fromP x).2.2 (Or.inr rfl) h0 (by omega) (by omega)
 have hc := cu_form x h0
 rw [hc] at h ⊢
 obtain ⟨t1, t2⟩ := toA_yes _ _ _ hr hz h
 obtain ⟨u1, u2, u3⟩ := exact_back (fromP x).1 _ _ hr hz t2
 have hcan := form_of_can (fa_can x)
 have hfm : formD (fromP x).1 ((fromP x).2.1 ^ 3) (((3 : Nat) : Int) * (fromP x).2.2) = ((fromP x).1, (fromP x).2.1 ^ 3, ((3 : Nat) : Int) * (fromP x).2.2) := form_odd _ (by have ho := fa_odd x h0; rw [Nat.pow_succ, Nat.pow_two]; exact odd_mul (odd_mul ho ho) ho) _
 rw [hfm] at u3
 rw [t1]
 obtain ⟨a1, a2⟩ := root_all (fromP x).1 3 (fromP x).2.1 (fromP x).2.2 (Or.inr rfl) h0 (by omega) (by omega) (own_exact x ux hx)
 refine ⟨u1, last_yes u2, ?_, ?_⟩
 ·unfold cbB
  rw [if_pos u2, u3, if_neg hz, a1]
  exact (own_bits x ux hx h0).1
 ·unfold cbF
  rw [u3, if_neg hz, a2]
theorem square_back (x : Int) (ux : U x) (hx : finB x = true) (h0 : (fromP x).2.1 ≠ 0) (h : (toR (sqD x).1 (sqD x).2.1 (sqD x).2.2).2 = true) :
  U (toR (sqD x).1 (sqD x).2.1 (sqD x).2.2).1 ∧ sqE (toR (sqD x).1 (sqD x).2.1 (sqD x).2.2).1 = 0 ∧ sqB (toR (sqD x).1 (sqD x).2.1 (sqD x).2.2).1 = absV x ∧ sqF (toR (sqD x).1 (sqD x).2.1 (sqD x).2.2).1 = 0 := by
 have hb := fa_bd x
 obtain ⟨_, hr, hz⟩ := pow_tp 2 (fromP x).2.1 (fromP x).2.2 (Or.inl rfl) h0 (by omega) (by omega)
 have hc := sq_form x h0
 rw [hc] at h ⊢
 obtain ⟨t1, t2⟩ := toA_yes _ _ _ hr hz h
 obtain ⟨u1, u2, u3⟩ := exact_back false _ _ hr hz t2
 have hfm : formD false ((fromP x).2.1 ^ 2) (((2 : Nat) : Int) * (fromP x).2.2) = (false, (fromP x).2.1 ^ 2, ((2 : Nat) : Int) * (fromP x).2.2) := form_odd _ (by have ho := fa_odd x h0; rw [Nat.pow_two]; exact odd_mul ho ho) _
 rw [hfm] at u3
 rw [t1]
 have e0 : sqE (nearB false ((fromP x).2.1 ^ 2) (((2 : Nat) : Int) * (fromP x).2.2)) = 0 := by unfold sqE; rw [if_pos u2, u3]; rfl
 obtain ⟨a1, a2⟩ := root_all false 2 (fromP x).2.1 (fromP x).2.2 (Or.inl rfl) h0 (by omega) (by omega) (own_exact x ux hx)
 refine ⟨u1, e0, ?_, ?_⟩
 ·unfold sqB
  rw [if_pos e0, u3, if_neg hz, a1, (own_bits x ux hx h0).2]
  unfold nearB
  rfl
 ·unfold sqF
  rw [if_pos e0, u3, if_neg hz, a2]
theorem small_exact (c : Nat) (e : Int) (hc : c = 3 ∨ c = 4 ∨ c = 5) (he : -1000 ≤ e ∧ e ≤ 1000) : rightB c e = true ∧ exactB c e = true ∧ c ≠ 0 := by
 have hb : 1 ≤ blen c ∧ blen c ≤ 3 := by rcases hc with q | q | q <;> subst q <;> decide +kernel
 refine ⟨?_, ?_, by omega⟩
 ·unfold rightB inB
  rw [(great_not _).2 (by omega)]
  simp
  omega
 ·unfold exactB
  rw [if_neg (show ¬ c = 0 by omega), if_neg (show ¬ 1024 ≤ tpI c e by unfold tpI; omega)]
  unfold ls2
  rw [if_pos (by unfold lsI tpI; split <;> omega)]
  rfl
theorem small_to (c : Nat) (e : Int) (hc : c = 3 ∨ c = 4 ∨ c = 5) (he : -1000 ≤ e ∧ e ≤ 1000) : toR false c e = (nearB false c e, true) ∧ U (nearB false c e) ∧ finB (nearB false c e) = true ∧ fromP (nearB false c e) = formD false c e := by
 obtain ⟨h1, h2, h3⟩ := small_exact c e hc he
 exact ⟨to_near false c e h1 h3 h2, exact_back false c e h1 h3 h2⟩
theorem three_four (e : Int) (he : -1000 ≤ e ∧ e ≤ 1000) : hyE (nearB false 3 e) (nearB false 4 e) = 0 ∧ hyB (nearB false 3 e) (nearB false 4 e) = nearB false 5 e ∧ hyF (nearB false 3 e) (nearB false 4 e) = 0 := by
 obtain ⟨_, _, f3, p3⟩ := small_to 3 e (Or.inl rfl) he
 obtain ⟨_, _, f4, p4⟩ := small_to 4 e (Or.inr (Or.inl rfl)) he
 have g3 : formD false 3 e = (false, 3, e) := form_odd false (by decide) e
 have g4 : formD false 4 e = (false, 1, e + 2) := by rw [show (4 : Nat) = 1 * 2 ^ 2 by decide, form_shift]; exact form_odd false (by decide) _
 have hD : hyD (nearB false 3 e) (nearB false 4 e) = (false, 5 ^ 2, ((2 : Nat) : Int) * e) := by
  have hv := hy_units (nearB false 3 e) (nearB false 4 e)
  have hl := hy_low (nearB false 3 e) (nearB false 4 e)
  have hs := (hy_room (nearB false 3 e) (nearB false 4 e)).2.2.2.2
  refine vI_inj _ _ (hy_can _ _) (Or.inr (show 5 ^ 2 % 2 = 1 by decide)) (-2148) hl (by show -2148 ≤ ((2 : Nat) : Int) * e; omega) ?_
  unfold vI
  rw [hs, show ((hyD (nearB false 3 e) (nearB false 4 e)).2.2 - -2148).toNat = ((hyD (nearB false 3 e) (nearB false 4 e)).2.2 + (2148 : Nat)).toNat by omega, hv]
  unfold uA
  rw [p3, p4, g3, g4]
  show sI false * ((_ : Nat) : Int) = sI false * ((_ : Nat) : Int)
  congr 2
  show 3 * 2 ^ (e + (1074 : Nat)).toNat * (3 * 2 ^ (e + (1074 : Nat)).toNat) + 1 * 2 ^ (e + 2 + (1074 : Nat)).toNat * (1 * 2 ^ (e + 2 + (1074 : Nat)).toNat) = 25 * 2 ^ (((2 : Nat) : Int) * e - -2148).toNat
  rw [show (((2 : Nat) : Int) * e - -2148).toNat = (e + (1074 : Nat)).toNat + (e + (1074 : Nat)).toNat by omega, show (e + 2 + (1074 : Nat)).toNat = 2 + (e + (1074 : Nat)).toNat by omega, Nat.pow_add 2 2, Nat.pow_add]
  generalize 2 ^ (e + (1074 : Nat)).toNat = g
  have : 3 * g * (3 * g) = 9 * (g * g) := by rw [Nat.mul_mul_mul_comm]
  rw [this]
  have : 1 * (2 ^ 2 * g) * (1 * (2 ^ 2 * g)) = 16 * (g * g) := by rw [Nat.one_mul, Nat.mul_mul_mul_comm]
  rw [this]
  omega
 obtain ⟨x1, x2, x3⟩ := small_exact 5 e (Or.inr (Or.inr rfl)) he
 obtain ⟨a1, a2⟩ := root_all false 2 5 e (Or.inl rfl) x3 (by decide +kernel) (by omega) x2
 have e0 : hyE (nearB false 3 e) (nearB false 4 e) = 0 := by unfold hyE; rw [f3, f4]; rfl
 refine ⟨e0, ?_, ?_⟩
 ·unfold hyB
  rw [if_pos e0, hD, if_neg (show ¬ 5 ^ 2 = 0 by decide), a1]
 ·unfold hyF
  rw [if_pos e0, hD, if_neg (show ¬ 5 ^ 2 = 0 by decide), a2]
end Go.Proofs.YtfgemlgmhlidmaaGreatDoor
