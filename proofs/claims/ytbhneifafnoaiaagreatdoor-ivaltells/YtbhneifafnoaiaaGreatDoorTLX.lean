/- Which enclosures are narrow: what the program lifts, and what the document compares, come to the same (pure). Narrow, of program and document: the same (pure). -/
import Derived.Test.YtbhneifafnoaiaaGreatDoorNWX
import Derived.Test.YtbhneifafnoaiaaGreatDoorTMQ

namespace Go.Proofs.YtbhneifafnoaiaaGreatDoor
open Go.RowKit
theorem sumN_can {x y : Bool × Nat × Int} (hx : CanD x) (hy : CanD y) : CanD (sumD x y) := by
 have ha : ∀ s A t b e, CanD (addHi s A t b e) := fun s A t b e => by
  unfold addHi
  split
  ·exact form_can _ _ _
  ·split <;> exact form_can _ _ _
 unfold sumD
 split
 ·exact hy
 ·split
  ·exact hx
  ·split <;> exact ha _ _ _ _ _
theorem negN_can {x : Bool × Nat × Int} (h : CanD x) : CanD (negD x) := by
 rcases h with h | h
 ·left; rw [h]; rfl
 ·right; exact h
theorem pow_up (m a b : Nat) (h : m < 2 ^ a) : m * 2 ^ b < 2 ^ (a + b) := by
 rw [Nat.pow_add]
 exact Nat.mul_lt_mul_of_pos_right h (Nat.two_pow_pos b)
theorem pow_lo (m a b : Nat) (h : 2 ^ a ≤ m) : 2 ^ (a + b) ≤ m * 2 ^ b := by
 rw [Nat.pow_add]
 exact Nat.mul_le_mul_right _ h
theorem pow_mo {a b : Nat} (h : a ≤ b) : 2 ^ a ≤ 2 ^ b := Nat.pow_le_pow_right (by decide) h
theorem right_iff (m : Nat) (e : Int) (h : greatB m = false) : rightB m e = decide (-32768 ≤ e ∧ e ≤ 32768) := by
 unfold rightB inB
 rw [h]
 rfl
theorem liB_doc (m n : Nat) (e f p : Int) (K : Nat) (hm : m ≠ 0) (hn : n ≠ 0) (gm : greatB m = false) (gn : greatB n = false) (he : -32768 ≤ e ∧ e ≤ 32768) (hf : -32768 ≤ f ∧ f ≤ 32768) (hp : 0 ≤ p) (hK : K = 500000) (hle : m * 2 ^ (e + K).toNat ≤ n * 2 ^ (f + K).toNat) :
  liB m e n f p = true ↔ (n * 2 ^ (f + K).toNat - m * 2 ^ (e + K).toNat = 0 ∨ (p ≤ 196608 ∧ (n * 2 ^ (f + K).toNat - m * 2 ^ (e + K).toNat) * 2 ^ p.toNat ≤ m * 2 ^ (e + K).toNat)) := by
 obtain ⟨L, hL⟩ : ∃ L : Int, liL n f = L := ⟨_, rfl⟩
 have lm := (great_not _).1 gm
 have ln := (great_not _).1 gn
 have bn : blen n ≠ 0 := fun q => hn ((blen_nil n).1 q)
 have hL' : 32769 - f - (blen n : Int) = L := hL
 obtain ⟨Q, hQ⟩ : ∃ Q : Nat, (Q : Int) = K - L := ⟨(K - L).toNat, by omega⟩
 rw [show e + (K : Int) = e + L + Q by omega, show f + (K : Int) = f + L + Q by omega] at *
 have hB1 : n * 2 ^ (f + L + Q).toNat < 2 ^ (32769 + Q) := by
  have := pow_up n (blen n) (f + L + Q).toNat (lt_blen n)
  rwa [show blen n + (f + L + Q).toNat = 32769 + Q by omega] at this
 have hB2 : 2 ^ (32768 + Q) ≤ n * 2 ^ (f + L + Q).toNat := by
  have := pow_lo n (blen n - 1) (f + L + Q).toNat (blen_ge n hn)
  rwa [show blen n - 1 + (f + L + Q).toNat = 32768 + Q by omega] at this
 have h2 : 2 ^ (32769 + Q) = 2 * 2 ^ (32768 + Q) := by rw [show 32769 + Q = (32768 + Q) + 1 by omega, Nat.pow_succ, Nat.mul_comm]
 have gr : ∀ W A : Nat, A < W → ¬ (W = 0 ∨ (p ≤ 196608 ∧ W * 2 ^ p.toNat ≤ A)) := fun W A h q => by
  rcases q with q | ⟨_, q⟩
  ·omega
  ·have : W * 1 ≤ W * 2 ^ p.toNat := Nat.mul_le_mul_left _ (Nat.two_pow_pos _)
   omega
 have eR : liR m e n f = (rightB n (f + L) && rightB m (e + L)) := by unfold liR; rw [hL]
 have eS : liS m e n f = sumD (formD false n (f + L)) (negD (formD false m (e + L))) := by unfold liS; rw [hL]
 have rn : rightB n (f + L) = true := by rw [right_iff n _ gn, decide_eq_true_eq]; omega
 have rm := right_iff m (e + L) gm
 rw [rn, Bool.true_and] at eR
 unfold liB
 rw [hL]
 by_cases c1 : 32768 < e + L
 ·exfalso
  have h3 : 2 ^ (32769 + Q) ≤ m * 2 ^ (e + L + Q).toNat := by
   have := pow_lo m 0 (e + L + Q).toNat (by rw [Nat.pow_zero]; omega)
   exact Nat.le_trans (pow_mo (by omega)) this
  omega
 by_cases c2 : e + L < -32768
 ·have hR : liR m e n f = false := by rw [eR, rm, decide_eq_false (by omega)]
  have h3 : m * 2 ^ (e + L + Q).toNat < 2 ^ (32767 + Q) := by
   obtain ⟨G, hG⟩ : ∃ G : Nat, G = 65536 := ⟨_, rfl⟩
   have := pow_up m G (e + L + Q).toNat ((blen_le _ _).1 (by omega))
   exact Nat.lt_of_lt_of_le this (pow_mo (by omega))
  have h4 : 2 ^ (32768 + Q) = 2 * 2 ^ (32767 + Q) := by rw [show 32768 + Q = (32767 + Q) + 1 by omega, Nat.pow_succ, Nat.mul_comm]
  rw [hR]
  constructor
  ·intro q
   rw [Bool.and_eq_true] at q
   have := of_decide_eq_true q.1
   cases this
  ·intro q
   exact absurd q (gr _ _ (by omega))
 ·have hR : liR m e n f = true := by rw [eR, rm, decide_eq_true (by omega)]
  rw [hR, eS]
  have lx : -32768 ≤ (formD false n (f + L)).2.2 := form_loN _ _ _ _ (by omega) (by omega)
  have ly : -32768 ≤ (negD (formD false m (e + L))).2.2 := form_loN false m (e + L) (-32768) (by omega) (by omega)
  have hv : vI (sumD (formD false n (f + L)) (negD (formD false m (e + L)))) (-(Q : Int)) = ((n * 2 ^ (f + L + Q).toNat - m * 2 ^ (e + L + Q).toNat : Nat) : Int) := by
   rw [vI_sum _ _ _ (by omega) (by omega), vI_neg, vI_form _ _ _ _ (by omega), vI_form _ _ _ _ (by omega)]
   rw [show (f + L - -(Q : Int)).toNat = (f + L + Q).toNat by omega, show (e + L - -(Q : Int)).toNat = (e + L + Q).toNat by omega, show sI false = 1 from rfl]
   omega
  have ls := sum_low (formD false n (f + L)) (negD (formD false m (e + L))) (-32768) (by omega) lx ly
  have cs : CanD (sumD (formD false n (f + L)) (negD (formD false m (e + L)))) := sumN_can (form_can _ _ _) (negN_can (form_can _ _ _))
  generalize sumD (formD false n (f + L)) (negD (formD false m (e + L))) = S at *
  generalize hA : m * 2 ^ (e + L + Q).toNat = A at *
  generalize hB : n * 2 ^ (f + L + Q).toNat = B at *
  have hs : S.2.1 * 2 ^ (S.2.2 + Q).toNat = B - A ∧ (S.2.1 ≠ 0 → S.1 = false) := by
   unfold vI at hv
   rw [show (S.2.2 - -(Q : Int)).toNat = (S.2.2 + Q).toNat by omega] at hv
   cases h1 : S.1 with
   | false => rw [h1, show sI false = 1 from rfl] at hv; exact ⟨by omega, fun _ => rfl⟩
   | true =>
    rw [h1, show sI true = -1 from rfl] at hv
    have hz : S.2.1 = 0 := by
     by_cases z : S.2.1 = 0
     ·exact z
     ·exfalso
      have := Nat.mul_pos (Nat.pos_of_ne_zero z) (Nat.two_pow_pos (S.2.2 + Q).toNat)
      omega
    exact ⟨by rw [hz, Nat.zero_mul] at hv ⊢; omega, fun q => absurd hz q⟩
  obtain ⟨hs1, hs2⟩ := hs
  have top : S.2.1 ≠ 0 → S.2.2 ≤ 32768 := fun z => by
   have h5 : 2 ^ (S.2.2 + Q).toNat ≤ S.2.1 * 2 ^ (S.2.2 + Q).toNat := by
    have := Nat.mul_le_mul_right (2 ^ (S.2.2 + Q).toNat) (show 1 ≤ S.2.1 by omega)
    omega
   rcases Int.lt_or_le 32768 S.2.2 with q | q
   ·exfalso
    have := pow_mo (show 32769 + Q ≤ (S.2.2 + Q).toNat by omega)
    omega
   ·exact q
  by_cases hr : rightB S.2.1 S.2.2 = true
  ·have e1 : twE true S = 0 := by show (if rightB S.2.1 S.2.2 = true then (0 : Int) else 3) = 0; rw [hr]; rfl
   have e2 : twP true S = S := by show (if rightB S.2.1 S.2.2 = true then S else (false, 0, 0)) = S; rw [hr]; rfl
   rw [e1, e2, show decide ((0 : Int) = 0) = true from rfl, Bool.true_and, decide_eq_true_eq]
   obtain ⟨j, hj⟩ : ∃ j : Int, min p 131073 = j := ⟨_, rfl⟩
   have j0 : 0 ≤ j ∧ j ≤ p ∧ j ≤ 131073 ∧ (p < 131073 → j = p) ∧ (131073 ≤ p → j = 131073) := by omega
   rw [hj, vI_cmp _ _ Q (form_loN _ _ _ _ (by omega) (by omega)) (form_loN _ _ _ _ (by omega) (by omega)), cmpI_le, vI_form _ _ _ _ (by omega), vI_form _ _ _ _ (by omega)]
   rw [show (e + L - -(Q : Int)).toNat = (e + L + Q).toNat by omega, hA, show (S.2.2 + j - -(Q : Int)).toNat = (S.2.2 + Q).toNat + j.toNat by omega, Nat.pow_add, ← Nat.mul_assoc, hs1]
   have key : (sI S.1 * (((B - A) * 2 ^ j.toNat : Nat) : Int) ≤ sI false * ((A : Nat) : Int)) ↔ (B - A) * 2 ^ j.toNat ≤ A := by
    rw [show sI false = 1 from rfl]
    by_cases z : S.2.1 = 0
    ·have z2 : B - A = 0 := by rw [← hs1, z, Nat.zero_mul]
     rw [z2, Nat.zero_mul]
     constructor
     ·intro _; omega
     ·intro _; cases S.1 <;> simp [sI]
    ·rw [hs2 z, show sI false = 1 from rfl]
     constructor <;> intro <;> omega
   rw [key]
   by_cases z : B - A = 0
   ·rw [z, Nat.zero_mul]
    exact ⟨fun _ => Or.inl rfl, fun _ => Nat.zero_le _⟩
   ·have z1 : S.2.1 ≠ 0 := fun q => z (by rw [← hs1, q, Nat.zero_mul])
    have h6 : 2 ^ (S.2.2 + Q).toNat ≤ B - A := by
     have := Nat.mul_le_mul_right (2 ^ (S.2.2 + Q).toNat) (show 1 ≤ S.2.1 by omega)
     omega
    by_cases cp : p < 131073
    ·rw [j0.2.2.2.1 cp]
     exact ⟨fun q => Or.inr ⟨by omega, q⟩, fun q => by rcases q with q | q; exact absurd q z; exact q.2⟩
    ·have hj2 := j0.2.2.2.2 (by omega)
     have big : A < (B - A) * 2 ^ j.toNat := by
      have h7 : 2 ^ (S.2.2 + Q).toNat * 2 ^ j.toNat ≤ (B - A) * 2 ^ j.toNat := Nat.mul_le_mul_right _ h6
      rw [← Nat.pow_add] at h7
      have := pow_mo (show 32769 + Q ≤ (S.2.2 + Q).toNat + j.toNat by omega)
      omega
     constructor
     ·intro q; omega
     ·intro q
      rcases q with q | ⟨_, q⟩
      ·exact absurd q z
      ·exfalso
       have : (B - A) * 2 ^ j.toNat ≤ (B - A) * 2 ^ p.toNat := Nat.mul_le_mul_left _ (pow_mo (by omega))
       omega
  ·have e1 : twE true S = 3 := by show (if rightB S.2.1 S.2.2 = true then (0 : Int) else 3) = 3; rw [if_neg hr]
   rw [e1, show decide ((3 : Int) = 0) = false from rfl, Bool.false_and]
   have z1 : S.2.1 ≠ 0 := fun q => by
    rcases cs with z | z
    ·rw [z] at hr; exact hr (by decide +kernel)
    ·rw [q] at z; exact absurd z (by decide)
   have ht := top z1
   have hg : 65536 < blen S.2.1 := by
    rcases Nat.lt_or_ge 65536 (blen S.2.1) with q | q
    ·exact q
    ·exfalso
     apply hr
     rw [right_iff _ _ ((great_not _).2 q), decide_eq_true_eq]
     omega
   have h8 : 2 ^ (32768 + Q) ≤ B - A := by
    rw [← hs1]
    have h9 := blen_ge S.2.1 z1
    have := pow_lo S.2.1 (blen S.2.1 - 1) (S.2.2 + Q).toNat h9
    exact Nat.le_trans (pow_mo (by omega)) this
   constructor
   ·intro q; cases q
   ·intro q; exact absurd q (gr _ _ (by omega))
theorem form_nzN (s : Bool) {m : Nat} (e : Int) (h0 : m ≠ 0) : (formD s m e).2.1 ≠ 0 := by
 have h1 := (odd_part h0).1
 rw [form_pos s h0]
 exact fun q => by have q' : m / 2 ^ tz m = 0 := q; rw [q'] at h1; exact absurd h1 (by decide)
theorem val_nat (S : Bool × Nat × Int) (K D : Nat) (l : -(K : Int) ≤ S.2.2) (hv : vI S (-(K : Int)) = (D : Int)) : S.2.1 * 2 ^ (S.2.2 + K).toNat = D ∧ (S.2.1 ≠ 0 → S.1 = false) := by
 unfold vI at hv
 rw [show (S.2.2 - -(K : Int)).toNat = (S.2.2 + K).toNat by omega] at hv
 cases h1 : S.1 with
 | false => rw [h1, show sI false = 1 from rfl] at hv; exact ⟨by omega, fun _ => rfl⟩
 | true =>
  rw [h1, show sI true = -1 from rfl] at hv
  have hz : S.2.1 = 0 := by
   by_cases z : S.2.1 = 0
   ·exact z
   ·exfalso
    have := Nat.mul_pos (Nat.pos_of_ne_zero z) (Nat.two_pow_pos (S.2.2 + K).toNat)
    omega
  exact ⟨by rw [hz, Nat.zero_mul] at hv ⊢; omega, fun q => absurd hz q⟩
def ddB (WD : Bool × Nat × Int) (m : Nat) (e p : Int) : Bool := decide (WD.2.1 = 0) || (decide (p ≤ 196608) && decide (cmpD (formD WD.1 WD.2.1 (WD.2.2 + p)) (formD false m e) ≤ 0))
theorem li_same (m n : Nat) (e f p : Int) (K : Nat) (hm : m ≠ 0) (hn : n ≠ 0) (gm : greatB m = false) (gn : greatB n = false) (he : -32768 ≤ e ∧ e ≤ 32768) (hf : -32768 ≤ f ∧ f ≤ 32768) (hp : 0 ≤ p) (hK : K = 500000) (hle : m * 2 ^ (e + K).toNat ≤ n * 2 ^ (f + K).toNat)
  (WD : Bool × Nat × Int) (lw : -(K : Int) ≤ WD.2.2) (hv : vI WD (-(K : Int)) = ((n * 2 ^ (f + K).toNat - m * 2 ^ (e + K).toNat : Nat) : Int)) : ddB WD m e p = liB m e n f p := by
 obtain ⟨h1, h2⟩ := val_nat WD K _ lw hv
 have hd := liB_doc m n e f p K hm hn gm gn he hf hp hK hle
 generalize hB : n * 2 ^ (f + K).toNat - m * 2 ^ (e + K).toNat = D at *
 have z : WD.2.1 = 0 ↔ D = 0 := by
  constructor
  ·intro q; rw [← h1, q, Nat.zero_mul]
  ·intro q
   by_cases c : WD.2.1 = 0
   ·exact c
   ·exfalso
    have := Nat.mul_pos (Nat.pos_of_ne_zero c) (Nat.two_pow_pos (WD.2.2 + K).toNat)
    omega
 have c : cmpD (formD WD.1 WD.2.1 (WD.2.2 + p)) (formD false m e) ≤ 0 ↔ D * 2 ^ p.toNat ≤ m * 2 ^ (e + K).toNat := by
  rw [vI_cmp _ _ K (form_loN _ _ _ _ (by omega) (by omega)) (form_loN _ _ _ _ (by omega) (by omega)), cmpI_le, vI_form _ _ _ _ (by omega), vI_form _ _ _ _ (by omega)]
  rw [show (e - -(K : Int)).toNat = (e + K).toNat by omega, show (WD.2.2 + p - -(K : Int)).toNat = (WD.2.2 + K).toNat + p.toNat by omega, Nat.pow_add, ← Nat.mul_assoc, h1, show sI false = 1 from rfl]
  generalize m * 2 ^ (e + (K : Int)).toNat = A
  by_cases q : WD.2.1 = 0
  ·rw [z.1 q, Nat.zero_mul]
   constructor
   ·intro _; omega
   ·intro _; cases WD.1 <;> simp [sI]
  ·rw [h2 q, show sI false = 1 from rfl]
   constructor <;> intro <;> omega
 rw [Bool.eq_iff_iff, hd]
 unfold ddB
 rw [Bool.or_eq_true, Bool.and_eq_true, decide_eq_true_eq, decide_eq_true_eq, decide_eq_true_eq, z, c]
def dnW (s : Bool) (m : Nat) (e : Int) (t : Bool) (n : Nat) (f : Int) : Bool × Nat × Int := sumD (formD t n f) (formD (!s) m e)
def dnB (s : Bool) (m : Nat) (e : Int) (t : Bool) (n : Nat) (f p : Int) : Bool :=
 rtI s m e t n f && decide (0 ≤ p) && decide (sgnQ s m = sgnQ t n) && (decide (sgnQ s m = 0) || (if sgnQ s m < 0 then ddB (dnW s m e t n f) n f p else ddB (dnW s m e t n f) m e p))
theorem sgnQ_cases (s : Bool) (m : Nat) : (m = 0 ∧ sgnQ s m = 0) ∨ (m ≠ 0 ∧ s = false ∧ sgnQ s m = 1) ∨ (m ≠ 0 ∧ s = true ∧ sgnQ s m = -1) := by
 have h := sgnQ_form s m 0
 by_cases z : m = 0
 ·left
  refine ⟨z, ?_⟩
  rw [← h, z, form_zero]
  rfl
 ·right
  have h2 : sgnD (formD s m 0) = if s = true then -1 else 1 := by
   have hz : (formD s m 0).2.1 ≠ 0 := form_nzN s 0 z
   unfold sgnD
   rw [if_neg hz, form_pos _ z]
  rw [h] at h2
  cases s with
  | false => left; exact ⟨z, rfl, h2⟩
  | true => right; exact ⟨z, rfl, h2⟩
theorem nw_dn (s : Bool) (m : Nat) (e : Int) (t : Bool) (n : Nat) (f p : Int) : nwB s m e t n f p = dnB s m e t n f p := by
 unfold nwB dnB
 have q1 := sgnQ_form s m e
 have q2 := sgnQ_form t n f
 have eB : sgB s m e t n f = (rtI s m e t n f && decide (sgnQ s m = sgnQ t n)) := by
  unfold sgB
  rw [q1, q2, Bool.decide_and]
  simp
 cases hr : rtI s m e t n f with
 | false => rw [eB, hr]; rfl
 | true =>
  by_cases hs : sgnQ s m = sgnQ t n
  ·by_cases hp : 0 ≤ p
   ·have eV : sgV s m e t n f = sgnQ s m := by unfold sgV; rw [q1, q2, if_pos ⟨hr, hs⟩]
    rw [eB, hr, eV, decide_eq_true hs, decide_eq_true hp]
    simp only [Bool.true_and]
    have hrt := hr
    unfold rtI at hrt
    rw [Bool.and_eq_true, Bool.and_eq_true, decide_eq_true_eq] at hrt
    obtain ⟨⟨r1, r2⟩, r3⟩ := hrt
    obtain ⟨g1, b1⟩ := rightB_yes r1
    obtain ⟨g2, b2⟩ := rightB_yes r2
    obtain ⟨K, hK⟩ : ∃ K : Nat, K = 500000 := ⟨_, rfl⟩
    rw [vI_cmp _ _ K (form_loN _ _ _ _ (by omega) (by omega)) (form_loN _ _ _ _ (by omega) (by omega)), cmpI_le, vI_form _ _ _ _ (by omega), vI_form _ _ _ _ (by omega)] at r3
    rw [show (e - -(K : Int)).toNat = (e + K).toNat by omega, show (f - -(K : Int)).toNat = (f + K).toNat by omega] at r3
    have lw : -(K : Int) ≤ (dnW s m e t n f).2.2 := sum_low _ _ _ (by omega) (form_loN _ _ _ _ (by omega) (by omega)) (form_loN _ _ _ _ (by omega) (by omega))
    have hv : vI (dnW s m e t n f) (-(K : Int)) = sI t * ((n * 2 ^ (f + K).toNat : Nat) : Int) + sI (!s) * ((m * 2 ^ (e + K).toNat : Nat) : Int) := by
     unfold dnW
     rw [vI_sum _ _ _ (form_loN _ _ _ _ (by omega) (by omega)) (form_loN _ _ _ _ (by omega) (by omega)), vI_form _ _ _ _ (by omega), vI_form _ _ _ _ (by omega)]
     rw [show (e - -(K : Int)).toNat = (e + K).toNat by omega, show (f - -(K : Int)).toNat = (f + K).toNat by omega]
    rcases sgnQ_cases s m with ⟨z, k⟩ | ⟨z, k1, k⟩ | ⟨z, k1, k⟩
    ·rw [k]; rfl
    ·rcases sgnQ_cases t n with ⟨y, l⟩ | ⟨y, l1, l⟩ | ⟨y, l1, l⟩
     ·rw [k, l] at hs; cases hs
     ·subst k1 l1
      rw [show sI false = 1 from rfl] at r3 hv
      rw [show sI (!false) = -1 from rfl] at hv
      rw [k, if_neg (by decide), if_neg (by decide), li_same m n e f p K z y g1 g2 b1 b2 hp hK (by omega) _ lw (by rw [hv]; omega)]
     ·rw [k, l] at hs; cases hs
    ·rcases sgnQ_cases t n with ⟨y, l⟩ | ⟨y, l1, l⟩ | ⟨y, l1, l⟩
     ·rw [k, l] at hs; cases hs
     ·rw [k, l] at hs; cases hs
     ·subst k1 l1
      rw [show sI true = -1 from rfl] at r3 hv
      rw [show sI (!true) = 1 from rfl] at hv
      rw [k, if_pos (by decide), if_pos (by decide), li_same n m f e p K y z g2 g1 b2 b1 hp hK (by omega) _ lw (by rw [hv]; omega)]
   ·rw [eB, hr, decide_eq_true hs, decide_eq_false hp]; rfl
  ·rw [eB, hr, decide_eq_false hs]
   simp
end Go.Proofs.YtbhneifafnoaiaaGreatDoor
