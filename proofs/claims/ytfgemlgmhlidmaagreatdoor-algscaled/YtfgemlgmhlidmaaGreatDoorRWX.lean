/- What lies between two numbers that are rounded alike is rounded so; a number is a binary64 just if it is rounded exactly (pure). A finite binary64 comes back; the order of such numbers is that of their bits. A number of a normal size, cut to 53 bits down and up, is what it is rounded to on one of the two sides (pure). -/
import Derived.Test.YtfgemlgmhlidmaaGreatDoorAPY
import Derived.Test.YtfgemlgmhlidmaaGreatDoorTMT
import Derived.Test.YtfgemlgmhlidmaaGreatDoorDCmp2
import Derived.Test.YtfgemlgmhlidmaaGreatDoorRPX

namespace Go.Proofs.YtfgemlgmhlidmaaGreatDoor
open Go.RowKit

theorem to_exact (s : Bool) (m : Nat) (e : Int) (hr : rightB m e = true) : (toR s m e).2 = exactB m e := by
 obtain ⟨-, he⟩ := rightB_yes hr
 by_cases h0 : m = 0
 ·subst h0
  rw [toR_zero hr]
  unfold exactB
  rw [if_pos rfl]
 ·obtain ⟨K, hK⟩ : ∃ K : Nat, K = 32768 := ⟨_, rfl⟩
  obtain ⟨o1, o2⟩ := odd_part h0
  have hm0 : m / 2 ^ tz m ≠ 0 := fun q => by rw [q] at o1; exact absurd o1 (by decide)
  have hf := form_pos s h0 e
  have hv := form_val s m e K h0 (by omega)
  rw [hf] at hv
  obtain ⟨-, n2, -⟩ := near_same (m / 2 ^ tz m) (e + (tz m : Int)) m e K (by omega) (by omega) (by omega) hv
  rw [← n2]
  have ht : (toR s m e).2 = toB (formD s m e) := by
   cases hb : toB (formD s m e) with
   | true => rw [toR_yes hr h0 hb]
   | false => rw [toR_no hr h0 hb]
  rw [ht, hf]
  generalize m / 2 ^ tz m = o at *
  generalize e + (tz m : Int) = f at *
  have hbl : blen o ≠ 0 := fun q => hm0 ((blen_nil _).1 q)
  have hodd : ∀ k : Int, ls2 o k = decide (0 < k) := fun k => by
   unfold ls2
   by_cases hk : k ≤ 0
   ·rw [if_pos hk, decide_eq_false (by omega)]
   ·rw [if_neg hk, decide_eq_true (by omega)]
    unfold lostB
    obtain ⟨j, hj⟩ : ∃ j : Nat, k.toNat = j + 1 := ⟨k.toNat - 1, by omega⟩
    rw [hj]
    refine decide_eq_true fun q => ?_
    have : 2 ∣ o := Nat.dvd_trans ⟨2 ^ j, by rw [Nat.pow_succ, Nat.mul_comm]⟩ (Nat.dvd_of_mod_eq_zero q)
    omega
  unfold toB exactB
  rw [if_neg hm0, hodd]
  show decide (blen o ≤ 53 ∧ -1074 ≤ f ∧ f + (blen o : Int) - 1 ≤ 1023) = _
  by_cases c1 : 1024 ≤ tpI o f
  ·rw [if_pos c1]
   unfold tpI at c1
   exact decide_eq_false (by omega)
  ·rw [if_neg c1]
   unfold tpI at c1
   have hl : lsI o f = if f + (blen o : Int) - 1 - 52 < -1074 then -1074 else f + (blen o : Int) - 1 - 52 := rfl
   rw [hl, ← decide_not, decide_eq_decide]
   split <;> omega
theorem mag_split (x : Int) (h : U x) : x % 9223372036854775808 = expV x * 4503599627370496 + fracV x ∧ (sgnB x = true → x = 9223372036854775808 + x % 9223372036854775808) ∧ (sgnB x = false → x = x % 9223372036854775808) := by
 unfold U at h
 unfold expV fracV sgnB
 refine ⟨by omega, fun q => ?_, fun q => ?_⟩
 ·have := of_decide_eq_true q; omega
 ·have := of_decide_eq_false q; omega
theorem to_from (x : Int) (ux : U x) (hx : finB x = true) : toR (fromD x).1 (fromD x).2.1 (fromD x).2.2 = (if (countV x).toNat = 0 then 0 else x, true) := by
 obtain ⟨a1, a2, a3⟩ := mag_split x ux
 have e1 := exp_bd x
 have f1 := frac_bd x
 have hfin : expV x ≤ 2046 := by
  have := of_decide_eq_true hx
  omega
 have hcl : (countV x).toNat < 2 ^ 53 := by unfold countV; split <;> omega
 have hbl : blen (countV x).toNat ≤ 53 := (blen_le _ _).2 hcl
 have hu : unitV x ≤ 971 ∧ -1074 ≤ unitV x := by unfold unitV; split <;> omega
 by_cases h0 : (countV x).toNat = 0
 ·rw [if_pos h0]
  have hz : fromD x = (false, 0, 0) := by unfold fromD; rw [h0, form_zero]
  rw [hz]
  exact toR_zero (by unfold rightB inB; rw [great_zero]; decide)
 ·rw [if_neg h0]
  have o1 := (odd_part h0).1
  have o2 := (odd_part h0).2
  have hp : fromD x = (sgnB x, (countV x).toNat / 2 ^ tz (countV x).toNat, unitV x + (tz (countV x).toNat : Int)) := by unfold fromD; rw [form_pos _ h0]
  have hm0 : (countV x).toNat / 2 ^ tz (countV x).toNat ≠ 0 := fun q => by rw [q] at o1; exact absurd o1 (by decide)
  have hb := blen_mul _ (tz (countV x).toNat) hm0
  rw [o2] at hb
  rw [hp]
  generalize hc' : (countV x).toNat / 2 ^ tz (countV x).toNat = m at *
  generalize tz (countV x).toNat = t at *
  have hfo : formD (sgnB x) m (unitV x + (t : Int)) = (sgnB x, m, unitV x + (t : Int)) := form_odd _ o1 _
  have hr : rightB m (unitV x + (t : Int)) = true := by
   have : greatB m = false := (great_not _).2 (by omega)
   unfold rightB inB
   rw [this, decide_eq_true (show -32768 ≤ unitV x + (t : Int) ∧ unitV x + (t : Int) ≤ 32768 by omega)]
   rfl
  have ht : toB (formD (sgnB x) m (unitV x + (t : Int))) = true := by
   rw [hfo]
   exact decide_eq_true ⟨by show blen m ≤ 53; omega, by show -1074 ≤ unitV x + (t : Int); omega, by show unitV x + (t : Int) + (blen m : Int) - 1 ≤ 1023; omega⟩
  show toR (sgnB x) m (unitV x + (t : Int)) = _
  rw [toR_yes hr hm0 ht, hfo]
  show (joinV (sgnB x) (fldE m (unitV x + (t : Int))) (fldF m (unitV x + (t : Int))), true) = _
  have hE : fldE m (unitV x + (t : Int)) = expV x ∧ fldF m (unitV x + (t : Int)) = fracV x := by
   unfold fldE fldF
   by_cases hx0 : expV x = 0
   ·have hu2 : unitV x = -1074 := by unfold unitV; rw [if_pos hx0]
    have hcv : countV x = fracV x := by unfold countV; rw [if_pos hx0]
    have hb2 : blen (countV x).toNat ≤ 52 := (blen_le _ _).2 (by rw [hcv]; omega)
    rw [if_pos (by omega), if_pos (by omega), hu2, show (-1074 + (t : Int) + 1074).toNat = t by omega, o2, hcv]
    omega
   ·have hu2 : unitV x = expV x - 1075 := by unfold unitV; rw [if_neg hx0]
    have hcv : countV x = fracV x + 4503599627370496 := by unfold countV; rw [if_neg hx0]
    have hb2 : ¬ blen (countV x).toNat ≤ 52 := fun q => by
     have := (blen_le _ _).1 q
     rw [hcv] at this
     omega
    rw [if_neg (by omega), if_neg (by omega), hu2, show 53 - blen m = t by omega, o2, hcv]
    omega
  rw [hE.1, hE.2]
  have hj : joinE (expV x) (fracV x) = 0 := by unfold joinE; rw [if_neg (by omega)]
  unfold joinV
  rw [if_pos hj]
  cases hs : sgnB x with
  | true => have := a2 hs; simp; omega
  | false => have := a3 hs; simp; omega
theorem to_near (s : Bool) (m : Nat) (e : Int) (hr : rightB m e = true) (h0 : m ≠ 0) (hx : exactB m e = true) : toR s m e = (nearB s m e, true) := by
 obtain ⟨K, hK⟩ : ∃ K : Nat, K = 32768 := ⟨_, rfl⟩
 have he := (rightB_yes hr).2
 have hi : nearW m e ≠ 9218868437227405312 := fun q => by
  unfold exactB at hx
  rw [if_neg h0] at hx
  split at hx
  ·cases hx
  ·rename_i ht
   have hl : ls2 m (lsI m e - e) = false := by simpa using hx
   obtain ⟨k, w, eW, w1, w2, k2, -⟩ : ∃ k w : Nat, nearW m e = (k : Int) * 4503599627370496 + (w : Int) ∧ w ≤ 9007199254740992 ∧ (k = 0 ∨ 4503599627370496 ≤ w) ∧ k ≤ 2045 ∧ True := by
    refine ⟨(lsI m e + 1074).toNat, rd2 m (lsI m e - e), ?_, ?_, ?_, ?_, trivial⟩
    ·have := ls_low m e
     unfold nearW
     rw [if_neg h0, if_neg ht, Int.toNat_of_nonneg (by omega)]
    ·have := M_lt m e
     unfold rd2
     have : (up2 m (lsI m e - e)).toNat ≤ 1 := Bool.toNat_le _
     omega
    ·by_cases q : (lsI m e + 1074).toNat = 0
     ·exact .inl q
     ·right
      have := M_ge m e h0 (by have := ls_low m e; omega)
      unfold rd2
      omega
    ·have := ls_top m e (by omega); omega
   have w3 : rd2 m (lsI m e - e) = fl2 m (lsI m e - e) := by
    have hu : up2 m (lsI m e - e) = false := by
     have h1 := (more_zero m (lsI m e - e)).2 hl
     rw [more_half] at h1
     unfold up2
     cases hh : half2 m (lsI m e - e) with
     | false => rfl
     | true => rw [hh] at h1; simp at h1
    unfold rd2
    rw [hu]
    rfl
   have := M_lt m e
   have e2 : nearW m e = (lsI m e + 1074) * 4503599627370496 + (rd2 m (lsI m e - e) : Int) := by unfold nearW; rw [if_neg h0, if_neg ht]
   have := ls_top m e (by omega)
   omega
 have uR := nearB_U s m e
 have jn := (near_num s m e).2
 have bd := nearW_bd m e
 have rn := rung_num _ uR (by rw [jn]; unfold sI; split <;> omega)
 have hf : finB (nearB s m e) = true := rn.2.2 (by rw [jn]; unfold sI; split <;> omega)
 have hz := once_flag s m e hr hf
 rw [hx] at hz
 have hz' := of_decide_eq_true hz.symm
 have ly : -32768 ≤ (fromP (nearB s m e)).2.2 := by have := (from_can (nearB s m e)).2; omega
 have ld : -32768 ≤ (formD s m e).2.2 := form_lo _ _ _ _ (by omega) (by decide)
 have hv := (far_zero _ _ K hK ly ld).1 hz'
 have eF : fromP (nearB s m e) = formD s m e := vI_inj _ _ (from_can _).1 (form_can _ _ _) (-(K : Int)) (by omega) (by omega) hv
 have eF2 : fromD (nearB s m e) = formD s m e := by rw [← eF]; unfold fromP; rw [if_pos hf]
 have hc0 : (countV (nearB s m e)).toNat ≠ 0 := fun q => by
  have hz2 : fromD (nearB s m e) = (false, 0, 0) := by unfold fromD; rw [q, form_zero]
  rw [hz2] at eF2
  have h1 : (formD s m e).2.1 = 0 := by rw [← eF2]
  rw [form_pos s h0] at h1
  have := (odd_part h0).1
  simp only at h1
  omega
 have ht := to_from (nearB s m e) uR hf
 rw [if_neg hc0, eF2] at ht
 rw [← ht]
 have hr2 : rightB (formD s m e).2.1 (formD s m e).2.2 = true := by rw [← eF]; exact from_rightO _ uR
 have h02 : (formD s m e).2.1 ≠ 0 := fun q => by
  rw [form_pos s h0] at q
  have := (odd_part h0).1
  simp only at q
  omega
 have e1 : toR s m e = if toB (formD s m e) = true then (toV (formD s m e), true) else (0, false) := by unfold toR; rw [if_neg (by rw [hr]; decide), if_neg h0]
 have e2 : toR (formD s m e).1 (formD s m e).2.1 (formD s m e).2.2 = if toB (formD s m e) = true then (toV (formD s m e), true) else (0, false) := by
  unfold toR
  rw [if_neg (by rw [hr2]; decide), if_neg h02, form_of_can (form_can _ _ _)]
 rw [e1, e2]
end Go.Proofs.YtfgemlgmhlidmaaGreatDoor
