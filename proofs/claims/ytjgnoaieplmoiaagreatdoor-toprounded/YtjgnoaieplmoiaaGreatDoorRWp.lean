/- Intervals that are decided: what lies in them, what lies in a wider one. -/
import Derived.Test.YtjgnoaieplmoiaaGreatDoorRW0
import Derived.Test.YtjgnoaieplmoiaaGreatDoorRW1
namespace Go.Proofs.YtjgnoaieplmoiaaGreatDoor
open Go.RowKit

theorem sum_canR {x y : Bool × Nat × Int} (hx : CanD x) (hy : CanD y) : CanD (sumD x y) := by
  have ha : ∀ s A t b e, CanD (addHi s A t b e) := fun s A t b e => by
    unfold addHi
    split
    · exact form_can _ _ _
    · split <;> exact form_can _ _ _
  unfold sumD
  split
  · exact hy
  · split
    · exact hx
    · split <;> exact ha _ _ _ _ _
theorem dec_open {s : Bool} {m : Nat} {e : Int} {s' : Bool} {m' : Nat} {e' : Int} (h : dcB s m e s' m' e' = true) : rightB m e = true ∧ rightB m' e' = true ∧ cmpD (formD s m e) (formD s' m' e') ≤ 0 ∧ nearB s m e = nearB s' m' e' ∧ tinyP m e = tinyP m' e' ∧ dcN s m e s' m' e' = nearB s m e ∧ dcF s m e s' m' e' = inxF (nearB s m e) (tinyP m e) := by
  have h2 := h
  unfold dcB rtB at h
  simp only [Bool.and_eq_true, decide_eq_true_eq, beq_iff_eq] at h
  refine ⟨h.1.1.1, h.1.1.2, h.1.2, h.2.1, h.2.2, ?_, ?_⟩
  · unfold dcN; rw [if_pos h2]
  · unfold dcF; rw [if_pos h2]
theorem within_one {s : Bool} {m : Nat} {e : Int} {s' : Bool} {m' : Nat} {e' : Int} {u : Bool} {n : Nat} {g : Int} (hB : dcB s m e s' m' e' = true) (rd : rightB n g = true) (c1 : cmpD (formD s m e) (formD u n g) ≤ 0) (c2 : cmpD (formD u n g) (formD s' m' e') ≤ 0) : erR n g = 0 ∧ nbR u n g = dcN s m e s' m' e' ∧ ((toR u n g).2 = false → flR u n g = dcF s m e s' m' e') := by
  obtain ⟨r1, r2, -, hN, hT, e1, e2⟩ := dec_open hB
  have a1 := (rightB_yes r1).2
  have a2 := (rightB_yes r2).2
  have a3 := (rightB_yes rd).2
  obtain ⟨k1, k2⟩ := near_between s m e s' m' e' u n g a1.1 a2.1 a3.1 c1 c2 hN hT
  refine ⟨by unfold erR; rw [if_pos rd], by unfold nbR; rw [if_pos rd, k1, e1], fun q => ?_⟩
  rw [to_exact u n g rd] at q
  unfold flR
  rw [if_pos rd, q, k1, k2, e2]
  rfl
theorem cmp_lt (x y : Int) : Lib.compareInt x y < 0 ↔ x < y := cmp_neg x y
theorem cmp_pos (x y : Int) : 0 < Lib.compareInt x y ↔ y < x := by
  unfold Lib.compareInt
  split
  · constructor <;> omega
  · split <;> constructor <;> omega
theorem within_two {s : Bool} {m : Nat} {e : Int} {s' : Bool} {m' : Nat} {e' : Int} {t : Bool} {n : Nat} {f : Int} {t' : Bool} {n' : Nat} {f' : Int} (hB : dcB s m e s' m' e' = true) (r1 : rightB n f = true) (r2 : rightB n' f' = true)
    (o1 : ¬ cmpD (formD t' n' f') (formD t n f) < 0) (o2 : ¬ 0 < cmpD (formD s m e) (formD t n f)) (o3 : ¬ 0 < cmpD (formD t' n' f') (formD s' m' e')) : dcE t n f t' n' f' = 0 ∧ dcB t n f t' n' f' = true ∧ dcN t n f t' n' f' = dcN s m e s' m' e' ∧ dcF t n f t' n' f' = dcF s m e s' m' e' := by
  obtain ⟨q1, q2, -, hN, hT, e1, e2⟩ := dec_open hB
  have a1 := (rightB_yes q1).2
  have a2 := (rightB_yes q2).2
  have a3 := (rightB_yes r1).2
  have a4 := (rightB_yes r2).2
  obtain ⟨K, hK⟩ : ∃ K : Nat, K = 32768 := ⟨_, rfl⟩
  have lo : ∀ (s : Bool) (m : Nat) (e : Int), -32768 ≤ e → -(K : Int) ≤ (formD s m e).2.2 := fun s m e h => form_lo _ _ _ _ (by omega) (by omega)
  rw [vI_cmp _ _ K (lo _ _ _ a4.1) (lo _ _ _ a3.1), cmp_lt] at o1
  rw [vI_cmp _ _ K (lo _ _ _ a1.1) (lo _ _ _ a3.1), cmp_pos] at o2
  rw [vI_cmp _ _ K (lo _ _ _ a4.1) (lo _ _ _ a2.1), cmp_pos] at o3
  have c1 : cmpD (formD s m e) (formD t n f) ≤ 0 := by rw [vI_cmp _ _ K (lo _ _ _ a1.1) (lo _ _ _ a3.1), cmp_le]; omega
  have c2 : cmpD (formD t n f) (formD s' m' e') ≤ 0 := by rw [vI_cmp _ _ K (lo _ _ _ a3.1) (lo _ _ _ a2.1), cmp_le]; omega
  have c3 : cmpD (formD s m e) (formD t' n' f') ≤ 0 := by rw [vI_cmp _ _ K (lo _ _ _ a1.1) (lo _ _ _ a4.1), cmp_le]; omega
  have c4 : cmpD (formD t' n' f') (formD s' m' e') ≤ 0 := by rw [vI_cmp _ _ K (lo _ _ _ a4.1) (lo _ _ _ a2.1), cmp_le]; omega
  have c5 : cmpD (formD t n f) (formD t' n' f') ≤ 0 := by rw [vI_cmp _ _ K (lo _ _ _ a3.1) (lo _ _ _ a4.1), cmp_le]; omega
  obtain ⟨k1, k2⟩ := near_between s m e s' m' e' t n f a1.1 a2.1 a3.1 c1 c2 hN hT
  obtain ⟨k3, k4⟩ := near_between s m e s' m' e' t' n' f' a1.1 a2.1 a4.1 c3 c4 hN hT
  have hr : rtB t n f t' n' f' = true := by unfold rtB; rw [r1, r2, decide_eq_true c5]; rfl
  have hb : dcB t n f t' n' f' = true := by unfold dcB; rw [hr, k1, k2, k3, k4]; simp
  refine ⟨by unfold dcE; rw [if_pos hr], hb, ?_, ?_⟩
  · rw [e1]; unfold dcN; rw [if_pos hb, k1]
  · rw [e2]; unfold dcF; rw [if_pos hb, k1, k2]
theorem room_open {b : Bool} {p : Bool × Nat × Int} (h : twE b p = 0) : b = true ∧ twP b p = p ∧ rightB p.2.1 p.2.2 = true := by
  unfold twE at h
  cases b with
  | false => cases h
  | true =>
    rw [if_pos rfl] at h
    unfold roomE at h
    have hr : roomB p = true := by
      split at h
      · assumption
      · cases h
    refine ⟨rfl, ?_, hr⟩
    unfold twP roomP
    rw [if_pos rfl, if_pos hr]
theorem mg_open {m : Nat} {e : Int} {m' : Nat} {e' p : Int} (h : mgE m e m' e' p = 0) : (mgP m e m' e' p).1 = false ∧ CanD (mgP m e m' e' p) := by
  unfold mgE at h
  unfold mgP
  have key : ∀ (m : Nat) (e : Int), shE false m e (-p) = 0 → (shP false m e (-p)).1 = false ∧ CanD (shP false m e (-p)) := fun m e h => by
    unfold shE at h
    unfold shP
    split at h
    · rename_i hb
      rw [if_pos hb]
      unfold roomP
      unfold roomE at h
      split at h
      · rename_i hr
        rw [if_pos hr]
        refine ⟨?_, form_can _ _ _⟩
        unfold formD
        split <;> rfl
      · cases h
    · cases h
  split at h
  · rename_i hc; rw [if_pos hc]; exact key _ _ h
  · rename_i hc; rw [if_neg hc]; exact key _ _ h
/-- a wider interval is one -/
theorem wide_right {s : Bool} {m : Nat} {e : Int} {s' : Bool} {m' : Nat} {e' p : Int} (hr : rtB s m e s' m' e' = true) (h0 : mgE m e m' e' p = 0) (h1 : wlE s m e (mgP m e m' e' p) = 0) (h2 : whE s' m' e' (mgP m e m' e' p) = 0) :
    rtB (wlP s m e (mgP m e m' e' p)).1 (wlP s m e (mgP m e m' e' p)).2.1 (wlP s m e (mgP m e m' e' p)).2.2 (whP s' m' e' (mgP m e m' e' p)).1 (whP s' m' e' (mgP m e m' e' p)).2.1 (whP s' m' e' (mgP m e m' e' p)).2.2 = true := by
  obtain ⟨g1, g2⟩ := mg_open h0
  generalize mgP m e m' e' p = G at *
  unfold wlE at h1
  unfold whE at h2
  obtain ⟨b1, l1, l2⟩ := room_open h1
  obtain ⟨b2, l3, l4⟩ := room_open h2
  have eL : wlP s m e G = sumD (formD s m e) (negD (formD G.1 G.2.1 G.2.2)) := l1
  have eH : whP s' m' e' G = sumD (formD s' m' e') (formD G.1 G.2.1 G.2.2) := l3
  rw [eL, eH]
  rw [form_of_can g2] at *
  unfold rtB at hr
  simp only [Bool.and_eq_true, decide_eq_true_eq] at hr
  obtain ⟨⟨ra, rb⟩, hc⟩ := hr
  have a1 := (rightB_yes ra).2
  have a2 := (rightB_yes rb).2
  rw [Bool.and_eq_true] at b1
  have a3 := (rightB_yes b1.2).2
  have a4 := (rightB_yes l2).2
  have a5 := (rightB_yes l4).2
  obtain ⟨K, hK⟩ : ∃ K : Nat, K = 32768 := ⟨_, rfl⟩
  have lo : ∀ (s : Bool) (m : Nat) (e : Int), -32768 ≤ e → -(K : Int) ≤ (formD s m e).2.2 := fun s m e h => form_lo _ _ _ _ (by omega) (by omega)
  have nl : (negD G).2.2 = G.2.2 := rfl
  have cL : CanD (sumD (formD s m e) (negD G)) := sum_canR (form_can _ _ _) (negD_canon g2)
  have cH : CanD (sumD (formD s' m' e') G) := sum_canR (form_can _ _ _) g2
  have v1 := vI_sum (formD s m e) (negD G) (-(K : Int)) (lo _ _ _ a1.1) (by rw [nl]; omega)
  have v2 := vI_sum (formD s' m' e') G (-(K : Int)) (lo _ _ _ a2.1) (by omega)
  rw [vI_neg] at v1
  have v3 : 0 ≤ vI G (-(K : Int)) := by unfold vI sI; rw [g1, if_neg (by decide)]; omega
  rw [vI_cmp _ _ K (lo _ _ _ a1.1) (lo _ _ _ a2.1), cmp_le] at hc
  unfold rtB
  rw [l2, l4, form_of_can cL, form_of_can cH, vI_cmp _ _ K (by omega) (by omega), decide_eq_true (show Lib.compareInt _ _ ≤ 0 from by rw [cmp_le]; omega)]
  rfl
end Go.Proofs.YtjgnoaieplmoiaaGreatDoor
