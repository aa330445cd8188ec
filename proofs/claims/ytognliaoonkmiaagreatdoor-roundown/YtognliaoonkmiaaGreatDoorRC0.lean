/- Wide in numbers: what program and document make of an interval is the same. -/
import Derived.Test.YtognliaoonkmiaaGreatDoorRWp
namespace Go.Proofs.YtognliaoonkmiaaGreatDoor
open Go.RowKit

def wdE (s : Bool) (m : Nat) (e : Int) (s' : Bool) (m' : Nat) (e' p : Int) : Int := if rtB s m e s' m' e' = true ∧ 0 ≤ p ∧ p ≤ 2048 then (if mgE m e m' e' p = 0 ∧ wlE s m e (mgP m e m' e' p) = 0 ∧ whE s' m' e' (mgP m e m' e' p) = 0 then 0 else 3) else 2
def wdL (s : Bool) (m : Nat) (e : Int) (s' : Bool) (m' : Nat) (e' p : Int) : Bool × Nat × Int := if wdE s m e s' m' e' p = 0 then wlP s m e (mgP m e m' e' p) else (false, 0, 0)
def wdH (s : Bool) (m : Nat) (e : Int) (s' : Bool) (m' : Nat) (e' p : Int) : Bool × Nat × Int := if wdE s m e s' m' e' p = 0 then whP s' m' e' (mgP m e m' e' p) else (false, 0, 0)
def gM (m : Nat) (e : Int) (m' : Nat) (e' : Int) : Nat := if 0 < cmpD (formD false m e) (formD false m' e') then m else m'
def gX (m : Nat) (e : Int) (m' : Nat) (e' : Int) : Int := if 0 < cmpD (formD false m e) (formD false m' e') then e else e'
def gL (s : Bool) (m : Nat) (e : Int) (m' : Nat) (e' p : Int) : Bool × Nat × Int := sumD (formD s m e) (negD (formD false (gM m e m' e') (gX m e m' e' - p)))
def gH (m : Nat) (e : Int) (s' : Bool) (m' : Nat) (e' p : Int) : Bool × Nat × Int := sumD (formD s' m' e') (formD false (gM m e m' e') (gX m e m' e' - p))
theorem mg_as (m : Nat) (e : Int) (m' : Nat) (e' p : Int) : mgE m e m' e' p = shE false (gM m e m' e') (gX m e m' e') (-p) ∧ mgP m e m' e' p = shP false (gM m e m' e') (gX m e m' e') (-p) := by
  unfold mgE mgP gM gX
  split <;> exact ⟨rfl, rfl⟩
theorem inB_no {e : Int} (h : inB e = false) : ¬ (-32768 ≤ e ∧ e ≤ 32768) := by
  unfold inB at h
  exact of_decide_eq_false h
theorem not_in (m : Nat) {e : Int} (h : ¬ (-32768 ≤ e ∧ e ≤ 32768)) : rightB m e = false := by
  unfold rightB inB
  rw [decide_eq_false h, Bool.and_false]
theorem same_not (t : Bool) (o : Nat) (E p : Int) (ho : o % 2 = 1) (hE : -32768 ≤ E) (hp : 0 ≤ p) (h : inB (E - p) = false) : rightB (sumD (t, o, E) (t, o, E - p)).2.1 (sumD (t, o, E) (t, o, E - p)).2.2 = false := by
  have h0 : o ≠ 0 := by omega
  have hn := inB_no h
  have e0 : sumD (t, o, E) (t, o, E - p) = formD t (o * 2 ^ (E - (E - p)).toNat + o) (E - p) := by
    unfold sumD addHi
    rw [if_neg h0, if_neg h0, if_neg (show ¬ E < E - p by omega), if_pos rfl]
  rw [e0]
  by_cases q : p = 0
  · subst q
    have e1 : o * 2 ^ (E - (E - 0)).toNat + o = o * 2 ^ 1 := by
      rw [show (E - (E - 0)).toNat = 0 by omega]; omega
    rw [e1, form_shift, form_odd _ ho]
    exact not_in _ (by simp only []; omega)
  · obtain ⟨k, hk⟩ : ∃ k : Nat, (E - (E - p)).toNat = k + 1 := ⟨p.toNat - 1, by omega⟩
    rw [hk]
    have od : (o * 2 ^ (k + 1) + o) % 2 = 1 := by rw [Nat.pow_succ, ← Nat.mul_assoc]; omega
    rw [form_odd _ od]
    exact not_in _ hn
theorem mg_no {g : Nat} {x p : Int} (hr : rightB g x = true) (hp : 0 ≤ p ∧ p ≤ 2048) (h0 : g ≠ 0) (h : shE false g x (-p) ≠ 0) : inB (x + (tz g : Int) - p) = false := by
  have hb : shB g x (-p) = true := by unfold shB; rw [hr, decide_eq_true (by omega)]; rfl
  rw [(sh_yes hb).1, form_pos _ h0] at h
  cases hi : inB (x + (tz g : Int) - p) with
  | false => rfl
  | true =>
    exfalso
    apply h
    refine (room_yes (great_mono (Nat.div_le_self _ _) (rightB_yes hr).1) ?_).1
    show inB (x + -p + (tz g : Int)) = true
    rw [← hi]
    congr 1
    omega
theorem rt_open {s : Bool} {m : Nat} {e : Int} {s' : Bool} {m' : Nat} {e' : Int} (h : rtB s m e s' m' e' = true) : rightB m e = true ∧ rightB m' e' = true ∧ cmpD (formD s m e) (formD s' m' e') ≤ 0 := by
  unfold rtB at h
  simp only [Bool.and_eq_true, decide_eq_true_eq] at h
  exact ⟨h.1.1, h.1.2, h.2⟩
theorem g_right {s : Bool} {m : Nat} {e : Int} {s' : Bool} {m' : Nat} {e' : Int} (h : rtB s m e s' m' e' = true) : rightB (gM m e m' e') (gX m e m' e') = true := by
  obtain ⟨h1, h2, _⟩ := rt_open h
  unfold gM gX
  split <;> assumption
theorem no_room {s : Bool} {m : Nat} {e : Int} {s' : Bool} {m' : Nat} {e' p : Int} (hr : rtB s m e s' m' e' = true) (hp : 0 ≤ p ∧ p ≤ 2048) (h0 : gM m e m' e' ≠ 0) (h : mgE m e m' e' p ≠ 0) :
    rightB (gL s m e m' e' p).2.1 (gL s m e m' e' p).2.2 = false ∨ rightB (gH m e s' m' e' p).2.1 (gH m e s' m' e' p).2.2 = false := by
  obtain ⟨r1, r2, hc⟩ := rt_open hr
  have gr := g_right hr
  have b1 := (rightB_yes r1).2
  have b2 := (rightB_yes r2).2
  rw [(mg_as m e m' e' p).1] at h
  have hi := mg_no gr hp h0 h
  obtain ⟨K, hK⟩ : ∃ K : Nat, K = 32768 := ⟨_, rfl⟩
  have c0 := (cmp_T s m e s' m' e' K hK b1.1 b2.1).1 hc
  have c1 := cmp_T false m e false m' e' K hK b1.1 b2.1
  have key : ∀ (t : Bool) (g : Nat) (x : Int), g ≠ 0 → -32768 ≤ x → inB (x + (tz g : Int) - p) = false → rightB (sumD (formD t g x) (formD t g (x - p))).2.1 (sumD (formD t g x) (formD t g (x - p))).2.2 = false := fun t g x g0 gx gi => by
    rw [form_pos t g0, form_pos t g0, show x - p + (tz g : Int) = x + (tz g : Int) - p by omega]
    exact same_not t _ _ p (odd_part g0).1 (by omega) hp.1 gi
  have zA := T_zero m (e + K).toNat
  have zB := T_zero m' (e' + K).toNat
  have one : sI false = 1 := rfl
  have two : sI true = -1 := rfl
  unfold gL gH
  by_cases q : 0 < cmpD (formD false m e) (formD false m' e')
  · have eM : gM m e m' e' = m := by unfold gM; rw [if_pos q]
    have eX : gX m e m' e' = e := by unfold gX; rw [if_pos q]
    rw [eM] at h0 hi
    rw [eX] at hi
    rw [eM, eX]
    have q' : ¬ cmpD (formD false m e) (formD false m' e') ≤ 0 := by omega
    rw [c1, one] at q'
    have hs : s = true := by
      cases s with
      | true => rfl
      | false =>
        exfalso
        rw [one] at c0
        cases s' <;> simp only [one, two] at c0 <;> omega
    left
    have := key true m e h0 b1.1 hi
    rw [hs, ← form_turn]
    exact this
  · have eM : gM m e m' e' = m' := by unfold gM; rw [if_neg q]
    have eX : gX m e m' e' = e' := by unfold gX; rw [if_neg q]
    rw [eM] at h0 hi
    rw [eX] at hi
    rw [eM, eX]
    have q' : cmpD (formD false m e) (formD false m' e') ≤ 0 := by omega
    rw [c1, one] at q'
    cases hs' : s' with
    | false =>
      right
      exact key false m' e' h0 b2.1 hi
    | true =>
      left
      have hB : m' * 2 ^ (e' + K).toNat ≠ 0 := fun z => h0 (zB.1 z)
      rw [hs', two] at c0
      have hs : s = true := by
        cases s with
        | true => rfl
        | false => exfalso; rw [one] at c0; omega
      rw [hs, two] at c0
      have hAB : m * 2 ^ (e + K).toNat = m' * 2 ^ (e' + K).toNat := by omega
      have eF : formD true m e = formD true m' e' := by
        refine vI_inj _ _ (form_can _ _ _) (form_can _ _ _) (-(K : Int)) (form_lo _ _ _ _ (by omega) (by omega)) (form_lo _ _ _ _ (by omega) (by omega)) ?_
        rw [vI_form _ _ _ _ (by omega), vI_form _ _ _ _ (by omega), show e - -(K : Int) = e + K by omega, show e' - -(K : Int) = e' + K by omega, hAB]
      have := key true m' e' h0 b2.1 hi
      rw [hs, eF, ← form_turn]
      exact this
theorem wide_zero {s : Bool} {m : Nat} {e : Int} {s' : Bool} {m' : Nat} {e' p : Int} (hr : rtB s m e s' m' e' = true) (hp : 0 ≤ p ∧ p ≤ 2048) (h0 : gM m e m' e' = 0) : wdE s m e s' m' e' p = 0 ∧ wdL s m e s' m' e' p = (false, 0, 0) ∧ wdH s m e s' m' e' p = (false, 0, 0) := by
  obtain ⟨r1, r2, hc⟩ := rt_open hr
  have b1 := (rightB_yes r1).2
  have b2 := (rightB_yes r2).2
  obtain ⟨K, hK⟩ : ∃ K : Nat, K = 32768 := ⟨_, rfl⟩
  have c1 := cmp_T false m e false m' e' K hK b1.1 b2.1
  have one : sI false = 1 := rfl
  have zA := T_zero m (e + K).toNat
  have zB := T_zero m' (e' + K).toNat
  have both : m = 0 ∧ m' = 0 := by
    unfold gM at h0
    split at h0
    · rename_i q
      exfalso
      have q' : ¬ cmpD (formD false m e) (formD false m' e') ≤ 0 := by omega
      rw [c1, one] at q'
      have := zA.2 h0
      omega
    · rename_i q
      have q' : cmpD (formD false m e) (formD false m' e') ≤ 0 := by omega
      rw [c1, one] at q'
      have := zB.2 h0
      exact ⟨zA.1 (by omega), h0⟩
  obtain ⟨rfl, rfl⟩ := both
  have eX := (mg_as 0 e 0 e' p)
  have gr := g_right hr
  rw [h0] at eX gr
  have hb : shB 0 (gX 0 e 0 e') (-p) = true := by unfold shB; rw [gr, decide_eq_true (by omega)]; rfl
  have e1 : mgE 0 e 0 e' p = 0 := by rw [eX.1, (sh_yes hb).1, form_zero]; decide +kernel
  have e2 : mgP 0 e 0 e' p = (false, 0, 0) := by rw [eX.2, (sh_yes hb).2, form_zero]; decide +kernel
  have r0 : rightB 0 0 = true := by decide +kernel
  have e3 : wlE s 0 e (false, 0, 0) = 0 := by unfold wlE; rw [r1, r0, form_zero]; decide +kernel
  have e4 : whE s' 0 e' (false, 0, 0) = 0 := by unfold whE; rw [r2, r0, form_zero]; decide +kernel
  have e5 : wlP s 0 e (false, 0, 0) = (false, 0, 0) := by unfold wlP; rw [r1, r0, form_zero]; decide +kernel
  have e6 : whP s' 0 e' (false, 0, 0) = (false, 0, 0) := by unfold whP; rw [r2, r0, form_zero]; decide +kernel
  have e7 : wdE s 0 e s' 0 e' p = 0 := by unfold wdE; rw [if_pos ⟨hr, hp⟩, e2, if_pos ⟨e1, e3, e4⟩]
  unfold wdL wdH
  rw [if_pos e7, if_pos e7, e2]
  exact ⟨e7, e5, e6⟩
theorem wide_some {s : Bool} {m : Nat} {e : Int} {s' : Bool} {m' : Nat} {e' p : Int} (hr : rtB s m e s' m' e' = true) (hp : 0 ≤ p ∧ p ≤ 2048) (h0 : gM m e m' e' ≠ 0) :
    (rightB (gL s m e m' e' p).2.1 (gL s m e m' e' p).2.2 = true → rightB (gH m e s' m' e' p).2.1 (gH m e s' m' e' p).2.2 = true → wdE s m e s' m' e' p = 0 ∧ wdL s m e s' m' e' p = gL s m e m' e' p ∧ wdH s m e s' m' e' p = gH m e s' m' e' p) ∧
    (rightB (gL s m e m' e' p).2.1 (gL s m e m' e' p).2.2 = false ∨ rightB (gH m e s' m' e' p).2.1 (gH m e s' m' e' p).2.2 = false → wdE s m e s' m' e' p = 3 ∧ wdL s m e s' m' e' p = (false, 0, 0) ∧ wdH s m e s' m' e' p = (false, 0, 0)) := by
  obtain ⟨r1, r2, hc⟩ := rt_open hr
  have gr := g_right hr
  have hb : shB (gM m e m' e') (gX m e m' e') (-p) = true := by unfold shB; rw [gr, decide_eq_true (by omega)]; rfl
  obtain ⟨a1, a2⟩ := mg_as m e m' e' p
  have a3 := (sh_yes (s := false) hb).1
  have a4 := (sh_yes (s := false) hb).2
  rw [show gX m e m' e' + -p = gX m e m' e' - p by omega] at a3 a4
  have three : ¬ (mgE m e m' e' p = 0 ∧ wlE s m e (mgP m e m' e' p) = 0 ∧ whE s' m' e' (mgP m e m' e' p) = 0) → wdE s m e s' m' e' p = 3 ∧ wdL s m e s' m' e' p = (false, 0, 0) ∧ wdH s m e s' m' e' p = (false, 0, 0) := fun q => by
    have e7 : wdE s m e s' m' e' p = 3 := by unfold wdE; rw [if_pos ⟨hr, hp⟩, if_neg q]
    unfold wdL wdH
    rw [e7]
    exact ⟨rfl, rfl, rfl⟩
  by_cases hm : mgE m e m' e' p = 0
  · rw [a1, a3] at hm
    have hG : roomB (formD false (gM m e m' e') (gX m e m' e' - p)) = true := by
      unfold roomE at hm
      split at hm
      · assumption
      · cases hm
    have eP : mgP m e m' e' p = formD false (gM m e m' e') (gX m e m' e' - p) := by rw [a2, a4]; unfold roomP; rw [if_pos hG]
    have cG := form_can false (gM m e m' e') (gX m e m' e' - p)
    have rG : rightB (formD false (gM m e m' e') (gX m e m' e' - p)).2.1 (formD false (gM m e m' e') (gX m e m' e' - p)).2.2 = true := hG
    have tr : (true && true) = true := rfl
    have eLE : wlE s m e (mgP m e m' e' p) = roomE (gL s m e m' e' p) := by rw [eP]; unfold wlE twE gL; rw [r1, rG, form_of_can cG, if_pos tr]
    have eHE : whE s' m' e' (mgP m e m' e' p) = roomE (gH m e s' m' e' p) := by rw [eP]; unfold whE twE gH; rw [r2, rG, form_of_can cG, if_pos tr]
    have eLP : wlP s m e (mgP m e m' e' p) = roomP (gL s m e m' e' p) := by rw [eP]; unfold wlP twP gL; rw [r1, rG, form_of_can cG, if_pos tr]
    have eHP : whP s' m' e' (mgP m e m' e' p) = roomP (gH m e s' m' e' p) := by rw [eP]; unfold whP twP gH; rw [r2, rG, form_of_can cG, if_pos tr]
    have hm' : mgE m e m' e' p = 0 := by rw [a1, a3, hm]
    constructor
    · intro l1 l2
      have q1 : roomE (gL s m e m' e' p) = 0 := by unfold roomE; exact if_pos l1
      have q2 : roomE (gH m e s' m' e' p) = 0 := by unfold roomE; exact if_pos l2
      have q3 : roomP (gL s m e m' e' p) = gL s m e m' e' p := by unfold roomP; exact if_pos l1
      have q4 : roomP (gH m e s' m' e' p) = gH m e s' m' e' p := by unfold roomP; exact if_pos l2
      have e7 : wdE s m e s' m' e' p = 0 := by unfold wdE; rw [if_pos ⟨hr, hp⟩, if_pos ⟨hm', by rw [eLE, q1], by rw [eHE, q2]⟩]
      unfold wdL wdH
      rw [if_pos e7, if_pos e7, eLP, eHP, q3, q4]
      exact ⟨e7, rfl, rfl⟩
    · intro l
      refine three fun q => ?_
      rw [eLE, eHE] at q
      have yes : ∀ P : Bool × Nat × Int, roomE P = 0 → rightB P.2.1 P.2.2 = true := fun P h => by
        unfold roomE at h
        split at h
        · assumption
        · cases h
      rcases l with l | l
      · rw [yes _ q.2.1] at l; cases l
      · rw [yes _ q.2.2] at l; cases l
  · constructor
    · intro l1 l2
      exfalso
      rcases no_room hr hp h0 hm with l | l
      · rw [l1] at l; cases l
      · rw [l2] at l; cases l
    · intro _
      exact three fun q => hm q.1
theorem wide_out {s : Bool} {m : Nat} {e : Int} {s' : Bool} {m' : Nat} {e' p : Int} (h : ¬ (rtB s m e s' m' e' = true ∧ 0 ≤ p ∧ p ≤ 2048)) : wdE s m e s' m' e' p = 2 ∧ wdL s m e s' m' e' p = (false, 0, 0) ∧ wdH s m e s' m' e' p = (false, 0, 0) := by
  have e7 : wdE s m e s' m' e' p = 2 := by unfold wdE; rw [if_neg h]
  unfold wdL wdH
  rw [e7]
  exact ⟨rfl, rfl, rfl⟩
end Go.Proofs.YtognliaoonkmiaaGreatDoor
