/- Rounding of numbers with their sign: order, less a number (pure). -/
import Derived.Test.YtjgnoaieplmoiaaGreatDoorRM0
import Derived.Test.YtjgnoaieplmoiaaGreatDoorRNV
import Derived.Test.YtjgnoaieplmoiaaGreatDoorRDE
namespace Go.Proofs.YtjgnoaieplmoiaaGreatDoor
open Go.RowKit

theorem near_num (s : Bool) (m : Nat) (e : Int) : numB (nearB s m e) = true ∧ rungV (nearB s m e) = sI s * nearW m e := by
  have hb := nearW_bd m e
  have hz : m = 0 → nearW m e = 0 := fun q => by unfold nearW; rw [if_pos q]
  unfold nearB
  by_cases h : (s && decide (m ≠ 0)) = true
  · rw [if_pos h]
    simp only [Bool.and_eq_true, decide_eq_true_eq] at h
    rw [h.1]
    unfold numB rungV negV sI
    refine ⟨by simp; omega, ?_⟩
    rw [if_pos (by omega), if_pos rfl]
    omega
  · rw [if_neg h]
    simp only [Bool.and_eq_true, decide_eq_true_eq, not_and, Decidable.not_not] at h
    refine ⟨by unfold numB; simp; omega, ?_⟩
    unfold rungV
    rw [if_neg (by omega)]
    unfold sI
    cases s with
    | true => rw [hz (h rfl)]; rfl
    | false => rw [if_neg (by decide)]; omega
theorem cmp_le (x y : Int) : Lib.compareInt x y ≤ 0 ↔ x ≤ y := by
  unfold Lib.compareInt
  split
  · constructor <;> omega
  · split <;> constructor <;> omega
/-- of a no greater number what it is rounded to is no greater -/
theorem near_le (s : Bool) (m : Nat) (e : Int) (t : Bool) (m' : Nat) (f : Int) (he : -32768 ≤ e) (hf : -32768 ≤ f) (h : cmpD (formD s m e) (formD t m' f) ≤ 0) : rungV (nearB s m e) ≤ rungV (nearB t m' f) := by
  obtain ⟨K, hK⟩ : ∃ K : Nat, K = 32768 := ⟨_, rfl⟩
  rw [vI_cmp _ _ K (form_lo _ _ _ _ (by omega) (by omega)) (form_lo _ _ _ _ (by omega) (by omega)), cmp_le, vI_form _ _ _ _ (by omega), vI_form _ _ _ _ (by omega)] at h
  rw [(near_num s m e).2, (near_num t m' f).2]
  rw [show (e - -(K : Int)).toNat = (e + K).toNat by omega, show (f - -(K : Int)).toNat = (f + K).toNat by omega] at h
  have b1 := nearW_bd m e
  have b2 := nearW_bd m' f
  have k1 := near_mono m e m' f K (by omega) he hf
  have k2 := near_mono m' f m e K (by omega) hf he
  have k3 := near_mono m e 0 0 K (by omega) he (by decide)
  have k4 := near_mono m' f 0 0 K (by omega) hf (by decide)
  rw [Nat.zero_mul, show nearW 0 0 = 0 by decide] at k3 k4
  generalize m * 2 ^ (e + K).toNat = T at *
  generalize m' * 2 ^ (f + K).toNat = T' at *
  unfold sI at *
  cases s <;> cases t <;> simp at h ⊢
  · have := k1 (by omega); omega
  · have := k3 (by omega); have := k4 (by omega); omega
  · omega
  · have := k2 (by omega); omega
theorem not_less (s : Bool) (m : Nat) (e : Int) (t : Bool) (m' : Nat) (f : Int) (he : -32768 ≤ e) (hf : -32768 ≤ f) (h : cmpD (formD s m e) (formD t m' f) ≤ 0) : lessB (nearB t m' f) (nearB s m e) = false := by
  have := near_le s m e t m' f he hf h
  unfold lessB
  rw [decide_eq_false (by omega)]
  simp
theorem form_val (s : Bool) (m : Nat) (e : Int) (K : Nat) (h0 : m ≠ 0) (he : -(K : Int) ≤ e) : (formD s m e).2.1 * 2 ^ ((formD s m e).2.2 + K).toNat = m * 2 ^ (e + K).toNat := by
  have h1 := vI_form false m e (-(K : Int)) he
  unfold vI sI at h1
  have hs : formD s m e = (s, (formD false m e).2.1, (formD false m e).2.2) := by rw [form_pos _ h0, form_pos _ h0]
  have hs0 : (formD false m e).1 = false := by rw [form_pos _ h0]
  rw [hs0] at h1
  simp at h1
  rw [hs]
  show (formD false m e).2.1 * 2 ^ ((formD false m e).2.2 + K).toNat = _
  rw [show ((formD false m e).2.2 + (K : Int)).toNat = ((formD false m e).2.2 + (K : Int)).toNat from rfl]
  have h2 := h1
  exact_mod_cast h2
/-- what is rounded of less a number -/
theorem near_turn (s : Bool) (m : Nat) (e : Int) (hr : rightB m e = true) (hc : canE s m e = 0) :
    erR (ngP s m e).2.1 (ngP s m e).2.2 = 0 ∧ flR (ngP s m e).1 (ngP s m e).2.1 (ngP s m e).2.2 = flR s m e ∧ (m = 0 → nbR (ngP s m e).1 (ngP s m e).2.1 (ngP s m e).2.2 = 0) ∧ (m ≠ 0 → nbR (ngP s m e).1 (ngP s m e).2.1 (ngP s m e).2.2 = negV (nbR s m e)) := by
  obtain ⟨hg, he⟩ := rightB_yes hr
  have c1 := canE_yes (s := s) hr
  have hroom : roomB (formD s m e) = true := by
    rw [c1.1] at hc
    unfold roomE at hc
    split at hc
    · assumption
    · cases hc
  have hp : ngP s m e = negD (formD s m e) := by
    unfold ngP
    rw [if_pos hc, c1.2]
    unfold roomP
    rw [if_pos hroom]
  have hr2 : rightB (formD s m e).2.1 (formD s m e).2.2 = true := hroom
  have hr3 : rightB (negD (formD s m e)).2.1 (negD (formD s m e)).2.2 = true := hroom
  obtain ⟨-, hf⟩ := rightB_yes hr2
  rw [hp]
  by_cases h0 : m = 0
  · have hz : formD s m e = (false, 0, 0) := by rw [h0]; exact form_zero s e
    rw [hz] at hr3 ⊢
    refine ⟨by unfold erR; rw [if_pos hr3], ?_, fun _ => ?_, fun q => absurd h0 q⟩
    · unfold flR
      rw [if_pos hr3, if_pos hr]
      have x1 : exactB (negD (false, 0, 0)).2.1 (negD (false, 0, 0)).2.2 = true := by decide
      have x2 : exactB m e = true := by unfold exactB; rw [if_pos h0]
      rw [if_pos x1, if_pos x2]
    · unfold nbR
      rw [if_pos hr3]
      decide
  · obtain ⟨K, hK⟩ : ∃ K : Nat, K = 32768 := ⟨_, rfl⟩
    obtain ⟨n1, n2, n3⟩ := near_same (formD s m e).2.1 (formD s m e).2.2 m e K (by omega) (by omega) (by omega) (form_val s m e K h0 (by omega))
    have hm0 : (formD s m e).2.1 ≠ 0 := fun q => h0 (n3.1 q)
    have hs : (formD s m e).1 = s := by rw [form_pos _ h0]
    have hng : (negD (formD s m e)).1 = !s := by unfold negD; rw [hs, decide_eq_false hm0]; simp
    have ht : tinyP (formD s m e).2.1 (formD s m e).2.2 = tinyP m e := by
      unfold tinyP
      have : formD false (formD s m e).2.1 (formD s m e).2.2 = formD false m e := by
        have q := form_of_can (form_can false m e)
        rw [form_pos s h0, form_pos false h0]
        rw [form_pos false h0] at q
        exact q
      rw [this]
    have hb : nearB (!s) (formD s m e).2.1 (formD s m e).2.2 = negV (nearB s m e) := by
      have w := nearW_bd m e
      unfold nearB
      rw [n1, decide_eq_true hm0, decide_eq_true (show m ≠ 0 from h0)]
      cases s
      · simp
      · simp; unfold negV; omega
    refine ⟨by unfold erR; rw [if_pos hr3], ?_, fun q => absurd q h0, fun _ => ?_⟩
    · unfold flR
      rw [if_pos hr3, if_pos hr, hng]
      show (if exactB (formD s m e).2.1 (formD s m e).2.2 = true then 0 else inxF (nearB (!s) (formD s m e).2.1 (formD s m e).2.2) (tinyP (formD s m e).2.1 (formD s m e).2.2)) = _
      rw [n2, ht, hb]
      unfold inxF
      rw [show absV (negV (nearB s m e)) = absV (nearB s m e) from by have := nearB_U s m e; unfold absV negV; unfold U at this; omega]
    · unfold nbR
      rw [if_pos hr3, if_pos hr, hng]
      exact hb

end Go.Proofs.YtjgnoaieplmoiaaGreatDoor
