/- What lies between two numbers that are rounded alike is rounded so; a number is a binary64 just if it is rounded exactly (pure). -/
import Derived.Test.YtjgnoaieplmoiaaGreatDoorRMp
import Derived.Test.YtjgnoaieplmoiaaGreatDoorDTo4
namespace Go.Proofs.YtjgnoaieplmoiaaGreatDoor
open Go.RowKit

/-- is a number below 0? -/
def sgB (s : Bool) (m : Nat) : Bool := s && decide (m ≠ 0)
theorem near_sg (s : Bool) (m : Nat) (e : Int) (t : Bool) (m' : Nat) (f : Int) (h : nearB s m e = nearB t m' f) : sgB s m = sgB t m' ∧ nearW m e = nearW m' f := by
  have b1 := nearW_bd m e
  have b2 := nearW_bd m' f
  unfold nearB at h
  unfold sgB
  cases h1 : (s && decide (m ≠ 0)) <;> cases h2 : (t && decide (m' ≠ 0)) <;> rw [h1, h2] at h <;> simp at h
  · exact ⟨rfl, h⟩
  · unfold negV at h; omega
  · unfold negV at h; omega
  · refine ⟨rfl, ?_⟩
    unfold negV at h; omega
theorem near_of (s : Bool) (m : Nat) (e : Int) (t : Bool) (m' : Nat) (f : Int) (h : sgB s m = sgB t m') (hw : nearW m e = nearW m' f) : nearB s m e = nearB t m' f := by
  unfold sgB at h
  unfold nearB
  rw [h, hw]
/-- the order of two numbers in units of 2^-K -/
theorem cmp_T (s : Bool) (m : Nat) (e : Int) (t : Bool) (m' : Nat) (f : Int) (K : Nat) (hK : K = 32768) (he : -32768 ≤ e) (hf : -32768 ≤ f) : cmpD (formD s m e) (formD t m' f) ≤ 0 ↔ sI s * ((m * 2 ^ (e + K).toNat : Nat) : Int) ≤ sI t * ((m' * 2 ^ (f + K).toNat : Nat) : Int) := by
  rw [vI_cmp _ _ K (form_lo _ _ _ _ (by omega) (by omega)) (form_lo _ _ _ _ (by omega) (by omega)), cmp_le, vI_form _ _ _ _ (by omega), vI_form _ _ _ _ (by omega)]
  rw [show (e - -(K : Int)).toNat = (e + K).toNat by omega, show (f - -(K : Int)).toNat = (f + K).toNat by omega]
theorem T_zero (m z : Nat) : m * 2 ^ z = 0 ↔ m = 0 := by
  have := Nat.two_pow_pos z
  constructor
  · intro h
    rcases Nat.mul_eq_zero.1 h with k | k
    · exact k
    · omega
  · intro h; rw [h, Nat.zero_mul]
theorem near_between (s : Bool) (m : Nat) (e : Int) (t : Bool) (m' : Nat) (f : Int) (u : Bool) (n : Nat) (g : Int) (he : -32768 ≤ e) (hf : -32768 ≤ f) (hg : -32768 ≤ g) (h1 : cmpD (formD s m e) (formD u n g) ≤ 0) (h2 : cmpD (formD u n g) (formD t m' f) ≤ 0) (hN : nearB s m e = nearB t m' f) (hT : tinyP m e = tinyP m' f) :
    nearB u n g = nearB s m e ∧ tinyP n g = tinyP m e := by
  have r1 := near_le s m e u n g he hg h1
  have r2 := near_le u n g t m' f hg hf h2
  rw [← hN] at r2
  have hr : rungV (nearB u n g) = rungV (nearB s m e) := by omega
  rw [(near_num u n g).2, (near_num s m e).2] at hr
  obtain ⟨g1, g2⟩ := near_sg s m e t m' f hN
  obtain ⟨K, hK⟩ : ∃ K : Nat, K = 32768 := ⟨_, rfl⟩
  rw [cmp_T s m e u n g K hK he hg] at h1
  rw [cmp_T u n g t m' f K hK hg hf] at h2
  rw [tiny_num m e K (by omega) he, tiny_num m' f K (by omega) hf] at hT
  rw [tiny_num n g K (by omega) hg, tiny_num m e K (by omega) he]
  have z1 := T_zero m (e + K).toNat
  have z2 := T_zero m' (f + K).toNat
  have z3 := T_zero n (g + K).toNat
  have b1 := nearW_bd m e
  have b2 := nearW_bd n g
  have w1 : m * 2 ^ (e + K).toNat = 0 → nearW m e = 0 := fun q => by unfold nearW; rw [if_pos (z1.1 q)]
  have w2 : n * 2 ^ (g + K).toNat = 0 → nearW n g = 0 := fun q => by unfold nearW; rw [if_pos (z3.1 q)]
  have e1 : decide (m ≠ 0) = decide (m * 2 ^ (e + K).toNat ≠ 0) := by rw [decide_eq_decide]; exact not_congr z1.symm
  have e2 : decide (m' ≠ 0) = decide (m' * 2 ^ (f + K).toNat ≠ 0) := by rw [decide_eq_decide]; exact not_congr z2.symm
  have e3 : decide (n ≠ 0) = decide (n * 2 ^ (g + K).toNat ≠ 0) := by rw [decide_eq_decide]; exact not_congr z3.symm
  unfold sgB at g1
  rw [e1, e2] at g1
  have key : (u && decide (n ≠ 0)) = (s && decide (m ≠ 0)) ∧ nearW n g = nearW m e ∧ (n * 2 ^ (g + K).toNat < 18014398509481983 * 2 ^ (K - 1076) ↔ m * 2 ^ (e + K).toNat < 18014398509481983 * 2 ^ (K - 1076)) := by
    rw [e1, e3]
    rw [decide_eq_decide] at hT
    clear e1 e2 e3 z1 z2 z3
    generalize m * 2 ^ (e + K).toNat = T1 at *
    generalize m' * 2 ^ (f + K).toNat = T2 at *
    generalize n * 2 ^ (g + K).toNat = T3 at *
    generalize 18014398509481983 * 2 ^ (K - 1076) = C at *
    generalize nearW m e = N1 at *
    generalize nearW n g = N2 at *
    generalize nearW m' f = N3 at *
    clear r1 r2 hN
    unfold sI at *
    by_cases a1 : T1 = 0 <;> by_cases a2 : T2 = 0 <;> by_cases a3 : T3 = 0
    all_goals simp only [a1, a2, a3, ne_eq, not_true_eq_false, not_false_eq_true, decide_true, decide_false, Bool.and_true, Bool.and_false] at g1 ⊢
    all_goals cases s <;> cases t <;> cases u <;> simp at h1 h2 hr g1 ⊢ <;> omega
  refine ⟨near_of u n g s m e (by unfold sgB; exact key.1) key.2.1, ?_⟩
  rw [decide_eq_decide]
  exact key.2.2
/-- a number is a binary64 just if it is rounded exactly -/
theorem to_exact (s : Bool) (m : Nat) (e : Int) (hr : rightB m e = true) : (toR s m e).2 = exactB m e := by
  obtain ⟨-, he⟩ := rightB_yes hr
  by_cases h0 : m = 0
  · subst h0
    rw [toR_zero hr]
    unfold exactB
    rw [if_pos rfl]
  · obtain ⟨K, hK⟩ : ∃ K : Nat, K = 32768 := ⟨_, rfl⟩
    obtain ⟨o1, o2⟩ := odd_part h0
    have hm0 : m / 2 ^ tz m ≠ 0 := fun q => by rw [q] at o1; exact absurd o1 (by decide)
    have hf := form_pos s h0 e
    have hv := form_val s m e K h0 (by omega)
    rw [hf] at hv
    obtain ⟨-, n2, -⟩ := near_same (m / 2 ^ tz m) (e + (tz m : Int)) m e K (by omega) (by omega) (by omega) hv
    rw [← n2]
    have ht : (toR s m e).2 = toB (formD s m e) := by
      cases hb : toB (formD s m e) with
      | true => rw [toR_yes hr h0 hb]
      | false => rw [toR_no hr h0 hb]
    rw [ht, hf]
    generalize m / 2 ^ tz m = o at *
    generalize e + (tz m : Int) = f at *
    have hbl : blen o ≠ 0 := fun q => hm0 ((blen_nil _).1 q)
    have hodd : ∀ k : Int, ls2 o k = decide (0 < k) := fun k => by
      unfold ls2
      by_cases hk : k ≤ 0
      · rw [if_pos hk, decide_eq_false (by omega)]
      · rw [if_neg hk, decide_eq_true (by omega)]
        unfold lostB
        obtain ⟨j, hj⟩ : ∃ j : Nat, k.toNat = j + 1 := ⟨k.toNat - 1, by omega⟩
        rw [hj]
        refine decide_eq_true fun q => ?_
        have : 2 ∣ o := Nat.dvd_trans ⟨2 ^ j, by rw [Nat.pow_succ, Nat.mul_comm]⟩ (Nat.dvd_of_mod_eq_zero q)
        omega
    unfold toB exactB
    rw [if_neg hm0, hodd]
    show decide (blen o ≤ 53 ∧ -1074 ≤ f ∧ f + (blen o : Int) - 1 ≤ 1023) = _
    by_cases c1 : 1024 ≤ tpI o f
    · rw [if_pos c1]
      unfold tpI at c1
      exact decide_eq_false (by omega)
    · rw [if_neg c1]
      unfold tpI at c1
      have hl : lsI o f = if f + (blen o : Int) - 1 - 52 < -1074 then -1074 else f + (blen o : Int) - 1 - 52 := rfl
      rw [hl, ← decide_not, decide_eq_decide]
      split <;> omega
end Go.Proofs.YtjgnoaieplmoiaaGreatDoor
