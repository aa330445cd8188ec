/- The walk of the statement FlagsSets: it answers true for any two bytes, where the names stand. -/
import Derived.Test.YtoamnimepkodeabDoorFBegins
namespace Go.Proofs.YtoamnimepkodeabDoor
open Go.RowKit

theorem nat_not (b i : Nat) (h : b < 256) : (255 - b).testBit i = (decide (i < 8) && !b.testBit i) := by
  have := Nat.testBit_two_pow_sub_succ (show b < 2 ^ 8 by omega) i
  rw [← this]; congr 1; omega
theorem nat_ext {a b : Nat} (h : ∀ i, a.testBit i = b.testBit i) : a = b := Nat.eq_of_testBit_eq h
theorem has_meet (f g : Int) (h : F f) (k : F g) : hasB f g = (bits .and .u8 f g == g) := by
  show hasB f g = (andV f g == g)
  unfold hasB
  rw [take_nat g f k h, and_nat f g h k, Bool.eq_iff_iff, beq_iff_eq, beq_iff_eq]
  unfold F at h k
  have hi8 : ∀ i, ¬ i < 8 → g.toNat.testBit i = false := fun i hi =>
    Nat.testBit_lt_two_pow (Nat.lt_of_lt_of_le (show g.toNat < 2 ^ 8 by omega) (Nat.pow_le_pow_right (by decide) (by omega)))
  constructor
  · intro e
    have e' : g.toNat &&& (255 - f.toNat) = 0 := by omega
    have : f.toNat &&& g.toNat = g.toNat := by
      apply nat_ext
      intro i
      have := congrArg (Nat.testBit · i) e'
      simp only [Nat.testBit_and, nat_not f.toNat i (by omega), Nat.zero_testBit] at this
      rw [Nat.testBit_and]
      by_cases hi : i < 8
      · simp [hi] at this
        cases hF : f.toNat.testBit i <;> cases hG : g.toNat.testBit i <;> simp_all
      · rw [hi8 i hi]; simp
    rw [this]; omega
  · intro e
    have e' : f.toNat &&& g.toNat = g.toNat := by omega
    have : g.toNat &&& (255 - f.toNat) = 0 := by
      apply nat_ext
      intro i
      have := congrArg (Nat.testBit · i) e'
      simp only [Nat.testBit_and] at this
      rw [Nat.testBit_and, nat_not f.toNat i (by omega), Nat.zero_testBit]
      cases hF : f.toNat.testBit i <;> cases hG : g.toNat.testBit i <;> simp_all
    rw [this]; rfl

set_option maxHeartbeats 400000 in
theorem rRight_calls (f : Int) (w : World) (hf : F f) :
    Calls Tryd.prog 19 #[.int .u8 f] w fun e w' => e = .returned (.bool (rightB f)) ∧ w' = w := by
  have hV : Hid _ := right_le f hf
  go_enter Tryd.func19, Tryd.ntmps19
  go_wp2
  go_ret
  exact ⟨fret_bool hV.out.symm, rfl⟩

set_option maxHeartbeats 400000 in
theorem rMath_calls (f : Int) (w : World) (hf : F f) :
    Calls Tryd.prog 25 #[.int .u8 f] w fun e w' => e = .returned (.int .u8 (mathV f)) ∧ w' = w := by
  have h1 := has_one f hf
  cases c1 : hasB f 1
  · rw [c1] at h1
    have d1 : (bits .and .u8 f 1 != 0) = false := h1.symm
    clear h1
    cases c2 : (andV f 14 != 0)
    · have hV : Hid (mathV f = 0) := by unfold mathV; rw [Hid, c1, c2]; rfl
      have d2 : (bits .and .u8 f 14 != 0) = false := c2
      clear c1 c2
      go_enter Tryd.func25, Tryd.ntmps25
      go_wp2
      go_ret
      exact ⟨fret_int hV.out.symm, rfl⟩
    · have hV : Hid (mathV f = 2) := by unfold mathV; rw [Hid, c1, c2]; rfl
      have d2 : (bits .and .u8 f 14 != 0) = true := c2
      clear c1 c2
      go_enter Tryd.func25, Tryd.ntmps25
      go_wp2
      go_ret
      exact ⟨fret_int hV.out.symm, rfl⟩
  · rw [c1] at h1
    have d1 : (bits .and .u8 f 1 != 0) = true := h1.symm
    have hV : Hid (mathV f = 1) := by unfold mathV; rw [Hid, c1]; rfl
    clear h1 c1
    go_enter Tryd.func25, Tryd.ntmps25
    go_wp2
    go_ret
    exact ⟨fret_int hV.out.symm, rfl⟩

set_option maxHeartbeats 1000000 in
theorem flagsSets_walk (f g : Int) (w : World) (hf : F f) (hg : F g) (hN : Names w) :
    Calls Tryd.prog 5 #[.int .u8 f, .int .u8 g] w fun e w' => e = .returned (.bool true) ∧ Below w.heap.size w w' := by
  have k1 := has_meet f g hf hg
  have k2 : (orV f g == bits .or .u8 f g) = true := by show (orV f g == orV f g) = true; simp
  have k3 : (andV f g == bits .and .u8 f g) = true := by show (andV f g == andV f g) = true; simp
  have k4 : (takeV f g == bits .andNot .u8 f g) = true := by show (takeV f g == takeV f g) = true; simp
  go_enter Tryd.func5, Tryd.ntmps5
  go_wp2_with (first | (go_at_call 26; refine (begins_calls _ hN).mono ?_; rintro e w1 ⟨rfl, hb⟩) | (go_at_call 21; refine (fJoin_calls _ _ _).mono ?_; rintro e w ⟨rfl, rfl⟩) | (go_at_call 22; refine (fMeet_calls _ _ _).mono ?_; rintro e w ⟨rfl, rfl⟩) | (go_at_call 23; refine (fTake_calls _ _ _).mono ?_; rintro e w ⟨rfl, rfl⟩) | (go_at_call 20; refine (fHas_calls _ _ _).mono ?_; rintro e w ⟨rfl, rfl⟩) | (go_at_call 18; refine (fRight_calls _ _).mono ?_; rintro e w ⟨rfl, rfl⟩) | (go_at_call 24; refine (fMath_calls _ _).mono ?_; rintro e w ⟨rfl, rfl⟩) | (go_at_call 19; refine (rRight_calls _ _ hf).mono ?_; rintro e w ⟨rfl, rfl⟩) | (go_at_call 25; refine (rMath_calls _ _ hf).mono ?_; rintro e w ⟨rfl, rfl⟩))
  go_ret
  exact ⟨rfl, hb⟩
end Go.Proofs.YtoamnimepkodeabDoor
