/- The walks of the document's answers for layer 1 (package ulpref01): each answers what the like function of package bits does, for every uint64. -/
import Derived.Test.YtiipjkkfaplhnaaGreatDoorBWalks2
namespace Go.Proofs.YtiipjkkfaplhnaaGreatDoor
open Go.RowKit

def belowB (x : Int) : Bool := decide (9223372036854775808 < x)
theorem tup2 {a b c d : Value} (h : a = c) (k : b = d) : Ending.returned (.tuple #[a, b]) = .returned (.tuple #[c, d]) := by rw [h, k]
theorem vint {k : IntKind} {a b : Int} (h : a = b) : Value.int k a = .int k b := by rw [h]

set_option maxHeartbeats 400000 in
theorem rNumber_calls (x : Int) (w : World) (h : U x) :
    Calls Tryz.prog 86 #[.int .u64 x] w fun e w' => e = .returned (.bool (numB x)) ∧ w' = w := by
  obtain ⟨h0, h1⟩ := h
  go_enter Tryz.func86, Tryz.ntmps86
  go_wp2
  go_ret
  exact ⟨rfl, rfl⟩

set_option maxHeartbeats 400000 in
theorem rFinite_calls (x : Int) (w : World) (h : U x) :
    Calls Tryz.prog 37 #[.int .u64 x] w fun e w' => e = .returned (.bool (finB x)) ∧ w' = w := by
  obtain ⟨h0, h1⟩ := h
  go_enter Tryz.func37, Tryz.ntmps37
  go_wp2
  go_ret
  exact ⟨rfl, rfl⟩

set_option maxHeartbeats 400000 in
theorem rAbs_calls (x : Int) (w : World) (h : U x) :
    Calls Tryz.prog 27 #[.int .u64 x] w fun e w' => e = .returned (.int .u64 (absV x)) ∧ w' = w := by
  obtain ⟨h0, h1⟩ := h
  go_enter Tryz.func27, Tryz.ntmps27
  go_wp2
  go_ret
  exact ⟨rfl, rfl⟩

set_option maxHeartbeats 400000 in
theorem rNeg_calls (x : Int) (w : World) (h : U x) :
    Calls Tryz.prog 66 #[.int .u64 x] w fun e w' => e = .returned (.int .u64 (negV x)) ∧ w' = w := by
  obtain ⟨h0, h1⟩ := h
  by_cases c : 9223372036854775808 ≤ x
  · have hV : Hid (negV x = x - 9223372036854775808) := by unfold negV; rw [Hid]; omega
    go_enter Tryz.func66, Tryz.ntmps66
    go_wp2
    go_ret
    exact ⟨ret_int hV.out.symm, rfl⟩
  · have hV : Hid (negV x = x + 9223372036854775808) := by unfold negV; rw [Hid]; omega
    go_enter Tryz.func66, Tryz.ntmps66
    go_wp2
    go_ret
    exact ⟨ret_int hV.out.symm, rfl⟩

set_option maxHeartbeats 400000 in
theorem rUp_calls (x : Int) (w : World) (h : U x) :
    Calls Tryz.prog 41 #[.int .u64 x] w fun e w' => e = .returned (.int .u64 (upV x)) ∧ w' = w := by
  have HU := h
  obtain ⟨h0, h1⟩ := h
  by_cases c1 : numB x = true
  · have hN : Hid (x % 9223372036854775808 ≤ 9218868437227405312) := by unfold numB at c1; rw [Hid]; exact of_decide_eq_true c1
    by_cases c2 : x = 9218868437227405312
    · have hV : Hid (upV x = x) := by unfold upV; rw [Hid, if_pos (Or.inr c2)]
      have c3 : (x == 9218868437227405312) = true := by simp [c2]
      clear c2
      go_enter Tryz.func41, Tryz.ntmps41
      go_wp2_with (go_at_call 86; refine (rNumber_calls _ _ HU).mono ?_; rintro e w' ⟨rfl, rfl⟩)
      go_ret
      exact ⟨ret_int hV.out.symm, rfl⟩
    · have c3 : (x == 9218868437227405312) = false := by simp [c2]
      by_cases c4 : x % 9223372036854775808 = 0
      · have hV : Hid (upV x = 1) := by unfold upV; rw [Hid, if_neg (by have := hN.out; omega), if_pos c4]
        have c5 : (x % 9223372036854775808 == 0) = true := by simp [c4]
        clear c4 c2
        go_enter Tryz.func41, Tryz.ntmps41
        go_wp2_with (go_at_call 86; refine (rNumber_calls _ _ HU).mono ?_; rintro e w' ⟨rfl, rfl⟩)
        go_ret
        exact ⟨ret_int hV.out.symm, rfl⟩
      · have c5 : (x % 9223372036854775808 == 0) = false := by simp [c4]
        by_cases c6 : 9223372036854775808 ≤ x
        · have hV : Hid (upV x = x - 1) := by unfold upV; rw [Hid, if_neg (by have := hN.out; omega), if_neg c4, if_pos c6]
          clear c4 c2
          go_enter Tryz.func41, Tryz.ntmps41
          go_wp2_with (go_at_call 86; refine (rNumber_calls _ _ HU).mono ?_; rintro e w' ⟨rfl, rfl⟩)
          go_ret
          exact ⟨ret_int hV.out.symm, rfl⟩
        · have hV : Hid (upV x = x + 1) := by unfold upV; rw [Hid, if_neg (by have := hN.out; omega), if_neg c4, if_neg c6]
          clear c4 c2
          go_enter Tryz.func41, Tryz.ntmps41
          go_wp2_with (go_at_call 86; refine (rNumber_calls _ _ HU).mono ?_; rintro e w' ⟨rfl, rfl⟩)
          go_ret
          exact ⟨ret_int hV.out.symm, rfl⟩
  · have hV : Hid (upV x = x) := by unfold upV; rw [Hid, if_pos (Or.inl (by unfold numB at c1; simpa using c1))]
    have c2 : numB x = false := by simpa using c1
    clear c1
    go_enter Tryz.func41, Tryz.ntmps41
    go_wp2_with (go_at_call 86; refine (rNumber_calls _ _ HU).mono ?_; rintro e w' ⟨rfl, rfl⟩)
    go_ret
    exact ⟨ret_int hV.out.symm, rfl⟩

theorem rdown_nan (x : Int) (hU : U x) (h : numB x = false) : downV x = x := by
  have e : numB (negV x) = false := by
    unfold numB negV at *; simp only [decide_eq_false_iff_not] at *; omega
  unfold numB at e; simp only [decide_eq_false_iff_not] at e
  unfold downV
  have e2 : upV (negV x) = negV x := by unfold upV; rw [if_pos (Or.inl e)]
  rw [e2]; unfold U at hU; unfold negV; omega



/-- The reference's place is the rung: below the zeros, and by what amount. -/
theorem rung_place (x : Int) (h : U x) : rungV x = if belowB x = true then -absV x else absV x := by
  unfold U at h; unfold rungV absV belowB; simp only [decide_eq_true_eq]; (repeat' split) <;> omega
theorem below_abs (x : Int) (h : U x) (k : belowB x = true) : 0 < absV x := by
  unfold U at h; unfold belowB at k; simp only [decide_eq_true_eq] at k; unfold absV; omega



theorem ord_ref (x y : Int) (h : U x) (k : U y) (v : Int)
    (hv : (x = y ∧ v = 0) ∨ (x ≠ y ∧ 9223372036854775808 ≤ x ∧ 9223372036854775808 ≤ y ∧ y < x ∧ v = -1) ∨ (x ≠ y ∧ 9223372036854775808 ≤ x ∧ 9223372036854775808 ≤ y ∧ ¬ y < x ∧ v = 1)
      ∨ (x ≠ y ∧ 9223372036854775808 ≤ x ∧ ¬ 9223372036854775808 ≤ y ∧ v = -1) ∨ (x ≠ y ∧ ¬ 9223372036854775808 ≤ x ∧ 9223372036854775808 ≤ y ∧ v = 1)
      ∨ (x ≠ y ∧ ¬ 9223372036854775808 ≤ x ∧ ¬ 9223372036854775808 ≤ y ∧ x < y ∧ v = -1) ∨ (x ≠ y ∧ ¬ 9223372036854775808 ≤ x ∧ ¬ 9223372036854775808 ≤ y ∧ ¬ x < y ∧ v = 1)) : ordV x y = v := by
  unfold U at h k; unfold ordV cmpV placeV; (repeat' split) <;> omega

end Go.Proofs.YtiipjkkfaplhnaaGreatDoor
