/- The walks of the document's answers for layer 1 (package ulpref01): each answers what the like function of package bits does, for every uint64. -/
import Derived.Test.YtognliaoonkmiaaGreatDoorBWalks2
namespace Go.Proofs.YtognliaoonkmiaaGreatDoor
open Go.RowKit

set_option maxHeartbeats 400000 in
theorem rNumber_calls (x : Int) (w : World) (h : U x) :
    Calls Tryz.prog 79 #[.int .u64 x] w fun e w' => e = .returned (.bool (numB x)) ∧ w' = w := by
  obtain ⟨h0, h1⟩ := h
  go_enter Tryz.func79, Tryz.ntmps79
  go_wp2
  go_ret
  exact ⟨rfl, rfl⟩

set_option maxHeartbeats 400000 in
theorem rFinite_calls (x : Int) (w : World) (h : U x) :
    Calls Tryz.prog 36 #[.int .u64 x] w fun e w' => e = .returned (.bool (finB x)) ∧ w' = w := by
  obtain ⟨h0, h1⟩ := h
  go_enter Tryz.func36, Tryz.ntmps36
  go_wp2
  go_ret
  exact ⟨rfl, rfl⟩

set_option maxHeartbeats 400000 in
theorem rAbs_calls (x : Int) (w : World) (h : U x) :
    Calls Tryz.prog 24 #[.int .u64 x] w fun e w' => e = .returned (.int .u64 (absV x)) ∧ w' = w := by
  obtain ⟨h0, h1⟩ := h
  go_enter Tryz.func24, Tryz.ntmps24
  go_wp2
  go_ret
  exact ⟨rfl, rfl⟩

set_option maxHeartbeats 400000 in
theorem rNeg_calls (x : Int) (w : World) (h : U x) :
    Calls Tryz.prog 54 #[.int .u64 x] w fun e w' => e = .returned (.int .u64 (negV x)) ∧ w' = w := by
  obtain ⟨h0, h1⟩ := h
  by_cases c : 9223372036854775808 ≤ x
  · have hV : Hid (negV x = x - 9223372036854775808) := by unfold negV; rw [Hid]; omega
    go_enter Tryz.func54, Tryz.ntmps54
    go_wp2
    go_ret
    exact ⟨ret_int hV.out.symm, rfl⟩
  · have hV : Hid (negV x = x + 9223372036854775808) := by unfold negV; rw [Hid]; omega
    go_enter Tryz.func54, Tryz.ntmps54
    go_wp2
    go_ret
    exact ⟨ret_int hV.out.symm, rfl⟩

set_option maxHeartbeats 400000 in
theorem rUp_calls (x : Int) (w : World) (h : U x) :
    Calls Tryz.prog 40 #[.int .u64 x] w fun e w' => e = .returned (.int .u64 (upV x)) ∧ w' = w := by
  have HU := h
  obtain ⟨h0, h1⟩ := h
  by_cases c1 : numB x = true
  · have hN : Hid (x % 9223372036854775808 ≤ 9218868437227405312) := by unfold numB at c1; rw [Hid]; exact of_decide_eq_true c1
    by_cases c2 : x = 9218868437227405312
    · have hV : Hid (upV x = x) := by unfold upV; rw [Hid, if_pos (Or.inr c2)]
      have c3 : (x == 9218868437227405312) = true := by simp [c2]
      clear c2
      go_enter Tryz.func40, Tryz.ntmps40
      go_wp2_with (go_at_call 79; refine (rNumber_calls _ _ HU).mono ?_; rintro e w' ⟨rfl, rfl⟩)
      go_ret
      exact ⟨ret_int hV.out.symm, rfl⟩
    · have c3 : (x == 9218868437227405312) = false := by simp [c2]
      by_cases c4 : x % 9223372036854775808 = 0
      · have hV : Hid (upV x = 1) := by unfold upV; rw [Hid, if_neg (by have := hN.out; omega), if_pos c4]
        have c5 : (x % 9223372036854775808 == 0) = true := by simp [c4]
        clear c4 c2
        go_enter Tryz.func40, Tryz.ntmps40
        go_wp2_with (go_at_call 79; refine (rNumber_calls _ _ HU).mono ?_; rintro e w' ⟨rfl, rfl⟩)
        go_ret
        exact ⟨ret_int hV.out.symm, rfl⟩
      · have c5 : (x % 9223372036854775808 == 0) = false := by simp [c4]
        by_cases c6 : 9223372036854775808 ≤ x
        · have hV : Hid (upV x = x - 1) := by unfold upV; rw [Hid, if_neg (by have := hN.out; omega), if_neg c4, if_pos c6]
          clear c4 c2
          go_enter Tryz.func40, Tryz.ntmps40
          go_wp2_with (go_at_call 79; refine (rNumber_calls _ _ HU).mono ?_; rintro e w' ⟨rfl, rfl⟩)
          go_ret
          exact ⟨ret_int hV.out.symm, rfl⟩
        · have hV : Hid (upV x = x + 1) := by unfold upV; rw [Hid, if_neg (by have := hN.out; omega), if_neg c4, if_neg c6]
          clear c4 c2
          go_enter Tryz.func40, Tryz.ntmps40
          go_wp2_with (go_at_call 79; refine (rNumber_calls _ _ HU).mono ?_; rintro e w' ⟨rfl, rfl⟩)
          go_ret
          exact ⟨ret_int hV.out.symm, rfl⟩
  · have hV : Hid (upV x = x) := by unfold upV; rw [Hid, if_pos (Or.inl (by unfold numB at c1; simpa using c1))]
    have c2 : numB x = false := by simpa using c1
    clear c1
    go_enter Tryz.func40, Tryz.ntmps40
    go_wp2_with (go_at_call 79; refine (rNumber_calls _ _ HU).mono ?_; rintro e w' ⟨rfl, rfl⟩)
    go_ret
    exact ⟨ret_int hV.out.symm, rfl⟩

end Go.Proofs.YtognliaoonkmiaaGreatDoor
