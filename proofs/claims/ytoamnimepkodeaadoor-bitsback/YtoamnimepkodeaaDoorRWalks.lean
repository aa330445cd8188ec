/- The walks of the document's answers for layer 1 (package ulpref01): each answers what the like function of package bits does, for every uint64. -/
import Derived.Test.YtoamnimepkodeaaDoorBWalks2
namespace Go.Proofs.YtoamnimepkodeaaDoor
open Go.RowKit

def belowB (x : Int) : Bool := decide (9223372036854775808 < x)
theorem tup2 {a b c d : Value} (h : a = c) (k : b = d) : Ending.returned (.tuple #[a, b]) = .returned (.tuple #[c, d]) := by rw [h, k]
theorem vint {k : IntKind} {a b : Int} (h : a = b) : Value.int k a = .int k b := by rw [h]

set_option maxHeartbeats 400000 in
theorem rNumber_calls (x : Int) (w : World) (h : U x) :
    Calls Tryd.prog 39 #[.int .u64 x] w fun e w' => e = .returned (.bool (numB x)) ∧ w' = w := by
  obtain ⟨h0, h1⟩ := h
  go_enter Tryd.func39, Tryd.ntmps39
  go_wp2
  go_ret
  exact ⟨rfl, rfl⟩

set_option maxHeartbeats 400000 in
theorem rFinite_calls (x : Int) (w : World) (h : U x) :
    Calls Tryd.prog 42 #[.int .u64 x] w fun e w' => e = .returned (.bool (finB x)) ∧ w' = w := by
  obtain ⟨h0, h1⟩ := h
  go_enter Tryd.func42, Tryd.ntmps42
  go_wp2
  go_ret
  exact ⟨rfl, rfl⟩

set_option maxHeartbeats 400000 in
theorem rAbs_calls (x : Int) (w : World) (h : U x) :
    Calls Tryd.prog 25 #[.int .u64 x] w fun e w' => e = .returned (.int .u64 (absV x)) ∧ w' = w := by
  obtain ⟨h0, h1⟩ := h
  go_enter Tryd.func25, Tryd.ntmps25
  go_wp2
  go_ret
  exact ⟨rfl, rfl⟩

set_option maxHeartbeats 400000 in
theorem rNeg_calls (x : Int) (w : World) (h : U x) :
    Calls Tryd.prog 23 #[.int .u64 x] w fun e w' => e = .returned (.int .u64 (negV x)) ∧ w' = w := by
  obtain ⟨h0, h1⟩ := h
  by_cases c : 9223372036854775808 ≤ x
  · have hV : Hid (negV x = x - 9223372036854775808) := by unfold negV; rw [Hid]; omega
    go_enter Tryd.func23, Tryd.ntmps23
    go_wp2
    go_ret
    exact ⟨ret_int hV.out.symm, rfl⟩
  · have hV : Hid (negV x = x + 9223372036854775808) := by unfold negV; rw [Hid]; omega
    go_enter Tryd.func23, Tryd.ntmps23
    go_wp2
    go_ret
    exact ⟨ret_int hV.out.symm, rfl⟩

set_option maxHeartbeats 400000 in
theorem rUp_calls (x : Int) (w : World) (h : U x) :
    Calls Tryd.prog 19 #[.int .u64 x] w fun e w' => e = .returned (.int .u64 (upV x)) ∧ w' = w := by
  have HU := h
  obtain ⟨h0, h1⟩ := h
  by_cases c1 : numB x = true
  · have hN : Hid (x % 9223372036854775808 ≤ 9218868437227405312) := by unfold numB at c1; rw [Hid]; exact of_decide_eq_true c1
    by_cases c2 : x = 9218868437227405312
    · have hV : Hid (upV x = x) := by unfold upV; rw [Hid, if_pos (Or.inr c2)]
      have c3 : (x == 9218868437227405312) = true := by simp [c2]
      clear c2
      go_enter Tryd.func19, Tryd.ntmps19
      go_wp2_with (go_at_call 39; refine (rNumber_calls _ _ HU).mono ?_; rintro e w' ⟨rfl, rfl⟩)
      go_ret
      exact ⟨ret_int hV.out.symm, rfl⟩
    · have c3 : (x == 9218868437227405312) = false := by simp [c2]
      by_cases c4 : x % 9223372036854775808 = 0
      · have hV : Hid (upV x = 1) := by unfold upV; rw [Hid, if_neg (by have := hN.out; omega), if_pos c4]
        have c5 : (x % 9223372036854775808 == 0) = true := by simp [c4]
        clear c4 c2
        go_enter Tryd.func19, Tryd.ntmps19
        go_wp2_with (go_at_call 39; refine (rNumber_calls _ _ HU).mono ?_; rintro e w' ⟨rfl, rfl⟩)
        go_ret
        exact ⟨ret_int hV.out.symm, rfl⟩
      · have c5 : (x % 9223372036854775808 == 0) = false := by simp [c4]
        by_cases c6 : 9223372036854775808 ≤ x
        · have hV : Hid (upV x = x - 1) := by unfold upV; rw [Hid, if_neg (by have := hN.out; omega), if_neg c4, if_pos c6]
          clear c4 c2
          go_enter Tryd.func19, Tryd.ntmps19
          go_wp2_with (go_at_call 39; refine (rNumber_calls _ _ HU).mono ?_; rintro e w' ⟨rfl, rfl⟩)
          go_ret
          exact ⟨ret_int hV.out.symm, rfl⟩
        · have hV : Hid (upV x = x + 1) := by unfold upV; rw [Hid, if_neg (by have := hN.out; omega), if_neg c4, if_neg c6]
          clear c4 c2
          go_enter Tryd.func19, Tryd.ntmps19
          go_wp2_with (go_at_call 39; refine (rNumber_calls _ _ HU).mono ?_; rintro e w' ⟨rfl, rfl⟩)
          go_ret
          exact ⟨ret_int hV.out.symm, rfl⟩
  · have hV : Hid (upV x = x) := by unfold upV; rw [Hid, if_pos (Or.inl (by unfold numB at c1; simpa using c1))]
    have c2 : numB x = false := by simpa using c1
    clear c1
    go_enter Tryd.func19, Tryd.ntmps19
    go_wp2_with (go_at_call 39; refine (rNumber_calls _ _ HU).mono ?_; rintro e w' ⟨rfl, rfl⟩)
    go_ret
    exact ⟨ret_int hV.out.symm, rfl⟩

theorem rdown_nan (x : Int) (hU : U x) (h : numB x = false) : downV x = x := by
  have e : numB (negV x) = false := by
    unfold numB negV at *; simp only [decide_eq_false_iff_not] at *; omega
  unfold numB at e; simp only [decide_eq_false_iff_not] at e
  unfold downV
  have e2 : upV (negV x) = negV x := by unfold upV; rw [if_pos (Or.inl e)]
  rw [e2]; unfold U at hU; unfold negV; omega

set_option maxHeartbeats 400000 in
theorem rDown_calls (x : Int) (w : World) (h : U x) :
    Calls Tryd.prog 21 #[.int .u64 x] w fun e w' => e = .returned (.int .u64 (downV x)) ∧ w' = w := by
  cases c : numB x
  · have hV : Hid (downV x = x) := rdown_nan x h c
    go_enter Tryd.func21, Tryd.ntmps21
    go_wp2_with (go_at_call 39; refine (rNumber_calls _ _ h).mono ?_; rintro e w' ⟨rfl, rfl⟩)
    go_ret
    exact ⟨ret_int hV.out.symm, rfl⟩
  · have u1 := negV_U x
    have u2 := upV_U _ u1
    go_enter Tryd.func21, Tryd.ntmps21
    go_wp2_with (first | (go_at_call 39; refine (rNumber_calls _ _ h).mono ?_; rintro e w' ⟨rfl, rfl⟩) | (go_at_call 23; refine (rNeg_calls _ _ (by assumption)).mono ?_; rintro e w' ⟨rfl, rfl⟩) | (go_at_call 19; refine (rUp_calls _ _ (by assumption)).mono ?_; rintro e w' ⟨rfl, rfl⟩))
    go_ret
    exact ⟨rfl, rfl⟩

set_option maxHeartbeats 400000 in
theorem rPlace_calls (x : Int) (w : World) (h : U x) :
    Calls Tryd.prog 40 #[.int .u64 x] w fun e w' => e = .returned (.tuple #[.bool (belowB x), .int .u64 (absV x)]) ∧ w' = w := by
  obtain ⟨h0, h1⟩ := h
  go_enter Tryd.func40, Tryd.ntmps40
  go_wp2
  go_ret2
  exact ⟨rfl, rfl⟩

/-- The reference's place is the rung: below the zeros, and by what amount. -/
theorem rung_place (x : Int) (h : U x) : rungV x = if belowB x = true then -absV x else absV x := by
  unfold U at h; unfold rungV absV belowB; simp only [decide_eq_true_eq]; (repeat' split) <;> omega
theorem below_abs (x : Int) (h : U x) (k : belowB x = true) : 0 < absV x := by
  unfold U at h; unfold belowB at k; simp only [decide_eq_true_eq] at k; unfold absV; omega

set_option maxHeartbeats 1000000 in
theorem rLess_calls (x y : Int) (w : World) (h : U x) (k : U y) :
    Calls Tryd.prog 29 #[.int .u64 x, .int .u64 y] w fun e w' => e = .returned (.bool (lessB x y)) ∧ w' = w := by
  cases c1 : numB x
  · have hV : Hid (lessB x y = false) := by unfold lessB; rw [Hid, c1]; rfl
    go_enter Tryd.func29, Tryd.ntmps29
    go_wp2_with (first | (go_at_call 39; refine (rNumber_calls _ _ (by assumption)).mono ?_; rintro e w' ⟨rfl, rfl⟩) | (go_at_call 40; refine (rPlace_calls _ _ (by assumption)).mono ?_; rintro e w' ⟨rfl, rfl⟩))
    go_ret
    exact ⟨ret_bool hV.out.symm, rfl⟩
  · cases c2 : numB y
    · have hV : Hid (lessB x y = false) := by unfold lessB; rw [Hid, c2]; simp
      go_enter Tryd.func29, Tryd.ntmps29
      go_wp2_with (first | (go_at_call 39; refine (rNumber_calls _ _ (by assumption)).mono ?_; rintro e w' ⟨rfl, rfl⟩) | (go_at_call 40; refine (rPlace_calls _ _ (by assumption)).mono ?_; rintro e w' ⟨rfl, rfl⟩))
      go_ret
      exact ⟨ret_bool hV.out.symm, rfl⟩
    · have hV : Hid (lessB x y = decide (rungV x < rungV y)) := by unfold lessB; rw [Hid, c1, c2]; rfl
      have hp := rung_place x h
      have hq := rung_place y k
      have HU := h
      have KU := k
      obtain ⟨h0, h1⟩ := h
      obtain ⟨k0, k1⟩ := k
      have ax := absV_bd x
      have ay := absV_bd y
      have px := below_abs x HU
      have py := below_abs y KU
      cases s1 : belowB x
      · cases s2 : belowB y
        · have hW : Hid (lessB x y = decide (absV x < absV y)) := by rw [Hid, hV.out, hp, hq, s1, s2]; rfl
          clear hp hq hV px py
          go_enter Tryd.func29, Tryd.ntmps29
          go_wp2_with (first | (go_at_call 39; refine (rNumber_calls _ _ (by assumption)).mono ?_; rintro e w' ⟨rfl, rfl⟩) | (go_at_call 40; refine (rPlace_calls _ _ (by assumption)).mono ?_; rintro e w' ⟨rfl, rfl⟩))
          go_ret
          exact ⟨ret_bool hW.out.symm, rfl⟩
        · have hW : Hid (lessB x y = false) := by rw [Hid, hV.out, hp, hq, s1, s2]; simp; omega
          clear hp hq hV px py
          go_enter Tryd.func29, Tryd.ntmps29
          go_wp2_with (first | (go_at_call 39; refine (rNumber_calls _ _ (by assumption)).mono ?_; rintro e w' ⟨rfl, rfl⟩) | (go_at_call 40; refine (rPlace_calls _ _ (by assumption)).mono ?_; rintro e w' ⟨rfl, rfl⟩))
          go_ret
          exact ⟨ret_bool hW.out.symm, rfl⟩
      · have p1 := px s1
        cases s2 : belowB y
        · have hW : Hid (lessB x y = true) := by rw [Hid, hV.out, hp, hq, s1, s2]; simp; omega
          clear hp hq hV px py
          go_enter Tryd.func29, Tryd.ntmps29
          go_wp2_with (first | (go_at_call 39; refine (rNumber_calls _ _ (by assumption)).mono ?_; rintro e w' ⟨rfl, rfl⟩) | (go_at_call 40; refine (rPlace_calls _ _ (by assumption)).mono ?_; rintro e w' ⟨rfl, rfl⟩))
          go_ret
          exact ⟨ret_bool hW.out.symm, rfl⟩
        · have hW : Hid (lessB x y = decide (absV y < absV x)) := by rw [Hid, hV.out, hp, hq, s1, s2]; simp
          clear hp hq hV px py
          go_enter Tryd.func29, Tryd.ntmps29
          go_wp2_with (first | (go_at_call 39; refine (rNumber_calls _ _ (by assumption)).mono ?_; rintro e w' ⟨rfl, rfl⟩) | (go_at_call 40; refine (rPlace_calls _ _ (by assumption)).mono ?_; rintro e w' ⟨rfl, rfl⟩))
          go_ret
          exact ⟨ret_bool hW.out.symm, rfl⟩

set_option maxHeartbeats 1000000 in
theorem rSteps_calls (x y : Int) (w : World) (h : U x) (k : U y) :
    Calls Tryd.prog 17 #[.int .u64 x, .int .u64 y] w fun e w' => e = .returned (.tuple #[.int .u64 (stepsV x y), .int .i64 (stepsE x y)]) ∧ w' = w := by
  have ax := absV_bd x
  have ay := absV_bd y
  have hp : Hid _ := rung_place x h
  have hq : Hid _ := rung_place y k
  cases c1 : numB x
  · have hE : Hid (stepsE x y = 5) := by unfold stepsE; rw [Hid, if_pos (by simp [c1])]
    have hV : Hid (stepsV x y = 0) := by unfold stepsV; rw [Hid, hE.out]; rfl
    go_enter Tryd.func17, Tryd.ntmps17
    go_wp2_with (first | (go_at_call 39; refine (rNumber_calls _ _ (by assumption)).mono ?_; rintro e w' ⟨rfl, rfl⟩) | (go_at_call 40; refine (rPlace_calls _ _ (by assumption)).mono ?_; rintro e w' ⟨rfl, rfl⟩) | (go_at_call 29; refine (rLess_calls _ _ _ (by assumption) (by assumption)).mono ?_; rintro e w' ⟨rfl, rfl⟩))
    go_ret2
    rw [hE.out, hV.out]
    exact ⟨rfl, rfl⟩
  · cases c2 : numB y
    · have hE : Hid (stepsE x y = 5) := by unfold stepsE; rw [Hid, if_pos (by simp [c2])]
      have hV : Hid (stepsV x y = 0) := by unfold stepsV; rw [Hid, hE.out]; rfl
      go_enter Tryd.func17, Tryd.ntmps17
      go_wp2_with (first | (go_at_call 39; refine (rNumber_calls _ _ (by assumption)).mono ?_; rintro e w' ⟨rfl, rfl⟩) | (go_at_call 40; refine (rPlace_calls _ _ (by assumption)).mono ?_; rintro e w' ⟨rfl, rfl⟩) | (go_at_call 29; refine (rLess_calls _ _ _ (by assumption) (by assumption)).mono ?_; rintro e w' ⟨rfl, rfl⟩))
      go_ret2
      rw [hE.out, hV.out]
      exact ⟨rfl, rfl⟩
    · have hl : Hid (lessB y x = decide (rungV y < rungV x)) := by unfold lessB; rw [Hid, c1, c2]; rfl
      cases l1 : lessB y x
      · have lr : rungV x ≤ rungV y := by have := hl.out; rw [l1] at this; simpa using this.symm
        have hE : Hid (stepsE x y = 0) := by unfold stepsE; rw [Hid, if_neg (by simp [c1, c2]), if_neg (by omega)]
        have hR : Hid (stepsV x y = rungV y - rungV x) := by unfold stepsV; rw [Hid, hE.out]; rfl
        cases s1 : belowB x
        · cases s2 : belowB y
          · have e1 : absV x ≤ absV y := by have := lr; rw [hp.out, hq.out, s1, s2] at this; simpa using this
            have hV : Hid (stepsV x y = absV y - absV x) := by rw [Hid, hR.out, hp.out, hq.out, s1, s2]; simp
            clear lr
            go_enter Tryd.func17, Tryd.ntmps17
            go_wp2_with (first | (go_at_call 39; refine (rNumber_calls _ _ (by assumption)).mono ?_; rintro e w' ⟨rfl, rfl⟩) | (go_at_call 40; refine (rPlace_calls _ _ (by assumption)).mono ?_; rintro e w' ⟨rfl, rfl⟩) | (go_at_call 29; refine (rLess_calls _ _ _ (by assumption) (by assumption)).mono ?_; rintro e w' ⟨rfl, rfl⟩))
            go_ret2
            rw [hE.out, hV.out]
            exact ⟨rfl, rfl⟩
          · exfalso
            have := lr; rw [hp.out, hq.out, s1, s2] at this; have := below_abs y k s2; simp at *; omega
        · cases s2 : belowB y
          · have hV : Hid (stepsV x y = absV x + absV y) := by rw [Hid, hR.out, hp.out, hq.out, s1, s2]; simp; omega
            clear lr
            go_enter Tryd.func17, Tryd.ntmps17
            go_wp2_with (first | (go_at_call 39; refine (rNumber_calls _ _ (by assumption)).mono ?_; rintro e w' ⟨rfl, rfl⟩) | (go_at_call 40; refine (rPlace_calls _ _ (by assumption)).mono ?_; rintro e w' ⟨rfl, rfl⟩) | (go_at_call 29; refine (rLess_calls _ _ _ (by assumption) (by assumption)).mono ?_; rintro e w' ⟨rfl, rfl⟩))
            go_ret2
            rw [hE.out, hV.out]
            exact ⟨rfl, rfl⟩
          · have e1 : absV y ≤ absV x := by have := lr; rw [hp.out, hq.out, s1, s2] at this; simp at this; omega
            have hV : Hid (stepsV x y = absV x - absV y) := by rw [Hid, hR.out, hp.out, hq.out, s1, s2]; simp; omega
            clear lr
            go_enter Tryd.func17, Tryd.ntmps17
            go_wp2_with (first | (go_at_call 39; refine (rNumber_calls _ _ (by assumption)).mono ?_; rintro e w' ⟨rfl, rfl⟩) | (go_at_call 40; refine (rPlace_calls _ _ (by assumption)).mono ?_; rintro e w' ⟨rfl, rfl⟩) | (go_at_call 29; refine (rLess_calls _ _ _ (by assumption) (by assumption)).mono ?_; rintro e w' ⟨rfl, rfl⟩))
            go_ret2
            rw [hE.out, hV.out]
            exact ⟨rfl, rfl⟩
      · have lr : rungV y < rungV x := by have := hl.out; rw [l1] at this; simpa using this.symm
        have hE : Hid (stepsE x y = 2) := by unfold stepsE; rw [Hid, if_neg (by simp [c1, c2]), if_pos lr]
        have hV : Hid (stepsV x y = 0) := by unfold stepsV; rw [Hid, hE.out]; rfl
        clear lr
        go_enter Tryd.func17, Tryd.ntmps17
        go_wp2_with (first | (go_at_call 39; refine (rNumber_calls _ _ (by assumption)).mono ?_; rintro e w' ⟨rfl, rfl⟩) | (go_at_call 40; refine (rPlace_calls _ _ (by assumption)).mono ?_; rintro e w' ⟨rfl, rfl⟩) | (go_at_call 29; refine (rLess_calls _ _ _ (by assumption) (by assumption)).mono ?_; rintro e w' ⟨rfl, rfl⟩))
        go_ret2
        rw [hE.out, hV.out]
        exact ⟨rfl, rfl⟩

theorem ord_ref (x y : Int) (h : U x) (k : U y) (v : Int)
    (hv : (x = y ∧ v = 0) ∨ (x ≠ y ∧ 9223372036854775808 ≤ x ∧ 9223372036854775808 ≤ y ∧ y < x ∧ v = -1) ∨ (x ≠ y ∧ 9223372036854775808 ≤ x ∧ 9223372036854775808 ≤ y ∧ ¬ y < x ∧ v = 1)
      ∨ (x ≠ y ∧ 9223372036854775808 ≤ x ∧ ¬ 9223372036854775808 ≤ y ∧ v = -1) ∨ (x ≠ y ∧ ¬ 9223372036854775808 ≤ x ∧ 9223372036854775808 ≤ y ∧ v = 1)
      ∨ (x ≠ y ∧ ¬ 9223372036854775808 ≤ x ∧ ¬ 9223372036854775808 ≤ y ∧ x < y ∧ v = -1) ∨ (x ≠ y ∧ ¬ 9223372036854775808 ≤ x ∧ ¬ 9223372036854775808 ≤ y ∧ ¬ x < y ∧ v = 1)) : ordV x y = v := by
  unfold U at h k; unfold ordV cmpV placeV; (repeat' split) <;> omega

set_option maxHeartbeats 1000000 in
theorem rOrder_calls (x y : Int) (w : World) (h : U x) (k : U y) :
    Calls Tryd.prog 31 #[.int .u64 x, .int .u64 y] w fun e w' => e = .returned (.int .i64 (ordV x y)) ∧ w' = w := by
  have R : Hid _ := ord_ref x y h k
  obtain ⟨h0, h1⟩ := h
  obtain ⟨k0, k1⟩ := k
  by_cases c0 : x = y
  · have hV := R.out 0 (by omega)
    have HV : Hid (ordV x y = 0) := hV
    have e0 : (x == y) = true := by simp [c0]
    clear hV c0 R
    go_enter Tryd.func31, Tryd.ntmps31
    go_wp2
    go_ret
    exact ⟨ret_int HV.out.symm, rfl⟩
  · have e0 : (x == y) = false := by simp [c0]
    by_cases c1 : 9223372036854775808 ≤ x
    · by_cases c2 : 9223372036854775808 ≤ y
      · by_cases c3 : y < x
        · have HV : Hid (ordV x y = -1) := R.out _ (by omega)
          clear c0 R
          go_enter Tryd.func31, Tryd.ntmps31
          go_wp2
          go_ret
          exact ⟨ret_int HV.out.symm, rfl⟩
        · have HV : Hid (ordV x y = 1) := R.out _ (by omega)
          clear c0 R
          go_enter Tryd.func31, Tryd.ntmps31
          go_wp2
          go_ret
          exact ⟨ret_int HV.out.symm, rfl⟩
      · have HV : Hid (ordV x y = -1) := R.out _ (by omega)
        clear c0 R
        go_enter Tryd.func31, Tryd.ntmps31
        go_wp2
        go_ret
        exact ⟨ret_int HV.out.symm, rfl⟩
    · by_cases c2 : 9223372036854775808 ≤ y
      · have HV : Hid (ordV x y = 1) := R.out _ (by omega)
        clear c0 R
        go_enter Tryd.func31, Tryd.ntmps31
        go_wp2
        go_ret
        exact ⟨ret_int HV.out.symm, rfl⟩
      · by_cases c3 : x < y
        · have HV : Hid (ordV x y = -1) := R.out _ (by omega)
          clear c0 R
          go_enter Tryd.func31, Tryd.ntmps31
          go_wp2
          go_ret
          exact ⟨ret_int HV.out.symm, rfl⟩
        · have HV : Hid (ordV x y = 1) := R.out _ (by omega)
          clear c0 R
          go_enter Tryd.func31, Tryd.ntmps31
          go_wp2
          go_ret
          exact ⟨ret_int HV.out.symm, rfl⟩
end Go.Proofs.YtoamnimepkodeaaDoor
