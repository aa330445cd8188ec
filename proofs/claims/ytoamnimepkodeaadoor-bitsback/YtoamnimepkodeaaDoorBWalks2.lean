/- The walks of package bits, second part (lowest bits, whole and odd numbers), and of the statements' own helpers 'lives' and 'isNumber'. -/
import Derived.Test.YtoamnimepkodeaaDoorBWalks
namespace Go.Proofs.YtoamnimepkodeaaDoor
open Go.RowKit

set_option maxHeartbeats 400000 in
theorem lowest_calls (x : Int) (w : World) (h : U x) (hT : Tab w) :
    Calls Tryd.prog 45 #[.int .u64 x] w fun e w' => e = .returned (.tuple #[.int .i64 (lowV x), .bool (lowB x)]) ∧ Below w.heap.size w w' := by
  have hc := countV_bd x
  have hu := unitV_bd x
  have ht := tzV_bd _ (countV_U x)
  by_cases c : countV x = 0
  · have hE : Hid (lowV x = 0) := by unfold lowV; rw [Hid, if_pos c]
    have hV : Hid (lowB x = true) := by unfold lowB; rw [Hid]; simp [c]
    have c' : (countV x == 0) = true := by simp [c]
    clear c
    go_enter Tryd.func45, Tryd.ntmps45
    go_wp2_with fail
    refine (units_calls _ _ h).mono ?_
    rintro e w1 ⟨rfl, hb⟩
    go_wp2_with fail
    go_ret2
    rw [hE.out, hV.out]
    exact ⟨rfl, hb⟩
  · have hE : Hid (lowV x = unitV x + tzV (countV x)) := by unfold lowV; rw [Hid, if_neg c]
    have hV : Hid (lowB x = false) := by unfold lowB; rw [Hid]; simp [c]
    have c' : (countV x == 0) = false := by simp [c]
    have c2 : 0 < countV x := by omega
    clear c
    go_enter Tryd.func45, Tryd.ntmps45
    go_wp2_with fail
    refine (units_calls _ _ h).mono ?_
    rintro e w1 ⟨rfl, hb⟩
    go_wp2_with fail
    refine (tz_calls _ _ c2 (by omega) (hT.kept hb)).mono ?_
    rintro e w2 ⟨rfl, rfl⟩
    go_wp2_with fail
    go_ret2
    rw [hE.out, hV.out]
    exact ⟨rfl, hb⟩

set_option maxHeartbeats 400000 in
theorem last_calls (x : Int) (w : World) (h : U x) :
    Calls Tryd.prog 26 #[.int .u64 x] w fun e w' => e = .returned (.tuple #[.int .i64 (lastV x), .int .i64 (lastE x)]) ∧ Below w.heap.size w w' := by
  by_cases c : absV x < 9218868437227405312
  · have hF : Hid (finB x = true) := by unfold finB; rw [Hid]; simpa [absV] using c
    have hE : Hid (lastE x = 0) := by unfold lastE; rw [Hid, hF.out]; rfl
    have hV : Hid (lastV x = unitV x) := by unfold lastV; rw [Hid, hF.out]; rfl
    go_enter Tryd.func26, Tryd.ntmps26
    go_wp2_with fail
    refine (abs_calls _ _ h).mono ?_
    rintro e w1 ⟨rfl, rfl⟩
    go_wp2_with fail
    refine (units_calls _ _ h).mono ?_
    rintro e w1 ⟨rfl, hb⟩
    go_wp2_with fail
    go_ret2
    rw [hE.out, hV.out]
    exact ⟨rfl, hb⟩
  · have hF : Hid (finB x = false) := by unfold finB; rw [Hid]; simpa [absV] using c
    have hE : Hid (lastE x = 5) := by unfold lastE; rw [Hid, hF.out]; rfl
    have hV : Hid (lastV x = 0) := by unfold lastV; rw [Hid, hF.out]; rfl
    go_enter Tryd.func26, Tryd.ntmps26
    go_wp2_with fail
    refine (abs_calls _ _ h).mono ?_
    rintro e w1 ⟨rfl, rfl⟩
    go_wp2_with fail
    go_ret2
    rw [hE.out, hV.out]
    exact ⟨rfl, Below.refl _ _⟩

set_option maxHeartbeats 400000 in
theorem whole_calls (x : Int) (w : World) (h : U x) (hT : Tab w) :
    Calls Tryd.prog 32 #[.int .u64 x] w fun e w' => e = .returned (.bool (wholeB x)) ∧ Below w.heap.size w w' := by
  by_cases c : absV x < 9218868437227405312
  · have hF : Hid (finB x = true) := by unfold finB; rw [Hid]; simpa [absV] using c
    have hV : Hid (wholeB x = (lowB x || decide (0 ≤ lowV x))) := by unfold wholeB; rw [Hid, hF.out]; rfl
    cases hl : lowB x
    · have hV' : Hid (wholeB x = decide (0 ≤ lowV x)) := by rw [Hid, hV.out, hl]; rfl
      go_enter Tryd.func32, Tryd.ntmps32
      go_wp2_with fail
      refine (lowest_calls _ _ h hT).mono ?_
      rintro e w1 ⟨rfl, hb⟩
      go_wp2_with fail
      refine (abs_calls _ _ h).mono ?_
      rintro e w1 ⟨rfl, rfl⟩
      go_wp2_with fail
      go_ret
      exact ⟨ret_bool hV'.out.symm, hb⟩
    · have hV' : Hid (wholeB x = true) := by rw [Hid, hV.out, hl]; rfl
      go_enter Tryd.func32, Tryd.ntmps32
      go_wp2_with fail
      refine (lowest_calls _ _ h hT).mono ?_
      rintro e w1 ⟨rfl, hb⟩
      go_wp2_with fail
      refine (abs_calls _ _ h).mono ?_
      rintro e w1 ⟨rfl, rfl⟩
      go_wp2_with fail
      go_ret
      exact ⟨ret_bool hV'.out.symm, hb⟩
  · have hF : Hid (finB x = false) := by unfold finB; rw [Hid]; simpa [absV] using c
    have hV : Hid (wholeB x = false) := by unfold wholeB; rw [Hid, hF.out]; rfl
    go_enter Tryd.func32, Tryd.ntmps32
    go_wp2_with fail
    refine (lowest_calls _ _ h hT).mono ?_
    rintro e w1 ⟨rfl, hb⟩
    go_wp2_with fail
    refine (abs_calls _ _ h).mono ?_
    rintro e w1 ⟨rfl, rfl⟩
    go_wp2_with fail
    go_ret
    exact ⟨ret_bool hV.out.symm, hb⟩

set_option maxHeartbeats 400000 in
theorem odd_calls (x : Int) (w : World) (h : U x) (hT : Tab w) :
    Calls Tryd.prog 34 #[.int .u64 x] w fun e w' => e = .returned (.bool (oddB x)) ∧ Below w.heap.size w w' := by
  by_cases c : absV x < 9218868437227405312
  · have hF : Hid (finB x = true) := by unfold finB; rw [Hid]; simpa [absV] using c
    have hV : Hid (oddB x = (!lowB x && (lowV x == 0))) := by unfold oddB; rw [Hid, hF.out]; rfl
    cases hl : lowB x
    · have hV' : Hid (oddB x = (lowV x == 0)) := by rw [Hid, hV.out, hl]; rfl
      go_enter Tryd.func34, Tryd.ntmps34
      go_wp2_with fail
      refine (lowest_calls _ _ h hT).mono ?_
      rintro e w1 ⟨rfl, hb⟩
      go_wp2_with fail
      refine (abs_calls _ _ h).mono ?_
      rintro e w1 ⟨rfl, rfl⟩
      go_wp2_with fail
      go_ret
      exact ⟨ret_bool hV'.out.symm, hb⟩
    · have hV' : Hid (oddB x = false) := by rw [Hid, hV.out, hl]; rfl
      go_enter Tryd.func34, Tryd.ntmps34
      go_wp2_with fail
      refine (lowest_calls _ _ h hT).mono ?_
      rintro e w1 ⟨rfl, hb⟩
      go_wp2_with fail
      refine (abs_calls _ _ h).mono ?_
      rintro e w1 ⟨rfl, rfl⟩
      go_wp2_with fail
      go_ret
      exact ⟨ret_bool hV'.out.symm, hb⟩
  · have hF : Hid (finB x = false) := by unfold finB; rw [Hid]; simpa [absV] using c
    have hV : Hid (oddB x = false) := by unfold oddB; rw [Hid, hF.out]; rfl
    go_enter Tryd.func34, Tryd.ntmps34
    go_wp2_with fail
    refine (lowest_calls _ _ h hT).mono ?_
    rintro e w1 ⟨rfl, hb⟩
    go_wp2_with fail
    refine (abs_calls _ _ h).mono ?_
    rintro e w1 ⟨rfl, rfl⟩
    go_wp2_with fail
    go_ret
    exact ⟨ret_bool hV.out.symm, hb⟩

/-- What is a number: its class is none of the two of what is none. -/
theorem class_num (x : Int) : (classV x == 5 || classV x == 6) = !numB x := by
  unfold classV numB expV fracV
  repeat' split
  all_goals simp
  all_goals omega
theorem class_bd (x : Int) : 1 ≤ classV x ∧ classV x ≤ 6 := by
  unfold classV; (repeat' split) <;> omega

set_option maxHeartbeats 400000 in
theorem lawNum_calls (x : Int) (w : World) (h : U x) :
    Calls Tryd.prog 36 #[.int .u64 x] w fun e w' => e = .returned (.bool (numB x)) ∧ Below w.heap.size w w' := by
  have hn := class_num x
  have hd := class_bd x
  cases hb : numB x
  · rw [hb] at hn
    by_cases c5 : classV x = 5
    · have c5' : (classV x != 5) = false := by simp [c5]
      clear c5 hn hd
      go_enter Tryd.func36, Tryd.ntmps36
      go_wp2_with (go_at_call 12; refine (class_calls _ _ h).mono ?_; rintro e w1 ⟨rfl, hb⟩)
      go_ret
      exact ⟨rfl, by assumption⟩
    · have c5' : (classV x != 5) = true := by simp [c5]
      have c6' : (classV x != 6) = false := by simp [c5] at hn; simp [hn]
      clear c5 hn hd
      go_enter Tryd.func36, Tryd.ntmps36
      go_wp2_with (go_at_call 12; refine (class_calls _ _ h).mono ?_; rintro e w1 ⟨rfl, hb⟩)
      go_ret
      exact ⟨rfl, by assumption⟩
  · rw [hb] at hn
    simp at hn
    have c5' : (classV x != 5) = true := by simp [hn.1]
    have c6' : (classV x != 6) = true := by simp [hn.2]
    have c0' : (classV x != 0) = true := by simp; omega
    clear hn hd
    go_enter Tryd.func36, Tryd.ntmps36
    go_wp2_with (go_at_call 12; refine (class_calls _ _ h).mono ?_; rintro e w1 ⟨rfl, hb⟩)
    go_ret
    exact ⟨rfl, by assumption⟩

set_option maxHeartbeats 1000000 in
theorem lives_calls (w : World) (hT : Tab w) :
    Calls Tryd.prog 11 #[] w fun e w' => e = .returned (.bool true) ∧ Below w.heap.size w w' := by
  have k1 : (classV 9218868437227405313 == 6) = true := by decide +kernel
  have k2 : (upV 9218868437227405311 == 9218868437227405312) = true := by decide +kernel
  have k3 : (upV 9223372036854775808 == 1) = true := by decide +kernel
  have k4 : (ordV 9223372036854775808 0 == -1) = true := by decide +kernel
  have k5 : (stepsV 9223372036854775809 1 == 2) = true := by decide +kernel
  have k6 : (stepsE 9223372036854775809 1 == 0) = true := by decide +kernel
  have k7 : oddB 4845873199050653695 = true := by decide +kernel
  have u1 : U 9218868437227405313 := by unfold U; omega
  have u2 : U 9218868437227405311 := by unfold U; omega
  have u3 : U 9223372036854775808 := by unfold U; omega
  have u4 : U 0 := by unfold U; omega
  have u5 : U 9223372036854775809 := by unfold U; omega
  have u6 : U 1 := by unfold U; omega
  have u7 : U 4845873199050653695 := by unfold U; omega
  go_enter Tryd.func11, Tryd.ntmps11
  go_wp2_with fail
  refine (steps_calls _ _ _ u5 u6).mono ?_
  rintro e w1 ⟨rfl, rfl⟩
  go_wp2_with fail
  refine (class_calls _ _ u1).mono ?_
  rintro e w2 ⟨rfl, hb⟩
  go_wp2_with fail
  refine (up_calls _ _ u2).mono ?_
  rintro e w2 ⟨rfl, rfl⟩
  go_wp2_with fail
  refine (up_calls _ _ u3).mono ?_
  rintro e w2 ⟨rfl, rfl⟩
  go_wp2_with fail
  refine (order_calls _ _ _ u3 u4).mono ?_
  rintro e w2 ⟨rfl, rfl⟩
  go_wp2_with fail
  refine (odd_calls _ _ u7 (hT.kept hb)).mono ?_
  rintro e w3 ⟨rfl, hb2⟩
  go_wp2_with fail
  go_ret
  exact ⟨rfl, below_trans hb hb2⟩
end Go.Proofs.YtoamnimepkodeaaDoor
