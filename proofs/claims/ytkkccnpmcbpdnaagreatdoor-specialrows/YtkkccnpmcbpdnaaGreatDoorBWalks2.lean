/- The walks of package bits, second part (lowest bits, whole and odd numbers), and of the statements' own helpers 'lives' and 'isNumber'. -/
import Derived.Test.YtkkccnpmcbpdnaaGreatDoorBWalks
namespace Go.Proofs.YtkkccnpmcbpdnaaGreatDoor
open Go.RowKit

set_option maxHeartbeats 400000 in
theorem lowest_calls (x : Int) (w : World) (h : U x) (hT : Tab w) :
    Calls Tryz.prog 126 #[.int .u64 x] w fun e w' => e = .returned (.tuple #[.int .i64 (lowV x), .bool (lowB x)]) ∧ Below w.heap.size w w' := by
  have hc := countV_bd x
  have hu := unitV_bd x
  have ht := tzV_bd _ (countV_U x)
  by_cases c : countV x = 0
  · have hE : Hid (lowV x = 0) := by unfold lowV; rw [Hid, if_pos c]
    have hV : Hid (lowB x = true) := by unfold lowB; rw [Hid]; simp [c]
    have c' : (countV x == 0) = true := by simp [c]
    clear c
    go_enter Tryz.func126, Tryz.ntmps126
    go_wp2_with fail
    refine (units_calls _ _ h).mono ?_
    rintro e w1 ⟨rfl, hb⟩
    go_wp2_with fail
    go_ret2
    rw [hE.out, hV.out]
    exact ⟨rfl, hb⟩
  · have hE : Hid (lowV x = unitV x + tzV (countV x)) := by unfold lowV; rw [Hid, if_neg c]
    have hV : Hid (lowB x = false) := by unfold lowB; rw [Hid]; simp [c]
    have c' : (countV x == 0) = false := by simp [c]
    have c2 : 0 < countV x := by omega
    clear c
    go_enter Tryz.func126, Tryz.ntmps126
    go_wp2_with fail
    refine (units_calls _ _ h).mono ?_
    rintro e w1 ⟨rfl, hb⟩
    go_wp2_with fail
    refine (tz_calls _ _ c2 (by omega) (hT.kept hb)).mono ?_
    rintro e w2 ⟨rfl, rfl⟩
    go_wp2_with fail
    go_ret2
    rw [hE.out, hV.out]
    exact ⟨rfl, hb⟩

set_option maxHeartbeats 400000 in
theorem last_calls (x : Int) (w : World) (h : U x) :
    Calls Tryz.prog 37 #[.int .u64 x] w fun e w' => e = .returned (.tuple #[.int .i64 (lastV x), .int .i64 (lastE x)]) ∧ Below w.heap.size w w' := by
  by_cases c : absV x < 9218868437227405312
  · have hF : Hid (finB x = true) := by unfold finB; rw [Hid]; simpa [absV] using c
    have hE : Hid (lastE x = 0) := by unfold lastE; rw [Hid, hF.out]; rfl
    have hV : Hid (lastV x = unitV x) := by unfold lastV; rw [Hid, hF.out]; rfl
    go_enter Tryz.func37, Tryz.ntmps37
    go_wp2_with fail
    refine (abs_calls _ _ h).mono ?_
    rintro e w1 ⟨rfl, rfl⟩
    go_wp2_with fail
    refine (units_calls _ _ h).mono ?_
    rintro e w1 ⟨rfl, hb⟩
    go_wp2_with fail
    go_ret2
    rw [hE.out, hV.out]
    exact ⟨rfl, hb⟩
  · have hF : Hid (finB x = false) := by unfold finB; rw [Hid]; simpa [absV] using c
    have hE : Hid (lastE x = 5) := by unfold lastE; rw [Hid, hF.out]; rfl
    have hV : Hid (lastV x = 0) := by unfold lastV; rw [Hid, hF.out]; rfl
    go_enter Tryz.func37, Tryz.ntmps37
    go_wp2_with fail
    refine (abs_calls _ _ h).mono ?_
    rintro e w1 ⟨rfl, rfl⟩
    go_wp2_with fail
    go_ret2
    rw [hE.out, hV.out]
    exact ⟨rfl, Below.refl _ _⟩

set_option maxHeartbeats 400000 in
theorem whole_calls (x : Int) (w : World) (h : U x) (hT : Tab w) :
    Calls Tryz.prog 111 #[.int .u64 x] w fun e w' => e = .returned (.bool (wholeB x)) ∧ Below w.heap.size w w' := by
  by_cases c : absV x < 9218868437227405312
  · have hF : Hid (finB x = true) := by unfold finB; rw [Hid]; simpa [absV] using c
    have hV : Hid (wholeB x = (lowB x || decide (0 ≤ lowV x))) := by unfold wholeB; rw [Hid, hF.out]; rfl
    cases hl : lowB x
    · have hV' : Hid (wholeB x = decide (0 ≤ lowV x)) := by rw [Hid, hV.out, hl]; rfl
      go_enter Tryz.func111, Tryz.ntmps111
      go_wp2_with fail
      refine (lowest_calls _ _ h hT).mono ?_
      rintro e w1 ⟨rfl, hb⟩
      go_wp2_with fail
      refine (abs_calls _ _ h).mono ?_
      rintro e w1 ⟨rfl, rfl⟩
      go_wp2_with fail
      go_ret
      exact ⟨ret_bool hV'.out.symm, hb⟩
    · have hV' : Hid (wholeB x = true) := by rw [Hid, hV.out, hl]; rfl
      go_enter Tryz.func111, Tryz.ntmps111
      go_wp2_with fail
      refine (lowest_calls _ _ h hT).mono ?_
      rintro e w1 ⟨rfl, hb⟩
      go_wp2_with fail
      refine (abs_calls _ _ h).mono ?_
      rintro e w1 ⟨rfl, rfl⟩
      go_wp2_with fail
      go_ret
      exact ⟨ret_bool hV'.out.symm, hb⟩
  · have hF : Hid (finB x = false) := by unfold finB; rw [Hid]; simpa [absV] using c
    have hV : Hid (wholeB x = false) := by unfold wholeB; rw [Hid, hF.out]; rfl
    go_enter Tryz.func111, Tryz.ntmps111
    go_wp2_with fail
    refine (lowest_calls _ _ h hT).mono ?_
    rintro e w1 ⟨rfl, hb⟩
    go_wp2_with fail
    refine (abs_calls _ _ h).mono ?_
    rintro e w1 ⟨rfl, rfl⟩
    go_wp2_with fail
    go_ret
    exact ⟨ret_bool hV.out.symm, hb⟩

set_option maxHeartbeats 400000 in
theorem odd_calls (x : Int) (w : World) (h : U x) (hT : Tab w) :
    Calls Tryz.prog 114 #[.int .u64 x] w fun e w' => e = .returned (.bool (oddB x)) ∧ Below w.heap.size w w' := by
  by_cases c : absV x < 9218868437227405312
  · have hF : Hid (finB x = true) := by unfold finB; rw [Hid]; simpa [absV] using c
    have hV : Hid (oddB x = (!lowB x && (lowV x == 0))) := by unfold oddB; rw [Hid, hF.out]; rfl
    cases hl : lowB x
    · have hV' : Hid (oddB x = (lowV x == 0)) := by rw [Hid, hV.out, hl]; rfl
      go_enter Tryz.func114, Tryz.ntmps114
      go_wp2_with fail
      refine (lowest_calls _ _ h hT).mono ?_
      rintro e w1 ⟨rfl, hb⟩
      go_wp2_with fail
      refine (abs_calls _ _ h).mono ?_
      rintro e w1 ⟨rfl, rfl⟩
      go_wp2_with fail
      go_ret
      exact ⟨ret_bool hV'.out.symm, hb⟩
    · have hV' : Hid (oddB x = false) := by rw [Hid, hV.out, hl]; rfl
      go_enter Tryz.func114, Tryz.ntmps114
      go_wp2_with fail
      refine (lowest_calls _ _ h hT).mono ?_
      rintro e w1 ⟨rfl, hb⟩
      go_wp2_with fail
      refine (abs_calls _ _ h).mono ?_
      rintro e w1 ⟨rfl, rfl⟩
      go_wp2_with fail
      go_ret
      exact ⟨ret_bool hV'.out.symm, hb⟩
  · have hF : Hid (finB x = false) := by unfold finB; rw [Hid]; simpa [absV] using c
    have hV : Hid (oddB x = false) := by unfold oddB; rw [Hid, hF.out]; rfl
    go_enter Tryz.func114, Tryz.ntmps114
    go_wp2_with fail
    refine (lowest_calls _ _ h hT).mono ?_
    rintro e w1 ⟨rfl, hb⟩
    go_wp2_with fail
    refine (abs_calls _ _ h).mono ?_
    rintro e w1 ⟨rfl, rfl⟩
    go_wp2_with fail
    go_ret
    exact ⟨ret_bool hV.out.symm, hb⟩

/-- What is a number: its class is none of the two of what is none. -/
theorem class_num (x : Int) : (classV x == 5 || classV x == 6) = !numB x := by
  unfold classV numB expV fracV
  repeat' split
  all_goals simp
  all_goals omega
theorem class_bd (x : Int) : 1 ≤ classV x ∧ classV x ≤ 6 := by
  unfold classV; (repeat' split) <;> omega