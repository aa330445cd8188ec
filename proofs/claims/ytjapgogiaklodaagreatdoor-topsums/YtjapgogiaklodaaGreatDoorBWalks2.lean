/- The walks of package bits, second part (lowest bits, whole and odd numbers), and of the statements' own helpers 'lives' and 'isNumber'. -/
import Derived.Test.YtjapgogiaklodaaGreatDoorTMB
namespace Go.Proofs.YtjapgogiaklodaaGreatDoor
open Go.RowKit


set_option maxHeartbeats 400000 in
theorem last_calls (x : Int) (w : World) (h : U x) :
    Calls Tryz.prog 56 #[.int .u64 x] w fun e w' => e = .returned (.tuple #[.int .i64 (lastV x), .int .i64 (lastE x)]) ∧ Below w.heap.size w w' := by
  by_cases c : absV x < 9218868437227405312
  · have hF : Hid (finB x = true) := by unfold finB; rw [Hid]; simpa [absV] using c
    have hE : Hid (lastE x = 0) := by unfold lastE; rw [Hid, hF.out]; rfl
    have hV : Hid (lastV x = unitV x) := by unfold lastV; rw [Hid, hF.out]; rfl
    go_enter Tryz.func56, Tryz.ntmps56
    go_wp2_with fail
    refine (abs_calls _ _ h).mono ?_
    rintro e w1 ⟨rfl, rfl⟩
    go_wp2_with fail
    refine (units_calls _ _ h).mono ?_
    rintro e w1 ⟨rfl, hb⟩
    go_wp2_with fail
    go_ret2
    rw [hE.out, hV.out]
    exact ⟨rfl, hb⟩
  · have hF : Hid (finB x = false) := by unfold finB; rw [Hid]; simpa [absV] using c
    have hE : Hid (lastE x = 5) := by unfold lastE; rw [Hid, hF.out]; rfl
    have hV : Hid (lastV x = 0) := by unfold lastV; rw [Hid, hF.out]; rfl
    go_enter Tryz.func56, Tryz.ntmps56
    go_wp2_with fail
    refine (abs_calls _ _ h).mono ?_
    rintro e w1 ⟨rfl, rfl⟩
    go_wp2_with fail
    go_ret2
    rw [hE.out, hV.out]
    exact ⟨rfl, Below.refl _ _⟩



/-- What is a number: its class is none of the two of what is none. -/
theorem class_num (x : Int) : (classV x == 5 || classV x == 6) = !numB x := by
  unfold classV numB expV fracV
  repeat' split
  all_goals simp
  all_goals omega
theorem class_bd (x : Int) : 1 ≤ classV x ∧ classV x ≤ 6 := by
  unfold classV; (repeat' split) <;> omega


end Go.Proofs.YtjapgogiaklodaaGreatDoor
