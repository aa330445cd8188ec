/- The walk of the statement BitsSteps: it answers true for any three uint64 words, where math/bits's table stands. -/
import Derived.Test.YtoamnimepkodeabDoorBWalks2
namespace Go.Proofs.YtoamnimepkodeabDoor
open Go.RowKit

theorem rung_up (x : Int) (hU : U x) (h : numB x = true) (hi : ¬ x = 9218868437227405312) : rungV (upV x) = rungV x + 1 ∧ numB (upV x) = true := by
  unfold numB at *; unfold U at hU; unfold rungV upV
  simp only [decide_eq_true_eq] at *
  constructor
  · (repeat' split) <;> omega
  · (repeat' split) <;> omega
theorem steps_up (x : Int) (hU : U x) (h : numB x = true) (hi : ¬ x = 9218868437227405312) : stepsE x (upV x) = 0 ∧ stepsV x (upV x) = 1 := by
  obtain ⟨h1, h2⟩ := rung_up x hU h hi
  have e : stepsE x (upV x) = 0 := by unfold stepsE; rw [if_neg (by simp [h, h2]), if_neg (by omega)]
  refine ⟨e, ?_⟩
  unfold stepsV; rw [if_pos e]; omega
theorem steps_ok (x y : Int) (h : stepsE x y = 0) : numB x = true ∧ numB y = true ∧ rungV x ≤ rungV y ∧ stepsV x y = rungV y - rungV x := by
  have h' := h
  unfold stepsE at h
  split at h
  · omega
  · rename_i hn
    split at h
    · omega
    · have : numB x = true ∧ numB y = true := by simpa using hn
      refine ⟨this.1, this.2, by omega, ?_⟩
      unfold stepsV; rw [if_pos h']
theorem steps_add (x y z : Int) (h : stepsE x y = 0) (k : stepsE y z = 0) : stepsE x z = 0 ∧ stepsV x y + stepsV y z = stepsV x z := by
  obtain ⟨a1, a2, a3, a4⟩ := steps_ok x y h
  obtain ⟨b1, b2, b3, b4⟩ := steps_ok y z k
  have e : stepsE x z = 0 := by unfold stepsE; rw [if_neg (by simp [a1, b2]), if_neg (by omega)]
  refine ⟨e, ?_⟩
  unfold stepsV at *; rw [if_pos e]; omega
theorem stepsV_bd (x y : Int) (hx : U x) (hy : U y) : 0 ≤ stepsV x y ∧ stepsV x y ≤ 18446744073709551614 := by
  by_cases h : stepsE x y = 0
  · obtain ⟨a1, a2, a3, a4⟩ := steps_ok x y h
    have := rungV_bd x hx; have := rungV_bd y hy
    omega
  · unfold stepsV; rw [if_neg h]; omega

set_option maxHeartbeats 1000000 in
theorem steps_both (x y z : Int) (w : World) (hx : U x) (hy : U y) (hz : U z) (hT : Tab w) (c1 : stepsE x y = 0) (c2 : stepsE y z = 0) :
    Calls Tryd.prog 3 #[.int .u64 x, .int .u64 y, .int .u64 z] w fun e w' => e = .returned (.bool true) ∧ Below w.heap.size w w' := by
  have hb := Below.refl w.heap.size w
  have u3 := upV_U x hx
  have b1 := stepsV_bd x y hx hy
  have b2 := stepsV_bd y z hy hz
  obtain ⟨c3, c4⟩ := steps_add x y z c1 c2
  have s1 : (stepsE x y == 0) = true := by simp [c1]
  have s2 : (stepsE y z == 0) = true := by simp [c2]
  have s3 : (stepsE x z != 0) = false := by simp [c3]
  have s4 : (stepsV x y + stepsV y z != stepsV x z) = false := by rw [c4]; simp
  have b4 := stepsV_bd x z hx hz
  have b5 : 0 ≤ stepsV x y + stepsV y z ∧ stepsV x y + stepsV y z ≤ 18446744073709551614 := by rw [c4]; exact b4
  clear c1 c2 c3 c4
  cases n1 : numB x
  · clear u3
    go_enter Tryd.func3, Tryd.ntmps3
    go_wp2_with (first | (go_at_call 9; refine (steps_calls _ _ _ (by assumption) (by assumption)).mono ?_; rintro e w' ⟨rfl, rfl⟩) | (go_at_call 10; refine (lives_calls _ (by assumption)).mono ?_; rintro e w1 ⟨rfl, hb1⟩; replace hT := hT.kept hb1; replace hb := below_trans hb hb1; clear hb1) | (go_at_call 11; refine (lawNum_calls _ _ (by assumption)).mono ?_; rintro e w1 ⟨rfl, hb1⟩; replace hT := hT.kept hb1; replace hb := below_trans hb hb1; clear hb1) | (go_at_call 12; refine (up_calls _ _ (by assumption)).mono ?_; rintro e w' ⟨rfl, rfl⟩))
    go_ret
    exact ⟨rfl, hb⟩
  · by_cases hi : x = 9218868437227405312
    · have i1 : (x == 9218868437227405312) = true := by simp [hi]
      clear hi u3
      go_enter Tryd.func3, Tryd.ntmps3
      go_wp2_with (first | (go_at_call 9; refine (steps_calls _ _ _ (by assumption) (by assumption)).mono ?_; rintro e w' ⟨rfl, rfl⟩) | (go_at_call 10; refine (lives_calls _ (by assumption)).mono ?_; rintro e w1 ⟨rfl, hb1⟩; replace hT := hT.kept hb1; replace hb := below_trans hb hb1; clear hb1) | (go_at_call 11; refine (lawNum_calls _ _ (by assumption)).mono ?_; rintro e w1 ⟨rfl, hb1⟩; replace hT := hT.kept hb1; replace hb := below_trans hb hb1; clear hb1) | (go_at_call 12; refine (up_calls _ _ (by assumption)).mono ?_; rintro e w' ⟨rfl, rfl⟩))
      go_ret
      exact ⟨rfl, hb⟩
    · have i1 : (x == 9218868437227405312) = false := by simp [hi]
      obtain ⟨p1, p2⟩ := steps_up x hx n1 hi
      have q1 : (stepsE x (upV x) == 0) = true := by simp [p1]
      have q2 : (stepsV x (upV x) == 1) = true := by simp [p2]
      clear hi p1 p2
      go_enter Tryd.func3, Tryd.ntmps3
      go_wp2_with (first | (go_at_call 9; refine (steps_calls _ _ _ (by assumption) (by assumption)).mono ?_; rintro e w' ⟨rfl, rfl⟩) | (go_at_call 10; refine (lives_calls _ (by assumption)).mono ?_; rintro e w1 ⟨rfl, hb1⟩; replace hT := hT.kept hb1; replace hb := below_trans hb hb1; clear hb1) | (go_at_call 11; refine (lawNum_calls _ _ (by assumption)).mono ?_; rintro e w1 ⟨rfl, hb1⟩; replace hT := hT.kept hb1; replace hb := below_trans hb hb1; clear hb1) | (go_at_call 12; refine (up_calls _ _ (by assumption)).mono ?_; rintro e w' ⟨rfl, rfl⟩))
      go_ret
      exact ⟨rfl, hb⟩

set_option maxHeartbeats 1000000 in
theorem steps_one (x y z : Int) (w : World) (hx : U x) (hy : U y) (hz : U z) (hT : Tab w) (c1 : stepsE x y = 0) (c2 : ¬ stepsE y z = 0) :
    Calls Tryd.prog 3 #[.int .u64 x, .int .u64 y, .int .u64 z] w fun e w' => e = .returned (.bool true) ∧ Below w.heap.size w w' := by
  have hb := Below.refl w.heap.size w
  have u3 := upV_U x hx
  have b1 := stepsV_bd x y hx hy
  have b2 := stepsV_bd y z hy hz
  have s1 : (stepsE x y == 0) = true := by simp [c1]
  have s2 : (stepsE y z == 0) = false := by simp [c2]
  clear c1 c2
  cases n1 : numB x
  · clear u3
    go_enter Tryd.func3, Tryd.ntmps3
    go_wp2_with (first | (go_at_call 9; refine (steps_calls _ _ _ (by assumption) (by assumption)).mono ?_; rintro e w' ⟨rfl, rfl⟩) | (go_at_call 10; refine (lives_calls _ (by assumption)).mono ?_; rintro e w1 ⟨rfl, hb1⟩; replace hT := hT.kept hb1; replace hb := below_trans hb hb1; clear hb1) | (go_at_call 11; refine (lawNum_calls _ _ (by assumption)).mono ?_; rintro e w1 ⟨rfl, hb1⟩; replace hT := hT.kept hb1; replace hb := below_trans hb hb1; clear hb1) | (go_at_call 12; refine (up_calls _ _ (by assumption)).mono ?_; rintro e w' ⟨rfl, rfl⟩))
    go_ret
    exact ⟨rfl, hb⟩
  · by_cases hi : x = 9218868437227405312
    · have i1 : (x == 9218868437227405312) = true := by simp [hi]
      clear hi u3
      go_enter Tryd.func3, Tryd.ntmps3
      go_wp2_with (first | (go_at_call 9; refine (steps_calls _ _ _ (by assumption) (by assumption)).mono ?_; rintro e w' ⟨rfl, rfl⟩) | (go_at_call 10; refine (lives_calls _ (by assumption)).mono ?_; rintro e w1 ⟨rfl, hb1⟩; replace hT := hT.kept hb1; replace hb := below_trans hb hb1; clear hb1) | (go_at_call 11; refine (lawNum_calls _ _ (by assumption)).mono ?_; rintro e w1 ⟨rfl, hb1⟩; replace hT := hT.kept hb1; replace hb := below_trans hb hb1; clear hb1) | (go_at_call 12; refine (up_calls _ _ (by assumption)).mono ?_; rintro e w' ⟨rfl, rfl⟩))
      go_ret
      exact ⟨rfl, hb⟩
    · have i1 : (x == 9218868437227405312) = false := by simp [hi]
      obtain ⟨p1, p2⟩ := steps_up x hx n1 hi
      have q1 : (stepsE x (upV x) == 0) = true := by simp [p1]
      have q2 : (stepsV x (upV x) == 1) = true := by simp [p2]
      clear hi p1 p2
      go_enter Tryd.func3, Tryd.ntmps3
      go_wp2_with (first | (go_at_call 9; refine (steps_calls _ _ _ (by assumption) (by assumption)).mono ?_; rintro e w' ⟨rfl, rfl⟩) | (go_at_call 10; refine (lives_calls _ (by assumption)).mono ?_; rintro e w1 ⟨rfl, hb1⟩; replace hT := hT.kept hb1; replace hb := below_trans hb hb1; clear hb1) | (go_at_call 11; refine (lawNum_calls _ _ (by assumption)).mono ?_; rintro e w1 ⟨rfl, hb1⟩; replace hT := hT.kept hb1; replace hb := below_trans hb hb1; clear hb1) | (go_at_call 12; refine (up_calls _ _ (by assumption)).mono ?_; rintro e w' ⟨rfl, rfl⟩))
      go_ret
      exact ⟨rfl, hb⟩

set_option maxHeartbeats 1000000 in
theorem steps_none (x y z : Int) (w : World) (hx : U x) (hy : U y) (hz : U z) (hT : Tab w) (c1 : ¬ stepsE x y = 0) :
    Calls Tryd.prog 3 #[.int .u64 x, .int .u64 y, .int .u64 z] w fun e w' => e = .returned (.bool true) ∧ Below w.heap.size w w' := by
  have hb := Below.refl w.heap.size w
  have u3 := upV_U x hx
  have b1 := stepsV_bd x y hx hy
  have b2 := stepsV_bd y z hy hz
  have s1 : (stepsE x y == 0) = false := by simp [c1]
  clear c1
  cases n1 : numB x
  · clear u3
    go_enter Tryd.func3, Tryd.ntmps3
    go_wp2_with (first | (go_at_call 9; refine (steps_calls _ _ _ (by assumption) (by assumption)).mono ?_; rintro e w' ⟨rfl, rfl⟩) | (go_at_call 10; refine (lives_calls _ (by assumption)).mono ?_; rintro e w1 ⟨rfl, hb1⟩; replace hT := hT.kept hb1; replace hb := below_trans hb hb1; clear hb1) | (go_at_call 11; refine (lawNum_calls _ _ (by assumption)).mono ?_; rintro e w1 ⟨rfl, hb1⟩; replace hT := hT.kept hb1; replace hb := below_trans hb hb1; clear hb1) | (go_at_call 12; refine (up_calls _ _ (by assumption)).mono ?_; rintro e w' ⟨rfl, rfl⟩))
    go_ret
    exact ⟨rfl, hb⟩
  · by_cases hi : x = 9218868437227405312
    · have i1 : (x == 9218868437227405312) = true := by simp [hi]
      clear hi u3
      go_enter Tryd.func3, Tryd.ntmps3
      go_wp2_with (first | (go_at_call 9; refine (steps_calls _ _ _ (by assumption) (by assumption)).mono ?_; rintro e w' ⟨rfl, rfl⟩) | (go_at_call 10; refine (lives_calls _ (by assumption)).mono ?_; rintro e w1 ⟨rfl, hb1⟩; replace hT := hT.kept hb1; replace hb := below_trans hb hb1; clear hb1) | (go_at_call 11; refine (lawNum_calls _ _ (by assumption)).mono ?_; rintro e w1 ⟨rfl, hb1⟩; replace hT := hT.kept hb1; replace hb := below_trans hb hb1; clear hb1) | (go_at_call 12; refine (up_calls _ _ (by assumption)).mono ?_; rintro e w' ⟨rfl, rfl⟩))
      go_ret
      exact ⟨rfl, hb⟩
    · have i1 : (x == 9218868437227405312) = false := by simp [hi]
      obtain ⟨p1, p2⟩ := steps_up x hx n1 hi
      have q1 : (stepsE x (upV x) == 0) = true := by simp [p1]
      have q2 : (stepsV x (upV x) == 1) = true := by simp [p2]
      clear hi p1 p2
      go_enter Tryd.func3, Tryd.ntmps3
      go_wp2_with (first | (go_at_call 9; refine (steps_calls _ _ _ (by assumption) (by assumption)).mono ?_; rintro e w' ⟨rfl, rfl⟩) | (go_at_call 10; refine (lives_calls _ (by assumption)).mono ?_; rintro e w1 ⟨rfl, hb1⟩; replace hT := hT.kept hb1; replace hb := below_trans hb hb1; clear hb1) | (go_at_call 11; refine (lawNum_calls _ _ (by assumption)).mono ?_; rintro e w1 ⟨rfl, hb1⟩; replace hT := hT.kept hb1; replace hb := below_trans hb hb1; clear hb1) | (go_at_call 12; refine (up_calls _ _ (by assumption)).mono ?_; rintro e w' ⟨rfl, rfl⟩))
      go_ret
      exact ⟨rfl, hb⟩

theorem bitsSteps_walk (x y z : Int) (w : World) (hx : U x) (hy : U y) (hz : U z) (hT : Tab w) :
    Calls Tryd.prog 3 #[.int .u64 x, .int .u64 y, .int .u64 z] w fun e w' => e = .returned (.bool true) ∧ Below w.heap.size w w' := by
  by_cases c1 : stepsE x y = 0
  · by_cases c2 : stepsE y z = 0
    · exact steps_both x y z w hx hy hz hT c1 c2
    · exact steps_one x y z w hx hy hz hT c1 c2
  · exact steps_none x y z w hx hy hz hT c1
end Go.Proofs.YtoamnimepkodeabDoor
