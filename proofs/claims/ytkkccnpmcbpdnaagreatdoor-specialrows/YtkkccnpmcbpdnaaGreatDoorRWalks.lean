/- The walks of the document's answers for layer 1 (package ulpref01): each answers what the like function of package bits does, for every uint64. -/
import Derived.Test.YtkkccnpmcbpdnaaGreatDoorBWalks2
namespace Go.Proofs.YtkkccnpmcbpdnaaGreatDoor
open Go.RowKit

def belowB (x : Int) : Bool := decide (9223372036854775808 < x)
theorem tup2 {a b c d : Value} (h : a = c) (k : b = d) : Ending.returned (.tuple #[a, b]) = .returned (.tuple #[c, d]) := by rw [h, k]
theorem vint {k : IntKind} {a b : Int} (h : a = b) : Value.int k a = .int k b := by rw [h]

set_option maxHeartbeats 400000 in
theorem rNumber_calls (x : Int) (w : World) (h : U x) :
    Calls Tryz.prog 102 #[.int .u64 x] w fun e w' => e = .returned (.bool (numB x)) ∧ w' = w := by
  obtain ⟨h0, h1⟩ := h
  go_enter Tryz.func102, Tryz.ntmps102
  go_wp2
  go_ret
  exact ⟨rfl, rfl⟩

set_option maxHeartbeats 400000 in
theorem rFinite_calls (x : Int) (w : World) (h : U x) :
    Calls Tryz.prog 17 #[.int .u64 x] w fun e w' => e = .returned (.bool (finB x)) ∧ w' = w := by
  obtain ⟨h0, h1⟩ := h
  go_enter Tryz.func17, Tryz.ntmps17
  go_wp2
  go_ret
  exact ⟨rfl, rfl⟩

set_option maxHeartbeats 400000 in
theorem rAbs_calls (x : Int) (w : World) (h : U x) :
    Calls Tryz.prog 36 #[.int .u64 x] w fun e w' => e = .returned (.int .u64 (absV x)) ∧ w' = w := by
  obtain ⟨h0, h1⟩ := h
  go_enter Tryz.func36, Tryz.ntmps36
  go_wp2
  go_ret
  exact ⟨rfl, rfl⟩

theorem rdown_nan (x : Int) (hU : U x) (h : numB x = false) : downV x = x := by
  have e : numB (negV x) = false := by
    unfold numB negV at *; simp only [decide_eq_false_iff_not] at *; omega
  unfold numB at e; simp only [decide_eq_false_iff_not] at e
  unfold downV
  have e2 : upV (negV x) = negV x := by unfold upV; rw [if_pos (Or.inl e)]
  rw [e2]; unfold U at hU; unfold negV; omega

set_option maxHeartbeats 400000 in
theorem rPlace_calls (x : Int) (w : World) (h : U x) :
    Calls Tryz.prog 103 #[.int .u64 x] w fun e w' => e = .returned (.tuple #[.bool (belowB x), .int .u64 (absV x)]) ∧ w' = w := by
  obtain ⟨h0, h1⟩ := h
  go_enter Tryz.func103, Tryz.ntmps103
  go_wp2
  go_ret2
  exact ⟨rfl, rfl⟩

/-- The reference's place is the rung: below the zeros, and by what amount. -/
theorem rung_place (x : Int) (h : U x) : rungV x = if belowB x = true then -absV x else absV x := by
  unfold U at h; unfold rungV absV belowB; simp only [decide_eq_true_eq]; (repeat' split) <;> omega
theorem below_abs (x : Int) (h : U x) (k : belowB x = true) : 0 < absV x := by
  unfold U at h; unfold belowB at k; simp only [decide_eq_true_eq] at k; unfold absV; omega

set_option maxHeartbeats 1000000 in
theorem rLess_calls (x y : Int) (w : World) (h : U x) (k : U y) :
    Calls Tryz.prog 66 #[.int .u64 x, .int .u64 y] w fun e w' => e = .returned (.bool (lessB x y)) ∧ w' = w := by
  cases c1 : numB x
  · have hV : Hid (lessB x y = false) := by unfold lessB; rw [Hid, c1]; rfl
    go_enter Tryz.func66, Tryz.ntmps66
    go_wp2_with (first | (go_at_call 102; refine (rNumber_calls _ _ (by assumption)).mono ?_; rintro e w' ⟨rfl, rfl⟩) | (go_at_call 103; refine (rPlace_calls _ _ (by assumption)).mono ?_; rintro e w' ⟨rfl, rfl⟩))
    go_ret
    exact ⟨ret_bool hV.out.symm, rfl⟩
  · cases c2 : numB y
    · have hV : Hid (lessB x y = false) := by unfold lessB; rw [Hid, c2]; simp
      go_enter Tryz.func66, Tryz.ntmps66
      go_wp2_with (first | (go_at_call 102; refine (rNumber_calls _ _ (by assumption)).mono ?_; rintro e w' ⟨rfl, rfl⟩) | (go_at_call 103; refine (rPlace_calls _ _ (by assumption)).mono ?_; rintro e w' ⟨rfl, rfl⟩))
      go_ret
      exact ⟨ret_bool hV.out.symm, rfl⟩
    · have hV : Hid (lessB x y = decide (rungV x < rungV y)) := by unfold lessB; rw [Hid, c1, c2]; rfl
      have hp := rung_place x h
      have hq := rung_place y k
      have HU := h
      have KU := k
      obtain ⟨h0, h1⟩ := h
      obtain ⟨k0, k1⟩ := k
      have ax := absV_bd x
      have ay := absV_bd y
      have px := below_abs x HU
      have py := below_abs y KU
      cases s1 : belowB x
      · cases s2 : belowB y
        · have hW : Hid (lessB x y = decide (absV x < absV y)) := by rw [Hid, hV.out, hp, hq, s1, s2]; rfl
          clear hp hq hV px py
          go_enter Tryz.func66, Tryz.ntmps66
          go_wp2_with (first | (go_at_call 102; refine (rNumber_calls _ _ (by assumption)).mono ?_; rintro e w' ⟨rfl, rfl⟩) | (go_at_call 103; refine (rPlace_calls _ _ (by assumption)).mono ?_; rintro e w' ⟨rfl, rfl⟩))
          go_ret
          exact ⟨ret_bool hW.out.symm, rfl⟩
        · have hW : Hid (lessB x y = false) := by rw [Hid, hV.out, hp, hq, s1, s2]; simp; omega
          clear hp hq hV px py
          go_enter Tryz.func66, Tryz.ntmps66
          go_wp2_with (first | (go_at_call 102; refine (rNumber_calls _ _ (by assumption)).mono ?_; rintro e w' ⟨rfl, rfl⟩) | (go_at_call 103; refine (rPlace_calls _ _ (by assumption)).mono ?_; rintro e w' ⟨rfl, rfl⟩))
          go_ret
          exact ⟨ret_bool hW.out.symm, rfl⟩
      · have p1 := px s1
        cases s2 : belowB y
        · have hW : Hid (lessB x y = true) := by rw [Hid, hV.out, hp, hq, s1, s2]; simp; omega
          clear hp hq hV px py
          go_enter Tryz.func66, Tryz.ntmps66
          go_wp2_with (first | (go_at_call 102; refine (rNumber_calls _ _ (by assumption)).mono ?_; rintro e w' ⟨rfl, rfl⟩) | (go_at_call 103; refine (rPlace_calls _ _ (by assumption)).mono ?_; rintro e w' ⟨rfl, rfl⟩))
          go_ret
          exact ⟨ret_bool hW.out.symm, rfl⟩
        · have hW : Hid (lessB x y = decide (absV y < absV x)) := by rw [Hid, hV.out, hp, hq, s1, s2]; simp
          clear hp hq hV px py
          go_enter Tryz.func66, Tryz.ntmps66
          go_wp2_with (first | (go_at_call 102; refine (rNumber_calls _ _ (by assumption)).mono ?_; rintro e w' ⟨rfl, rfl⟩) | (go_at_call 103; refine (rPlace_calls _ _ (by assumption)).mono ?_; rintro e w' ⟨rfl, rfl⟩))
          go_ret
          exact ⟨ret_bool hW.out.symm, rfl⟩

theorem ord_ref (x y : Int) (h : U x) (k : U y) (v : Int)
    (hv : (x = y ∧ v = 0) ∨ (x ≠ y ∧ 9223372036854775808 ≤ x ∧ 9223372036854775808 ≤ y ∧ y < x ∧ v = -1) ∨ (x ≠ y ∧ 9223372036854775808 ≤ x ∧ 9223372036854775808 ≤ y ∧ ¬ y < x ∧ v = 1)
      ∨ (x ≠ y ∧ 9223372036854775808 ≤ x ∧ ¬ 9223372036854775808 ≤ y ∧ v = -1) ∨ (x ≠ y ∧ ¬ 9223372036854775808 ≤ x ∧ 9223372036854775808 ≤ y ∧ v = 1)
      ∨ (x ≠ y ∧ ¬ 9223372036854775808 ≤ x ∧ ¬ 9223372036854775808 ≤ y ∧ x < y ∧ v = -1) ∨ (x ≠ y ∧ ¬ 9223372036854775808 ≤ x ∧ ¬ 9223372036854775808 ≤ y ∧ ¬ x < y ∧ v = 1)) : ordV x y = v := by
  unfold U at h k; unfold ordV cmpV placeV; (repeat' split) <;> omega