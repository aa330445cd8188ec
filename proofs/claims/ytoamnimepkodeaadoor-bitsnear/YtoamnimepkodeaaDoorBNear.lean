/- The walk of the statement BitsNear: it answers true for any two uint64 words, where math/bits's table stands. -/
import Derived.Test.YtoamnimepkodeaaDoorBWalks2
namespace Go.Proofs.YtoamnimepkodeaaDoor
open Go.RowKit

theorem neg_neg' (x : Int) (h : U x) : negV (negV x) = x := by unfold U at h; unfold negV; omega
theorem abs_neg (x : Int) : absV (negV x) = absV x := by unfold negV absV; omega
theorem num_neg (x : Int) : numB (negV x) = numB x := by unfold numB negV; rw [decide_eq_decide]; omega
theorem up_nan (x : Int) (h : numB x = false) : upV x = x := by
  unfold numB at h; simp only [decide_eq_false_iff_not] at h; unfold upV; rw [if_pos (Or.inl h)]
theorem down_nan (x : Int) (hU : U x) (h : numB x = false) : downV x = x := by
  unfold downV; rw [up_nan _ (by rw [num_neg]; exact h), neg_neg' x hU]
theorem rung_up (x : Int) (hU : U x) (h : numB x = true) (hi : ¬ x = 9218868437227405312) : rungV (upV x) = rungV x + 1 ∧ numB (upV x) = true := by
  unfold numB at *; unfold U at hU; unfold rungV upV
  simp only [decide_eq_true_eq] at *
  constructor
  · (repeat' split) <;> omega
  · (repeat' split) <;> omega
theorem less_up (x : Int) (hU : U x) (h : numB x = true) (hi : ¬ x = 9218868437227405312) : lessB x (upV x) = true := by
  obtain ⟨h1, h2⟩ := rung_up x hU h hi
  unfold lessB; rw [h1, h2, h]; simp; omega
theorem less_between (x y : Int) (hU : U x) (h : numB x = true) (hi : ¬ x = 9218868437227405312) (hl : lessB x y = true) : lessB y (upV x) = false := by
  obtain ⟨h1, h2⟩ := rung_up x hU h hi
  unfold lessB at *
  simp only [Bool.and_eq_true, decide_eq_true_eq] at hl
  rw [h1, h2]; simp; omega
theorem down_up (x : Int) (hU : U x) (hc : classV x = 3 ∨ classV x = 2) (hs : ¬ x = 9223372036854775809) : downV (upV x) = x := by
  have h0 : x % 9223372036854775808 ≠ 0 ∧ x % 9223372036854775808 < 9218868437227405312 := by
    unfold classV expV fracV at hc
    (repeat' split at hc) <;> omega
  unfold U at hU
  have e1 : upV x = if 9223372036854775808 ≤ x then x - 1 else x + 1 := by
    unfold upV; rw [if_neg (by omega), if_neg h0.1]
  rw [e1]
  unfold downV
  by_cases c : 9223372036854775808 ≤ x
  · rw [if_pos c]
    have e2 : negV (x - 1) = x - 1 - 9223372036854775808 := by unfold negV; omega
    have e3 : upV (x - 1 - 9223372036854775808) = x - 9223372036854775808 := by
      unfold upV; rw [if_neg (by omega), if_neg (by omega), if_neg (by omega)]; omega
    rw [e2, e3]; unfold negV; omega
  · rw [if_neg c]
    have e2 : negV (x + 1) = x + 1 + 9223372036854775808 := by unfold negV; omega
    have e3 : upV (x + 1 + 9223372036854775808) = x + 9223372036854775808 := by
      unfold upV; rw [if_neg (by omega), if_neg (by omega), if_pos (by omega)]; omega
    rw [e2, e3]; unfold negV; omega

set_option maxHeartbeats 1000000 in
theorem near_nan (x y : Int) (w : World) (hx : U x) (hy : U y) (hT : Tab w) (hn : numB x = false) :
    Calls Tryd.prog 7 #[.int .u64 x, .int .u64 y] w fun e w' => e = .returned (.bool true) ∧ Below w.heap.size w w' := by
  have hb := Below.refl w.heap.size w
  have u1 := negV_U x
  have u2 := upV_U _ u1
  have u3 := upV_U x hx
  have n1 : (negV (negV x) != x) = false := by rw [neg_neg' x hx]; simp
  have n2 : (absV (negV x) != absV x) = false := by rw [abs_neg]; simp
  have hc := class_num x
  rw [hn] at hc
  have m1 : (upV x == x) = true := by rw [up_nan x hn]; simp
  have m2 : (downV x == x) = true := by rw [down_nan x hx hn]; simp
  have m3 : lessB x y = false := by unfold lessB; rw [hn]; rfl
  have m4 : lessB y x = false := by unfold lessB; rw [hn]; simp
  by_cases c5 : classV x = 5
  · have k5 : (classV x == 5) = true := by simp [c5]
    clear hc c5 hn
    go_enter Tryd.func7, Tryd.ntmps7
    go_wp2_with (first | (go_at_call 28; refine (less_calls _ _ _ (by assumption) (by assumption)).mono ?_; rintro e w' ⟨rfl, rfl⟩) | (go_at_call 11; refine (lives_calls _ (by assumption)).mono ?_; rintro e w1 ⟨rfl, hb1⟩; replace hT := hT.kept hb1; replace hb := below_trans hb hb1; clear hb1) | (go_at_call 12; refine (class_calls _ _ (by assumption)).mono ?_; rintro e w1 ⟨rfl, hb1⟩; replace hT := hT.kept hb1; replace hb := below_trans hb hb1; clear hb1) | (go_at_call 18; refine (up_calls _ _ (by assumption)).mono ?_; rintro e w' ⟨rfl, rfl⟩) | (go_at_call 20; refine (down_calls _ _ (by assumption)).mono ?_; rintro e w' ⟨rfl, rfl⟩) | (go_at_call 22; refine (neg_calls _ _ (by assumption)).mono ?_; rintro e w' ⟨rfl, rfl⟩) | (go_at_call 24; refine (abs_calls _ _ (by assumption)).mono ?_; rintro e w' ⟨rfl, rfl⟩))
    go_ret
    exact ⟨rfl, hb⟩
  · have k5 : (classV x == 5) = false := by simp [c5]
    have k6 : (classV x == 6) = true := by simpa [c5] using hc
    clear hc c5 hn
    go_enter Tryd.func7, Tryd.ntmps7
    go_wp2_with (first | (go_at_call 28; refine (less_calls _ _ _ (by assumption) (by assumption)).mono ?_; rintro e w' ⟨rfl, rfl⟩) | (go_at_call 11; refine (lives_calls _ (by assumption)).mono ?_; rintro e w1 ⟨rfl, hb1⟩; replace hT := hT.kept hb1; replace hb := below_trans hb hb1; clear hb1) | (go_at_call 12; refine (class_calls _ _ (by assumption)).mono ?_; rintro e w1 ⟨rfl, hb1⟩; replace hT := hT.kept hb1; replace hb := below_trans hb hb1; clear hb1) | (go_at_call 18; refine (up_calls _ _ (by assumption)).mono ?_; rintro e w' ⟨rfl, rfl⟩) | (go_at_call 20; refine (down_calls _ _ (by assumption)).mono ?_; rintro e w' ⟨rfl, rfl⟩) | (go_at_call 22; refine (neg_calls _ _ (by assumption)).mono ?_; rintro e w' ⟨rfl, rfl⟩) | (go_at_call 24; refine (abs_calls _ _ (by assumption)).mono ?_; rintro e w' ⟨rfl, rfl⟩))
    go_ret
    exact ⟨rfl, hb⟩

set_option maxHeartbeats 1000000 in
theorem near_inf (x y : Int) (w : World) (hx : U x) (_hy : U y) (hT : Tab w) (hn : numB x = true) (hi : x = 9218868437227405312) :
    Calls Tryd.prog 7 #[.int .u64 x, .int .u64 y] w fun e w' => e = .returned (.bool true) ∧ Below w.heap.size w w' := by
  have hb := Below.refl w.heap.size w
  have u1 := negV_U x
  have u2 := upV_U _ u1
  have u3 := upV_U x hx
  have n1 : (negV (negV x) != x) = false := by rw [neg_neg' x hx]; simp
  have n2 : (absV (negV x) != absV x) = false := by rw [abs_neg]; simp
  have hc := class_num x
  rw [hn] at hc
  simp at hc
  have k5 : (classV x == 5) = false := by simp [hc.1]
  have k6 : (classV x == 6) = false := by simp [hc.2]
  have d1 : (downV x != negV (upV (negV x))) = false := by simp [downV]
  have D : Hid _ := down_up x hx
  clear hc
  have i1 : (x != 9218868437227405312) = false := by simp [hi]
  have q1 : (classV x != 3) = true := by subst hi; decide +kernel
  have q2 : (classV x != 2) = true := by subst hi; decide +kernel
  clear hi hn D
  go_enter Tryd.func7, Tryd.ntmps7
  go_wp2_with (first | (go_at_call 28; refine (less_calls _ _ _ (by assumption) (by assumption)).mono ?_; rintro e w' ⟨rfl, rfl⟩) | (go_at_call 11; refine (lives_calls _ (by assumption)).mono ?_; rintro e w1 ⟨rfl, hb1⟩; replace hT := hT.kept hb1; replace hb := below_trans hb hb1; clear hb1) | (go_at_call 12; refine (class_calls _ _ (by assumption)).mono ?_; rintro e w1 ⟨rfl, hb1⟩; replace hT := hT.kept hb1; replace hb := below_trans hb hb1; clear hb1) | (go_at_call 18; refine (up_calls _ _ (by assumption)).mono ?_; rintro e w' ⟨rfl, rfl⟩) | (go_at_call 20; refine (down_calls _ _ (by assumption)).mono ?_; rintro e w' ⟨rfl, rfl⟩) | (go_at_call 22; refine (neg_calls _ _ (by assumption)).mono ?_; rintro e w' ⟨rfl, rfl⟩) | (go_at_call 24; refine (abs_calls _ _ (by assumption)).mono ?_; rintro e w' ⟨rfl, rfl⟩))
  go_ret
  exact ⟨rfl, hb⟩

set_option maxHeartbeats 1000000 in
theorem near_less (x y : Int) (w : World) (hx : U x) (hy : U y) (hT : Tab w) (hn : numB x = true) (hi : ¬ x = 9218868437227405312) (hl : lessB x y = true) :
    Calls Tryd.prog 7 #[.int .u64 x, .int .u64 y] w fun e w' => e = .returned (.bool true) ∧ Below w.heap.size w w' := by
  have hb := Below.refl w.heap.size w
  have u1 := negV_U x
  have u2 := upV_U _ u1
  have u3 := upV_U x hx
  have n1 : (negV (negV x) != x) = false := by rw [neg_neg' x hx]; simp
  have n2 : (absV (negV x) != absV x) = false := by rw [abs_neg]; simp
  have hc := class_num x
  rw [hn] at hc
  simp at hc
  have k5 : (classV x == 5) = false := by simp [hc.1]
  have k6 : (classV x == 6) = false := by simp [hc.2]
  have d1 : (downV x != negV (upV (negV x))) = false := by simp [downV]
  have D : Hid _ := down_up x hx
  clear hc
  have i1 : (x != 9218868437227405312) = true := by simp [hi]
  have l1 := less_up x hx hn hi
  have l2 := less_between x y hx hn hi hl
  clear hi hn
  by_cases c3 : classV x = 3
  · have q1 : (classV x != 3) = false := by simp [c3]
    by_cases cs : x = 9223372036854775809
    · have s1 : (x == 9223372036854775809) = true := by simp [cs]
      clear D c3 cs
      go_enter Tryd.func7, Tryd.ntmps7
      go_wp2_with (first | (go_at_call 28; refine (less_calls _ _ _ (by assumption) (by assumption)).mono ?_; rintro e w' ⟨rfl, rfl⟩) | (go_at_call 11; refine (lives_calls _ (by assumption)).mono ?_; rintro e w1 ⟨rfl, hb1⟩; replace hT := hT.kept hb1; replace hb := below_trans hb hb1; clear hb1) | (go_at_call 12; refine (class_calls _ _ (by assumption)).mono ?_; rintro e w1 ⟨rfl, hb1⟩; replace hT := hT.kept hb1; replace hb := below_trans hb hb1; clear hb1) | (go_at_call 18; refine (up_calls _ _ (by assumption)).mono ?_; rintro e w' ⟨rfl, rfl⟩) | (go_at_call 20; refine (down_calls _ _ (by assumption)).mono ?_; rintro e w' ⟨rfl, rfl⟩) | (go_at_call 22; refine (neg_calls _ _ (by assumption)).mono ?_; rintro e w' ⟨rfl, rfl⟩) | (go_at_call 24; refine (abs_calls _ _ (by assumption)).mono ?_; rintro e w' ⟨rfl, rfl⟩))
      go_ret
      exact ⟨rfl, hb⟩
    · have s1 : (x == 9223372036854775809) = false := by simp [cs]
      have s2 : (downV (upV x) == x) = true := by rw [D.out (Or.inl c3) cs]; simp
      clear D c3 cs
      go_enter Tryd.func7, Tryd.ntmps7
      go_wp2_with (first | (go_at_call 28; refine (less_calls _ _ _ (by assumption) (by assumption)).mono ?_; rintro e w' ⟨rfl, rfl⟩) | (go_at_call 11; refine (lives_calls _ (by assumption)).mono ?_; rintro e w1 ⟨rfl, hb1⟩; replace hT := hT.kept hb1; replace hb := below_trans hb hb1; clear hb1) | (go_at_call 12; refine (class_calls _ _ (by assumption)).mono ?_; rintro e w1 ⟨rfl, hb1⟩; replace hT := hT.kept hb1; replace hb := below_trans hb hb1; clear hb1) | (go_at_call 18; refine (up_calls _ _ (by assumption)).mono ?_; rintro e w' ⟨rfl, rfl⟩) | (go_at_call 20; refine (down_calls _ _ (by assumption)).mono ?_; rintro e w' ⟨rfl, rfl⟩) | (go_at_call 22; refine (neg_calls _ _ (by assumption)).mono ?_; rintro e w' ⟨rfl, rfl⟩) | (go_at_call 24; refine (abs_calls _ _ (by assumption)).mono ?_; rintro e w' ⟨rfl, rfl⟩))
      go_ret
      exact ⟨rfl, hb⟩
  · have q1 : (classV x != 3) = true := by simp [c3]
    by_cases c2 : classV x = 2
    · have q2 : (classV x != 2) = false := by simp [c2]
      by_cases cs : x = 9223372036854775809
      · have s1 : (x == 9223372036854775809) = true := by simp [cs]
        clear D c2 c3 cs
        go_enter Tryd.func7, Tryd.ntmps7
        go_wp2_with (first | (go_at_call 28; refine (less_calls _ _ _ (by assumption) (by assumption)).mono ?_; rintro e w' ⟨rfl, rfl⟩) | (go_at_call 11; refine (lives_calls _ (by assumption)).mono ?_; rintro e w1 ⟨rfl, hb1⟩; replace hT := hT.kept hb1; replace hb := below_trans hb hb1; clear hb1) | (go_at_call 12; refine (class_calls _ _ (by assumption)).mono ?_; rintro e w1 ⟨rfl, hb1⟩; replace hT := hT.kept hb1; replace hb := below_trans hb hb1; clear hb1) | (go_at_call 18; refine (up_calls _ _ (by assumption)).mono ?_; rintro e w' ⟨rfl, rfl⟩) | (go_at_call 20; refine (down_calls _ _ (by assumption)).mono ?_; rintro e w' ⟨rfl, rfl⟩) | (go_at_call 22; refine (neg_calls _ _ (by assumption)).mono ?_; rintro e w' ⟨rfl, rfl⟩) | (go_at_call 24; refine (abs_calls _ _ (by assumption)).mono ?_; rintro e w' ⟨rfl, rfl⟩))
        go_ret
        exact ⟨rfl, hb⟩
      · have s1 : (x == 9223372036854775809) = false := by simp [cs]
        have s2 : (downV (upV x) == x) = true := by rw [D.out (Or.inr c2) cs]; simp
        clear D c2 c3 cs
        go_enter Tryd.func7, Tryd.ntmps7
        go_wp2_with (first | (go_at_call 28; refine (less_calls _ _ _ (by assumption) (by assumption)).mono ?_; rintro e w' ⟨rfl, rfl⟩) | (go_at_call 11; refine (lives_calls _ (by assumption)).mono ?_; rintro e w1 ⟨rfl, hb1⟩; replace hT := hT.kept hb1; replace hb := below_trans hb hb1; clear hb1) | (go_at_call 12; refine (class_calls _ _ (by assumption)).mono ?_; rintro e w1 ⟨rfl, hb1⟩; replace hT := hT.kept hb1; replace hb := below_trans hb hb1; clear hb1) | (go_at_call 18; refine (up_calls _ _ (by assumption)).mono ?_; rintro e w' ⟨rfl, rfl⟩) | (go_at_call 20; refine (down_calls _ _ (by assumption)).mono ?_; rintro e w' ⟨rfl, rfl⟩) | (go_at_call 22; refine (neg_calls _ _ (by assumption)).mono ?_; rintro e w' ⟨rfl, rfl⟩) | (go_at_call 24; refine (abs_calls _ _ (by assumption)).mono ?_; rintro e w' ⟨rfl, rfl⟩))
        go_ret
        exact ⟨rfl, hb⟩
    · have q2 : (classV x != 2) = true := by simp [c2]
      clear D c2 c3
      go_enter Tryd.func7, Tryd.ntmps7
      go_wp2_with (first | (go_at_call 28; refine (less_calls _ _ _ (by assumption) (by assumption)).mono ?_; rintro e w' ⟨rfl, rfl⟩) | (go_at_call 11; refine (lives_calls _ (by assumption)).mono ?_; rintro e w1 ⟨rfl, hb1⟩; replace hT := hT.kept hb1; replace hb := below_trans hb hb1; clear hb1) | (go_at_call 12; refine (class_calls _ _ (by assumption)).mono ?_; rintro e w1 ⟨rfl, hb1⟩; replace hT := hT.kept hb1; replace hb := below_trans hb hb1; clear hb1) | (go_at_call 18; refine (up_calls _ _ (by assumption)).mono ?_; rintro e w' ⟨rfl, rfl⟩) | (go_at_call 20; refine (down_calls _ _ (by assumption)).mono ?_; rintro e w' ⟨rfl, rfl⟩) | (go_at_call 22; refine (neg_calls _ _ (by assumption)).mono ?_; rintro e w' ⟨rfl, rfl⟩) | (go_at_call 24; refine (abs_calls _ _ (by assumption)).mono ?_; rintro e w' ⟨rfl, rfl⟩))
      go_ret
      exact ⟨rfl, hb⟩

set_option maxHeartbeats 1000000 in
theorem near_nless (x y : Int) (w : World) (hx : U x) (hy : U y) (hT : Tab w) (hn : numB x = true) (hi : ¬ x = 9218868437227405312) (hl : lessB x y = false) :
    Calls Tryd.prog 7 #[.int .u64 x, .int .u64 y] w fun e w' => e = .returned (.bool true) ∧ Below w.heap.size w w' := by
  have hb := Below.refl w.heap.size w
  have u1 := negV_U x
  have u2 := upV_U _ u1
  have u3 := upV_U x hx
  have n1 : (negV (negV x) != x) = false := by rw [neg_neg' x hx]; simp
  have n2 : (absV (negV x) != absV x) = false := by rw [abs_neg]; simp
  have hc := class_num x
  rw [hn] at hc
  simp at hc
  have k5 : (classV x == 5) = false := by simp [hc.1]
  have k6 : (classV x == 6) = false := by simp [hc.2]
  have d1 : (downV x != negV (upV (negV x))) = false := by simp [downV]
  have D : Hid _ := down_up x hx
  clear hc
  have i1 : (x != 9218868437227405312) = true := by simp [hi]
  have l1 := less_up x hx hn hi
  clear hi hn
  by_cases c3 : classV x = 3
  · have q1 : (classV x != 3) = false := by simp [c3]
    by_cases cs : x = 9223372036854775809
    · have s1 : (x == 9223372036854775809) = true := by simp [cs]
      clear D c3 cs
      go_enter Tryd.func7, Tryd.ntmps7
      go_wp2_with (first | (go_at_call 28; refine (less_calls _ _ _ (by assumption) (by assumption)).mono ?_; rintro e w' ⟨rfl, rfl⟩) | (go_at_call 11; refine (lives_calls _ (by assumption)).mono ?_; rintro e w1 ⟨rfl, hb1⟩; replace hT := hT.kept hb1; replace hb := below_trans hb hb1; clear hb1) | (go_at_call 12; refine (class_calls _ _ (by assumption)).mono ?_; rintro e w1 ⟨rfl, hb1⟩; replace hT := hT.kept hb1; replace hb := below_trans hb hb1; clear hb1) | (go_at_call 18; refine (up_calls _ _ (by assumption)).mono ?_; rintro e w' ⟨rfl, rfl⟩) | (go_at_call 20; refine (down_calls _ _ (by assumption)).mono ?_; rintro e w' ⟨rfl, rfl⟩) | (go_at_call 22; refine (neg_calls _ _ (by assumption)).mono ?_; rintro e w' ⟨rfl, rfl⟩) | (go_at_call 24; refine (abs_calls _ _ (by assumption)).mono ?_; rintro e w' ⟨rfl, rfl⟩))
      go_ret
      exact ⟨rfl, hb⟩
    · have s1 : (x == 9223372036854775809) = false := by simp [cs]
      have s2 : (downV (upV x) == x) = true := by rw [D.out (Or.inl c3) cs]; simp
      clear D c3 cs
      go_enter Tryd.func7, Tryd.ntmps7
      go_wp2_with (first | (go_at_call 28; refine (less_calls _ _ _ (by assumption) (by assumption)).mono ?_; rintro e w' ⟨rfl, rfl⟩) | (go_at_call 11; refine (lives_calls _ (by assumption)).mono ?_; rintro e w1 ⟨rfl, hb1⟩; replace hT := hT.kept hb1; replace hb := below_trans hb hb1; clear hb1) | (go_at_call 12; refine (class_calls _ _ (by assumption)).mono ?_; rintro e w1 ⟨rfl, hb1⟩; replace hT := hT.kept hb1; replace hb := below_trans hb hb1; clear hb1) | (go_at_call 18; refine (up_calls _ _ (by assumption)).mono ?_; rintro e w' ⟨rfl, rfl⟩) | (go_at_call 20; refine (down_calls _ _ (by assumption)).mono ?_; rintro e w' ⟨rfl, rfl⟩) | (go_at_call 22; refine (neg_calls _ _ (by assumption)).mono ?_; rintro e w' ⟨rfl, rfl⟩) | (go_at_call 24; refine (abs_calls _ _ (by assumption)).mono ?_; rintro e w' ⟨rfl, rfl⟩))
      go_ret
      exact ⟨rfl, hb⟩
  · have q1 : (classV x != 3) = true := by simp [c3]
    by_cases c2 : classV x = 2
    · have q2 : (classV x != 2) = false := by simp [c2]
      by_cases cs : x = 9223372036854775809
      · have s1 : (x == 9223372036854775809) = true := by simp [cs]
        clear D c2 c3 cs
        go_enter Tryd.func7, Tryd.ntmps7
        go_wp2_with (first | (go_at_call 28; refine (less_calls _ _ _ (by assumption) (by assumption)).mono ?_; rintro e w' ⟨rfl, rfl⟩) | (go_at_call 11; refine (lives_calls _ (by assumption)).mono ?_; rintro e w1 ⟨rfl, hb1⟩; replace hT := hT.kept hb1; replace hb := below_trans hb hb1; clear hb1) | (go_at_call 12; refine (class_calls _ _ (by assumption)).mono ?_; rintro e w1 ⟨rfl, hb1⟩; replace hT := hT.kept hb1; replace hb := below_trans hb hb1; clear hb1) | (go_at_call 18; refine (up_calls _ _ (by assumption)).mono ?_; rintro e w' ⟨rfl, rfl⟩) | (go_at_call 20; refine (down_calls _ _ (by assumption)).mono ?_; rintro e w' ⟨rfl, rfl⟩) | (go_at_call 22; refine (neg_calls _ _ (by assumption)).mono ?_; rintro e w' ⟨rfl, rfl⟩) | (go_at_call 24; refine (abs_calls _ _ (by assumption)).mono ?_; rintro e w' ⟨rfl, rfl⟩))
        go_ret
        exact ⟨rfl, hb⟩
      · have s1 : (x == 9223372036854775809) = false := by simp [cs]
        have s2 : (downV (upV x) == x) = true := by rw [D.out (Or.inr c2) cs]; simp
        clear D c2 c3 cs
        go_enter Tryd.func7, Tryd.ntmps7
        go_wp2_with (first | (go_at_call 28; refine (less_calls _ _ _ (by assumption) (by assumption)).mono ?_; rintro e w' ⟨rfl, rfl⟩) | (go_at_call 11; refine (lives_calls _ (by assumption)).mono ?_; rintro e w1 ⟨rfl, hb1⟩; replace hT := hT.kept hb1; replace hb := below_trans hb hb1; clear hb1) | (go_at_call 12; refine (class_calls _ _ (by assumption)).mono ?_; rintro e w1 ⟨rfl, hb1⟩; replace hT := hT.kept hb1; replace hb := below_trans hb hb1; clear hb1) | (go_at_call 18; refine (up_calls _ _ (by assumption)).mono ?_; rintro e w' ⟨rfl, rfl⟩) | (go_at_call 20; refine (down_calls _ _ (by assumption)).mono ?_; rintro e w' ⟨rfl, rfl⟩) | (go_at_call 22; refine (neg_calls _ _ (by assumption)).mono ?_; rintro e w' ⟨rfl, rfl⟩) | (go_at_call 24; refine (abs_calls _ _ (by assumption)).mono ?_; rintro e w' ⟨rfl, rfl⟩))
        go_ret
        exact ⟨rfl, hb⟩
    · have q2 : (classV x != 2) = true := by simp [c2]
      clear D c2 c3
      go_enter Tryd.func7, Tryd.ntmps7
      go_wp2_with (first | (go_at_call 28; refine (less_calls _ _ _ (by assumption) (by assumption)).mono ?_; rintro e w' ⟨rfl, rfl⟩) | (go_at_call 11; refine (lives_calls _ (by assumption)).mono ?_; rintro e w1 ⟨rfl, hb1⟩; replace hT := hT.kept hb1; replace hb := below_trans hb hb1; clear hb1) | (go_at_call 12; refine (class_calls _ _ (by assumption)).mono ?_; rintro e w1 ⟨rfl, hb1⟩; replace hT := hT.kept hb1; replace hb := below_trans hb hb1; clear hb1) | (go_at_call 18; refine (up_calls _ _ (by assumption)).mono ?_; rintro e w' ⟨rfl, rfl⟩) | (go_at_call 20; refine (down_calls _ _ (by assumption)).mono ?_; rintro e w' ⟨rfl, rfl⟩) | (go_at_call 22; refine (neg_calls _ _ (by assumption)).mono ?_; rintro e w' ⟨rfl, rfl⟩) | (go_at_call 24; refine (abs_calls _ _ (by assumption)).mono ?_; rintro e w' ⟨rfl, rfl⟩))
      go_ret
      exact ⟨rfl, hb⟩

theorem bitsNear_walk (x y : Int) (w : World) (hx : U x) (hy : U y) (hT : Tab w) :
    Calls Tryd.prog 7 #[.int .u64 x, .int .u64 y] w fun e w' => e = .returned (.bool true) ∧ Below w.heap.size w w' := by
  cases hn : numB x
  · exact near_nan x y w hx hy hT hn
  · by_cases hi : x = 9218868437227405312
    · exact near_inf x y w hx hy hT hn hi
    · cases hl : lessB x y
      · exact near_nless x y w hx hy hT hn hi hl
      · exact near_less x y w hx hy hT hn hi hl
end Go.Proofs.YtoamnimepkodeaaDoor
