/- The walk of the statement BitsWhole: it answers true for any uint64 word, where math/bits's table stands. -/
import Derived.Test.YtoamnimepkodeabDoorBWalks2
namespace Go.Proofs.YtoamnimepkodeabDoor
open Go.RowKit

theorem count_pos (x : Int) (h : 0 ≤ unitV x) : 4503599627370496 ≤ countV x ∧ expV x ≠ 0 := by
  have := fracV_bd x
  unfold unitV at h; unfold countV
  split at h
  · omega
  · rename_i hc; rw [if_neg hc]; omega
theorem low_of (x : Int) (h : 0 ≤ unitV x) : lowV x = unitV x + tzV (countV x) ∧ lowB x = false ∧ 0 ≤ tzV (countV x) := by
  obtain ⟨h1, _⟩ := count_pos x h
  refine ⟨?_, ?_, (tzV_bd _ (countV_U x)).1⟩
  · unfold lowV; rw [if_neg (by omega)]
  · unfold lowB; simp; omega
theorem whole_of (x : Int) (hf : finB x = true) (h : 0 ≤ unitV x) : wholeB x = true := by
  obtain ⟨h1, h2, h3⟩ := low_of x h
  unfold wholeB; rw [hf, h2, h1]; simp; omega
theorem odd_of (x : Int) (h : 0 < unitV x) : oddB x = false := by
  obtain ⟨h1, h2, h3⟩ := low_of x (by omega)
  have e : (lowV x == 0) = false := by rw [h1]; simp; omega
  unfold oddB; rw [e]; simp
theorem odd_whole (x : Int) (h : oddB x = true) : wholeB x = true := by
  unfold oddB at h
  simp only [Bool.and_eq_true, beq_iff_eq] at h
  unfold wholeB; rw [h.1.1, h.2]; simp
theorem odd_mod (x : Int) (hf : finB x = true) (h : unitV x = 0) : oddB x = (x % 2 == 1) := by
  obtain ⟨h1, h2, h3⟩ := low_of x (by omega)
  obtain ⟨c1, c2⟩ := count_pos x (by omega)
  have cb := countV_bd x
  obtain ⟨k, m, hk, hm⟩ := tz_spec (countV x) (by omega) (by omega)
  have hc : countV x = fracV x + 4503599627370496 := by unfold countV; rw [if_neg c2]
  have hp : countV x % 2 = x % 2 := by rw [hc]; unfold fracV; omega
  unfold oddB
  rw [hf, h2, h1, h, hk]
  rw [← hp, hm]
  cases k with
  | zero => simp
  | succ k =>
    have e1 : (2 : Int) ^ (k + 1) * (2 * (m : Int) + 1) % 2 = 0 := by
      rw [Int.pow_succ, Int.mul_comm (2 ^ k) 2, Int.mul_assoc]; exact Int.mul_emod_right _ _
    rw [e1]
    simp; omega
theorem exp_neg (x : Int) : expV (negV x) = expV x := by unfold expV negV; omega
theorem frac_neg (x : Int) : fracV (negV x) = fracV x := by unfold fracV negV; omega
theorem fin_neg (x : Int) : finB (negV x) = finB x := by unfold finB negV; rw [decide_eq_decide]; omega
theorem low_neg (x : Int) : lowV (negV x) = lowV x ∧ lowB (negV x) = lowB x := by
  unfold lowV lowB unitV countV; rw [exp_neg, frac_neg]; exact ⟨rfl, rfl⟩
theorem whole_neg (x : Int) : wholeB (negV x) = wholeB x := by unfold wholeB; rw [fin_neg, (low_neg x).1, (low_neg x).2]
theorem odd_neg (x : Int) : oddB (negV x) = oddB x := by unfold oddB; rw [fin_neg, (low_neg x).1, (low_neg x).2]
theorem fin_class (x : Int) : finB x = (numB x && (classV x != 4)) := by
  unfold finB numB classV expV fracV
  repeat' split
  all_goals (rw [Bool.eq_iff_iff]; simp; try omega)

set_option maxHeartbeats 1000000 in
theorem whole_nfin (x : Int) (w : World) (hx : U x) (hT : Tab w) (hf : finB x = false) :
    Calls Tryd.prog 4 #[.int .u64 x] w fun e w' => e = .returned (.bool true) ∧ Below w.heap.size w w' := by
  have hb := Below.refl w.heap.size w
  have fc := fin_class x
  rw [hf] at fc
  have e1 : (lastE x == 0) = false := by unfold lastE; rw [hf]; rfl
  have e2 : (lastE x != 0) = true := by unfold lastE; rw [hf]; rfl
  have e3 : wholeB x = false := by unfold wholeB; rw [hf]; rfl
  have e4 : oddB x = false := by unfold oddB; rw [hf]; rfl
  clear hf
  cases n1 : numB x
  · clear fc
    go_enter Tryd.func4, Tryd.ntmps4
    go_wp2_with (first | (go_at_call 13; refine (last_calls _ _ (by assumption)).mono ?_; rintro e w1 ⟨rfl, hb1⟩; replace hT := hT.kept hb1; replace hb := below_trans hb hb1; clear hb1) | (go_at_call 10; refine (lives_calls _ (by assumption)).mono ?_; rintro e w1 ⟨rfl, hb1⟩; replace hT := hT.kept hb1; replace hb := below_trans hb hb1; clear hb1) | (go_at_call 11; refine (lawNum_calls _ _ (by assumption)).mono ?_; rintro e w1 ⟨rfl, hb1⟩; replace hT := hT.kept hb1; replace hb := below_trans hb hb1; clear hb1) | (go_at_call 14; refine (class_calls _ _ (by assumption)).mono ?_; rintro e w1 ⟨rfl, hb1⟩; replace hT := hT.kept hb1; replace hb := below_trans hb hb1; clear hb1) | (go_at_call 15; refine (whole_calls _ _ (by assumption) (by assumption)).mono ?_; rintro e w1 ⟨rfl, hb1⟩; replace hT := hT.kept hb1; replace hb := below_trans hb hb1; clear hb1) | (go_at_call 16; refine (odd_calls _ _ (by assumption) (by assumption)).mono ?_; rintro e w1 ⟨rfl, hb1⟩; replace hT := hT.kept hb1; replace hb := below_trans hb hb1; clear hb1) | (go_at_call 17; refine (neg_calls _ _ (by assumption)).mono ?_; rintro e w' ⟨rfl, rfl⟩))
    go_ret
    exact ⟨rfl, hb⟩
  · have n2 : (classV x != 4) = false := by rw [n1] at fc; simpa using fc.symm
    clear fc
    go_enter Tryd.func4, Tryd.ntmps4
    go_wp2_with (first | (go_at_call 13; refine (last_calls _ _ (by assumption)).mono ?_; rintro e w1 ⟨rfl, hb1⟩; replace hT := hT.kept hb1; replace hb := below_trans hb hb1; clear hb1) | (go_at_call 10; refine (lives_calls _ (by assumption)).mono ?_; rintro e w1 ⟨rfl, hb1⟩; replace hT := hT.kept hb1; replace hb := below_trans hb hb1; clear hb1) | (go_at_call 11; refine (lawNum_calls _ _ (by assumption)).mono ?_; rintro e w1 ⟨rfl, hb1⟩; replace hT := hT.kept hb1; replace hb := below_trans hb hb1; clear hb1) | (go_at_call 14; refine (class_calls _ _ (by assumption)).mono ?_; rintro e w1 ⟨rfl, hb1⟩; replace hT := hT.kept hb1; replace hb := below_trans hb hb1; clear hb1) | (go_at_call 15; refine (whole_calls _ _ (by assumption) (by assumption)).mono ?_; rintro e w1 ⟨rfl, hb1⟩; replace hT := hT.kept hb1; replace hb := below_trans hb hb1; clear hb1) | (go_at_call 16; refine (odd_calls _ _ (by assumption) (by assumption)).mono ?_; rintro e w1 ⟨rfl, hb1⟩; replace hT := hT.kept hb1; replace hb := below_trans hb hb1; clear hb1) | (go_at_call 17; refine (neg_calls _ _ (by assumption)).mono ?_; rintro e w' ⟨rfl, rfl⟩))
    go_ret
    exact ⟨rfl, hb⟩

set_option maxHeartbeats 1000000 in
theorem whole_less (x : Int) (w : World) (hx : U x) (hT : Tab w) (hf : finB x = true) (hu : unitV x < 0) :
    Calls Tryd.prog 4 #[.int .u64 x] w fun e w' => e = .returned (.bool true) ∧ Below w.heap.size w w' := by
  have hb := Below.refl w.heap.size w
  have fc := fin_class x
  rw [hf] at fc
  have n1 : numB x = true := by have := fc.symm; simp only [Bool.and_eq_true] at this; exact this.1
  have n2 : (classV x != 4) = true := by have := fc.symm; simp only [Bool.and_eq_true] at this; exact this.2
  have e1 : (lastE x == 0) = true := by unfold lastE; rw [hf]; rfl
  have e2 : (lastE x != 0) = false := by unfold lastE; rw [hf]; rfl
  have u1 := negV_U x
  have g1 : wholeB (negV x) = wholeB x := whole_neg x
  have g2 : oddB (negV x) = oddB x := odd_neg x
  have lv : Hid (lastV x = unitV x) := by unfold lastV; rw [Hid, hf]; rfl
  clear fc
  have l1 : lastV x < 0 := by rw [lv.out]; exact hu
  have l2 : (lastV x != 0) = true := by simp; omega
  have D : Hid _ := odd_whole x
  clear lv hu hf
  cases o1 : oddB x
  · clear D
    go_enter Tryd.func4, Tryd.ntmps4
    go_wp2_with (first | (go_at_call 13; refine (last_calls _ _ (by assumption)).mono ?_; rintro e w1 ⟨rfl, hb1⟩; replace hT := hT.kept hb1; replace hb := below_trans hb hb1; clear hb1) | (go_at_call 10; refine (lives_calls _ (by assumption)).mono ?_; rintro e w1 ⟨rfl, hb1⟩; replace hT := hT.kept hb1; replace hb := below_trans hb hb1; clear hb1) | (go_at_call 11; refine (lawNum_calls _ _ (by assumption)).mono ?_; rintro e w1 ⟨rfl, hb1⟩; replace hT := hT.kept hb1; replace hb := below_trans hb hb1; clear hb1) | (go_at_call 14; refine (class_calls _ _ (by assumption)).mono ?_; rintro e w1 ⟨rfl, hb1⟩; replace hT := hT.kept hb1; replace hb := below_trans hb hb1; clear hb1) | (go_at_call 15; refine (whole_calls _ _ (by assumption) (by assumption)).mono ?_; rintro e w1 ⟨rfl, hb1⟩; replace hT := hT.kept hb1; replace hb := below_trans hb hb1; clear hb1) | (go_at_call 16; refine (odd_calls _ _ (by assumption) (by assumption)).mono ?_; rintro e w1 ⟨rfl, hb1⟩; replace hT := hT.kept hb1; replace hb := below_trans hb hb1; clear hb1) | (go_at_call 17; refine (neg_calls _ _ (by assumption)).mono ?_; rintro e w' ⟨rfl, rfl⟩))
    go_ret
    exact ⟨rfl, hb⟩
  · have o2 := D.out o1
    clear D
    go_enter Tryd.func4, Tryd.ntmps4
    go_wp2_with (first | (go_at_call 13; refine (last_calls _ _ (by assumption)).mono ?_; rintro e w1 ⟨rfl, hb1⟩; replace hT := hT.kept hb1; replace hb := below_trans hb hb1; clear hb1) | (go_at_call 10; refine (lives_calls _ (by assumption)).mono ?_; rintro e w1 ⟨rfl, hb1⟩; replace hT := hT.kept hb1; replace hb := below_trans hb hb1; clear hb1) | (go_at_call 11; refine (lawNum_calls _ _ (by assumption)).mono ?_; rintro e w1 ⟨rfl, hb1⟩; replace hT := hT.kept hb1; replace hb := below_trans hb hb1; clear hb1) | (go_at_call 14; refine (class_calls _ _ (by assumption)).mono ?_; rintro e w1 ⟨rfl, hb1⟩; replace hT := hT.kept hb1; replace hb := below_trans hb hb1; clear hb1) | (go_at_call 15; refine (whole_calls _ _ (by assumption) (by assumption)).mono ?_; rintro e w1 ⟨rfl, hb1⟩; replace hT := hT.kept hb1; replace hb := below_trans hb hb1; clear hb1) | (go_at_call 16; refine (odd_calls _ _ (by assumption) (by assumption)).mono ?_; rintro e w1 ⟨rfl, hb1⟩; replace hT := hT.kept hb1; replace hb := below_trans hb hb1; clear hb1) | (go_at_call 17; refine (neg_calls _ _ (by assumption)).mono ?_; rintro e w' ⟨rfl, rfl⟩))
    go_ret
    exact ⟨rfl, hb⟩

set_option maxHeartbeats 1000000 in
theorem whole_more (x : Int) (w : World) (hx : U x) (hT : Tab w) (hf : finB x = true) (hu : 0 < unitV x) :
    Calls Tryd.prog 4 #[.int .u64 x] w fun e w' => e = .returned (.bool true) ∧ Below w.heap.size w w' := by
  have hb := Below.refl w.heap.size w
  have fc := fin_class x
  rw [hf] at fc
  have n1 : numB x = true := by have := fc.symm; simp only [Bool.and_eq_true] at this; exact this.1
  have n2 : (classV x != 4) = true := by have := fc.symm; simp only [Bool.and_eq_true] at this; exact this.2
  have e1 : (lastE x == 0) = true := by unfold lastE; rw [hf]; rfl
  have e2 : (lastE x != 0) = false := by unfold lastE; rw [hf]; rfl
  have u1 := negV_U x
  have g1 : wholeB (negV x) = wholeB x := whole_neg x
  have g2 : oddB (negV x) = oddB x := odd_neg x
  have lv : Hid (lastV x = unitV x) := by unfold lastV; rw [Hid, hf]; rfl
  clear fc
  have l1 : 0 < lastV x := by rw [lv.out]; exact hu
  have l2 : (lastV x != 0) = true := by simp; omega
  have o1 := odd_of x hu
  have o2 := whole_of x hf (by omega)
  clear lv hu hf
  go_enter Tryd.func4, Tryd.ntmps4
  go_wp2_with (first | (go_at_call 13; refine (last_calls _ _ (by assumption)).mono ?_; rintro e w1 ⟨rfl, hb1⟩; replace hT := hT.kept hb1; replace hb := below_trans hb hb1; clear hb1) | (go_at_call 10; refine (lives_calls _ (by assumption)).mono ?_; rintro e w1 ⟨rfl, hb1⟩; replace hT := hT.kept hb1; replace hb := below_trans hb hb1; clear hb1) | (go_at_call 11; refine (lawNum_calls _ _ (by assumption)).mono ?_; rintro e w1 ⟨rfl, hb1⟩; replace hT := hT.kept hb1; replace hb := below_trans hb hb1; clear hb1) | (go_at_call 14; refine (class_calls _ _ (by assumption)).mono ?_; rintro e w1 ⟨rfl, hb1⟩; replace hT := hT.kept hb1; replace hb := below_trans hb hb1; clear hb1) | (go_at_call 15; refine (whole_calls _ _ (by assumption) (by assumption)).mono ?_; rintro e w1 ⟨rfl, hb1⟩; replace hT := hT.kept hb1; replace hb := below_trans hb hb1; clear hb1) | (go_at_call 16; refine (odd_calls _ _ (by assumption) (by assumption)).mono ?_; rintro e w1 ⟨rfl, hb1⟩; replace hT := hT.kept hb1; replace hb := below_trans hb hb1; clear hb1) | (go_at_call 17; refine (neg_calls _ _ (by assumption)).mono ?_; rintro e w' ⟨rfl, rfl⟩))
  go_ret
  exact ⟨rfl, hb⟩

set_option maxHeartbeats 1000000 in
theorem whole_zero (x : Int) (w : World) (hx : U x) (hT : Tab w) (hf : finB x = true) (hu : unitV x = 0) :
    Calls Tryd.prog 4 #[.int .u64 x] w fun e w' => e = .returned (.bool true) ∧ Below w.heap.size w w' := by
  have hb := Below.refl w.heap.size w
  have fc := fin_class x
  rw [hf] at fc
  have n1 : numB x = true := by have := fc.symm; simp only [Bool.and_eq_true] at this; exact this.1
  have n2 : (classV x != 4) = true := by have := fc.symm; simp only [Bool.and_eq_true] at this; exact this.2
  have e1 : (lastE x == 0) = true := by unfold lastE; rw [hf]; rfl
  have e2 : (lastE x != 0) = false := by unfold lastE; rw [hf]; rfl
  have u1 := negV_U x
  have g1 : wholeB (negV x) = wholeB x := whole_neg x
  have g2 : oddB (negV x) = oddB x := odd_neg x
  have lv : Hid (lastV x = unitV x) := by unfold lastV; rw [Hid, hf]; rfl
  clear fc
  have l0 : 0 ≤ lastV x ∧ lastV x ≤ 0 := by rw [lv.out]; omega
  have l2 : (lastV x != 0) = false := by rw [lv.out, hu]; rfl
  have o2 := whole_of x hf (by omega)
  have o3 := odd_mod x hf hu
  obtain ⟨x0, x1⟩ := id hx
  clear lv hu hf
  cases o1 : oddB x
  · have o4 : (x % 2 == 1) = false := by rw [← o3, o1]
    clear o3
    go_enter Tryd.func4, Tryd.ntmps4
    go_wp2_with (first | (go_at_call 13; refine (last_calls _ _ (by assumption)).mono ?_; rintro e w1 ⟨rfl, hb1⟩; replace hT := hT.kept hb1; replace hb := below_trans hb hb1; clear hb1) | (go_at_call 10; refine (lives_calls _ (by assumption)).mono ?_; rintro e w1 ⟨rfl, hb1⟩; replace hT := hT.kept hb1; replace hb := below_trans hb hb1; clear hb1) | (go_at_call 11; refine (lawNum_calls _ _ (by assumption)).mono ?_; rintro e w1 ⟨rfl, hb1⟩; replace hT := hT.kept hb1; replace hb := below_trans hb hb1; clear hb1) | (go_at_call 14; refine (class_calls _ _ (by assumption)).mono ?_; rintro e w1 ⟨rfl, hb1⟩; replace hT := hT.kept hb1; replace hb := below_trans hb hb1; clear hb1) | (go_at_call 15; refine (whole_calls _ _ (by assumption) (by assumption)).mono ?_; rintro e w1 ⟨rfl, hb1⟩; replace hT := hT.kept hb1; replace hb := below_trans hb hb1; clear hb1) | (go_at_call 16; refine (odd_calls _ _ (by assumption) (by assumption)).mono ?_; rintro e w1 ⟨rfl, hb1⟩; replace hT := hT.kept hb1; replace hb := below_trans hb hb1; clear hb1) | (go_at_call 17; refine (neg_calls _ _ (by assumption)).mono ?_; rintro e w' ⟨rfl, rfl⟩))
    go_ret
    exact ⟨rfl, hb⟩
  · have o4 : (x % 2 == 1) = true := by rw [← o3, o1]
    clear o3
    go_enter Tryd.func4, Tryd.ntmps4
    go_wp2_with (first | (go_at_call 13; refine (last_calls _ _ (by assumption)).mono ?_; rintro e w1 ⟨rfl, hb1⟩; replace hT := hT.kept hb1; replace hb := below_trans hb hb1; clear hb1) | (go_at_call 10; refine (lives_calls _ (by assumption)).mono ?_; rintro e w1 ⟨rfl, hb1⟩; replace hT := hT.kept hb1; replace hb := below_trans hb hb1; clear hb1) | (go_at_call 11; refine (lawNum_calls _ _ (by assumption)).mono ?_; rintro e w1 ⟨rfl, hb1⟩; replace hT := hT.kept hb1; replace hb := below_trans hb hb1; clear hb1) | (go_at_call 14; refine (class_calls _ _ (by assumption)).mono ?_; rintro e w1 ⟨rfl, hb1⟩; replace hT := hT.kept hb1; replace hb := below_trans hb hb1; clear hb1) | (go_at_call 15; refine (whole_calls _ _ (by assumption) (by assumption)).mono ?_; rintro e w1 ⟨rfl, hb1⟩; replace hT := hT.kept hb1; replace hb := below_trans hb hb1; clear hb1) | (go_at_call 16; refine (odd_calls _ _ (by assumption) (by assumption)).mono ?_; rintro e w1 ⟨rfl, hb1⟩; replace hT := hT.kept hb1; replace hb := below_trans hb hb1; clear hb1) | (go_at_call 17; refine (neg_calls _ _ (by assumption)).mono ?_; rintro e w' ⟨rfl, rfl⟩))
    go_ret
    exact ⟨rfl, hb⟩

theorem bitsWhole_walk (x : Int) (w : World) (hx : U x) (hT : Tab w) :
    Calls Tryd.prog 4 #[.int .u64 x] w fun e w' => e = .returned (.bool true) ∧ Below w.heap.size w w' := by
  cases hf : finB x
  · exact whole_nfin x w hx hT hf
  · rcases Int.lt_trichotomy (unitV x) 0 with h | h | h
    · exact whole_less x w hx hT hf h
    · exact whole_zero x w hx hT hf h
    · exact whole_more x w hx hT hf h
end Go.Proofs.YtoamnimepkodeabDoor
