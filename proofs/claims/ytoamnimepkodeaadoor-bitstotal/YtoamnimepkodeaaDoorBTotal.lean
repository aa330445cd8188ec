/- The walk of the statement BitsTotal: it answers true for any three uint64 words, where math/bits's table stands. -/
import Derived.Test.YtoamnimepkodeaaDoorBWalks2
namespace Go.Proofs.YtoamnimepkodeaaDoor
open Go.RowKit

theorem ord_bd (x y : Int) : -1 ≤ ordV x y ∧ ordV x y ≤ 1 := by unfold ordV cmpV; (repeat' split) <;> omega
theorem ord_neg (x y : Int) : ordV x y = -ordV y x := by unfold ordV cmpV; (repeat' split) <;> omega
theorem place_inj (x y : Int) (h : U x) (k : U y) : placeV x = placeV y ↔ x = y := by
  unfold U at h k; unfold placeV; (repeat' split) <;> omega
theorem ord_zero (x y : Int) (h : U x) (k : U y) : (ordV x y == 0) = (x == y) := by
  have := place_inj x y h k
  rw [Bool.eq_iff_iff]
  simp only [beq_iff_eq]
  rw [← this]
  unfold ordV cmpV; (repeat' split) <;> omega
theorem ord_trans (x y z : Int) (a : ordV x y ≤ 0) (b : ordV y z ≤ 0) : ordV x z ≤ 0 := by
  unfold ordV cmpV at *
  (repeat' split at a) <;> (repeat' split at b) <;> (repeat' split) <;> omega
theorem class_zero (x : Int) : classV x = 1 ↔ x % 9223372036854775808 = 0 := by
  unfold classV expV fracV
  repeat' split
  all_goals omega
theorem less_ord (x y : Int) (h : U x) (k : U y) (hx : numB x = true) (hy : numB y = true) (cy : ¬ classV y = 1) : lessB x y = decide (ordV x y < 0) := by
  rw [class_zero y] at cy
  unfold lessB
  rw [hx, hy]
  unfold numB at hx hy
  simp only [decide_eq_true_eq] at hx hy
  simp only [Bool.and_self, Bool.true_and, decide_eq_decide]
  unfold U at h k; unfold rungV ordV cmpV placeV
  (repeat' split) <;> omega
theorem less_num (x y : Int) (h : numB x = false ∨ numB y = false) : lessB x y = false := by
  unfold lessB; rcases h with h | h <;> simp [h]

/-- The road behind the first tests: they answer false each. -/
def Road (x y z : Int) : Prop := (ordV x y ≤ 0 ∧ ordV y z ≤ 0 ∧ ordV x z ≤ 0) ∨ (ordV x y ≤ 0 ∧ 0 < ordV y z) ∨ 0 < ordV x y
theorem road (x y z : Int) : Road x y z := by
  have := ord_trans x y z
  unfold Road; omega

set_option maxHeartbeats 1000000 in
theorem total_c1c2 (x y z : Int) (w : World) (hx : U x) (hy : U y) (hz : U z) (hT : Tab w) (c1 : ordV x y ≤ 0) (c2 : ordV y z ≤ 0) (c3 : ordV x z ≤ 0) :
    Calls Tryd.prog 8 #[.int .u64 x, .int .u64 y, .int .u64 z] w fun e w' => e = .returned (.bool true) ∧ Below w.heap.size w w' := by
  have hb := Below.refl w.heap.size w
  have b1 := ord_bd x y
  have b2 := ord_bd y z
  have b3 := ord_bd x z
  have b4 := ord_bd y x
  have f1 : (ordV x y != -ordV y x) = false := by rw [ord_neg x y]; simp
  have f2 : (ordV x y == 0) = (x == y) := ord_zero x y hx hy
  have F4 : Hid _ := less_ord x y hx hy
  have F5 : Hid _ := less_num x y
  cases n1 : numB x
  · have l1 := F5.out (Or.inl n1)
    clear F4 F5
    go_enter Tryd.func8, Tryd.ntmps8
    go_wp2_with (first | (go_at_call 30; refine (order_calls _ _ _ (by assumption) (by assumption)).mono ?_; rintro e w' ⟨rfl, rfl⟩) | (go_at_call 28; refine (less_calls _ _ _ (by assumption) (by assumption)).mono ?_; rintro e w' ⟨rfl, rfl⟩) | (go_at_call 11; refine (lives_calls _ (by assumption)).mono ?_; rintro e w1 ⟨rfl, hb1⟩; replace hT := hT.kept hb1; replace hb := below_trans hb hb1; clear hb1) | (go_at_call 36; refine (lawNum_calls _ _ (by assumption)).mono ?_; rintro e w1 ⟨rfl, hb1⟩; replace hT := hT.kept hb1; replace hb := below_trans hb hb1; clear hb1) | (go_at_call 12; refine (class_calls _ _ (by assumption)).mono ?_; rintro e w1 ⟨rfl, hb1⟩; replace hT := hT.kept hb1; replace hb := below_trans hb hb1; clear hb1))
    go_ret
    exact ⟨rfl, hb⟩
  · cases n2 : numB y
    · have l1 := F5.out (Or.inr n2)
      clear F4 F5
      go_enter Tryd.func8, Tryd.ntmps8
      go_wp2_with (first | (go_at_call 30; refine (order_calls _ _ _ (by assumption) (by assumption)).mono ?_; rintro e w' ⟨rfl, rfl⟩) | (go_at_call 28; refine (less_calls _ _ _ (by assumption) (by assumption)).mono ?_; rintro e w' ⟨rfl, rfl⟩) | (go_at_call 11; refine (lives_calls _ (by assumption)).mono ?_; rintro e w1 ⟨rfl, hb1⟩; replace hT := hT.kept hb1; replace hb := below_trans hb hb1; clear hb1) | (go_at_call 36; refine (lawNum_calls _ _ (by assumption)).mono ?_; rintro e w1 ⟨rfl, hb1⟩; replace hT := hT.kept hb1; replace hb := below_trans hb hb1; clear hb1) | (go_at_call 12; refine (class_calls _ _ (by assumption)).mono ?_; rintro e w1 ⟨rfl, hb1⟩; replace hT := hT.kept hb1; replace hb := below_trans hb hb1; clear hb1))
      go_ret
      exact ⟨rfl, hb⟩
    · clear F5
      by_cases k1 : classV x = 1
      · have k1' : (classV x != 1) = false := by simp [k1]
        clear F4 k1
        go_enter Tryd.func8, Tryd.ntmps8
        go_wp2_with (first | (go_at_call 30; refine (order_calls _ _ _ (by assumption) (by assumption)).mono ?_; rintro e w' ⟨rfl, rfl⟩) | (go_at_call 28; refine (less_calls _ _ _ (by assumption) (by assumption)).mono ?_; rintro e w' ⟨rfl, rfl⟩) | (go_at_call 11; refine (lives_calls _ (by assumption)).mono ?_; rintro e w1 ⟨rfl, hb1⟩; replace hT := hT.kept hb1; replace hb := below_trans hb hb1; clear hb1) | (go_at_call 36; refine (lawNum_calls _ _ (by assumption)).mono ?_; rintro e w1 ⟨rfl, hb1⟩; replace hT := hT.kept hb1; replace hb := below_trans hb hb1; clear hb1) | (go_at_call 12; refine (class_calls _ _ (by assumption)).mono ?_; rintro e w1 ⟨rfl, hb1⟩; replace hT := hT.kept hb1; replace hb := below_trans hb hb1; clear hb1))
        go_ret
        exact ⟨rfl, hb⟩
      · have k1' : (classV x != 1) = true := by simp [k1]
        by_cases k2 : classV y = 1
        · have k2' : (classV y != 1) = false := by simp [k2]
          clear F4 k1 k2
          go_enter Tryd.func8, Tryd.ntmps8
          go_wp2_with (first | (go_at_call 30; refine (order_calls _ _ _ (by assumption) (by assumption)).mono ?_; rintro e w' ⟨rfl, rfl⟩) | (go_at_call 28; refine (less_calls _ _ _ (by assumption) (by assumption)).mono ?_; rintro e w' ⟨rfl, rfl⟩) | (go_at_call 11; refine (lives_calls _ (by assumption)).mono ?_; rintro e w1 ⟨rfl, hb1⟩; replace hT := hT.kept hb1; replace hb := below_trans hb hb1; clear hb1) | (go_at_call 36; refine (lawNum_calls _ _ (by assumption)).mono ?_; rintro e w1 ⟨rfl, hb1⟩; replace hT := hT.kept hb1; replace hb := below_trans hb hb1; clear hb1) | (go_at_call 12; refine (class_calls _ _ (by assumption)).mono ?_; rintro e w1 ⟨rfl, hb1⟩; replace hT := hT.kept hb1; replace hb := below_trans hb hb1; clear hb1))
          go_ret
          exact ⟨rfl, hb⟩
        · have k2' : (classV y != 1) = true := by simp [k2]
          have l1 := F4.out n1 n2 k2
          clear F4 k1 k2
          go_enter Tryd.func8, Tryd.ntmps8
          go_wp2_with (first | (go_at_call 30; refine (order_calls _ _ _ (by assumption) (by assumption)).mono ?_; rintro e w' ⟨rfl, rfl⟩) | (go_at_call 28; refine (less_calls _ _ _ (by assumption) (by assumption)).mono ?_; rintro e w' ⟨rfl, rfl⟩) | (go_at_call 11; refine (lives_calls _ (by assumption)).mono ?_; rintro e w1 ⟨rfl, hb1⟩; replace hT := hT.kept hb1; replace hb := below_trans hb hb1; clear hb1) | (go_at_call 36; refine (lawNum_calls _ _ (by assumption)).mono ?_; rintro e w1 ⟨rfl, hb1⟩; replace hT := hT.kept hb1; replace hb := below_trans hb hb1; clear hb1) | (go_at_call 12; refine (class_calls _ _ (by assumption)).mono ?_; rintro e w1 ⟨rfl, hb1⟩; replace hT := hT.kept hb1; replace hb := below_trans hb hb1; clear hb1))
          go_ret
          exact ⟨rfl, hb⟩

set_option maxHeartbeats 1000000 in
theorem total_c1n2 (x y z : Int) (w : World) (hx : U x) (hy : U y) (hz : U z) (hT : Tab w) (c1 : ordV x y ≤ 0) (c2 : 0 < ordV y z) :
    Calls Tryd.prog 8 #[.int .u64 x, .int .u64 y, .int .u64 z] w fun e w' => e = .returned (.bool true) ∧ Below w.heap.size w w' := by
  have hb := Below.refl w.heap.size w
  have b1 := ord_bd x y
  have b2 := ord_bd y z
  have b3 := ord_bd x z
  have b4 := ord_bd y x
  have f1 : (ordV x y != -ordV y x) = false := by rw [ord_neg x y]; simp
  have f2 : (ordV x y == 0) = (x == y) := ord_zero x y hx hy
  have F4 : Hid _ := less_ord x y hx hy
  have F5 : Hid _ := less_num x y
  cases n1 : numB x
  · have l1 := F5.out (Or.inl n1)
    clear F4 F5
    go_enter Tryd.func8, Tryd.ntmps8
    go_wp2_with (first | (go_at_call 30; refine (order_calls _ _ _ (by assumption) (by assumption)).mono ?_; rintro e w' ⟨rfl, rfl⟩) | (go_at_call 28; refine (less_calls _ _ _ (by assumption) (by assumption)).mono ?_; rintro e w' ⟨rfl, rfl⟩) | (go_at_call 11; refine (lives_calls _ (by assumption)).mono ?_; rintro e w1 ⟨rfl, hb1⟩; replace hT := hT.kept hb1; replace hb := below_trans hb hb1; clear hb1) | (go_at_call 36; refine (lawNum_calls _ _ (by assumption)).mono ?_; rintro e w1 ⟨rfl, hb1⟩; replace hT := hT.kept hb1; replace hb := below_trans hb hb1; clear hb1) | (go_at_call 12; refine (class_calls _ _ (by assumption)).mono ?_; rintro e w1 ⟨rfl, hb1⟩; replace hT := hT.kept hb1; replace hb := below_trans hb hb1; clear hb1))
    go_ret
    exact ⟨rfl, hb⟩
  · cases n2 : numB y
    · have l1 := F5.out (Or.inr n2)
      clear F4 F5
      go_enter Tryd.func8, Tryd.ntmps8
      go_wp2_with (first | (go_at_call 30; refine (order_calls _ _ _ (by assumption) (by assumption)).mono ?_; rintro e w' ⟨rfl, rfl⟩) | (go_at_call 28; refine (less_calls _ _ _ (by assumption) (by assumption)).mono ?_; rintro e w' ⟨rfl, rfl⟩) | (go_at_call 11; refine (lives_calls _ (by assumption)).mono ?_; rintro e w1 ⟨rfl, hb1⟩; replace hT := hT.kept hb1; replace hb := below_trans hb hb1; clear hb1) | (go_at_call 36; refine (lawNum_calls _ _ (by assumption)).mono ?_; rintro e w1 ⟨rfl, hb1⟩; replace hT := hT.kept hb1; replace hb := below_trans hb hb1; clear hb1) | (go_at_call 12; refine (class_calls _ _ (by assumption)).mono ?_; rintro e w1 ⟨rfl, hb1⟩; replace hT := hT.kept hb1; replace hb := below_trans hb hb1; clear hb1))
      go_ret
      exact ⟨rfl, hb⟩
    · clear F5
      by_cases k1 : classV x = 1
      · have k1' : (classV x != 1) = false := by simp [k1]
        clear F4 k1
        go_enter Tryd.func8, Tryd.ntmps8
        go_wp2_with (first | (go_at_call 30; refine (order_calls _ _ _ (by assumption) (by assumption)).mono ?_; rintro e w' ⟨rfl, rfl⟩) | (go_at_call 28; refine (less_calls _ _ _ (by assumption) (by assumption)).mono ?_; rintro e w' ⟨rfl, rfl⟩) | (go_at_call 11; refine (lives_calls _ (by assumption)).mono ?_; rintro e w1 ⟨rfl, hb1⟩; replace hT := hT.kept hb1; replace hb := below_trans hb hb1; clear hb1) | (go_at_call 36; refine (lawNum_calls _ _ (by assumption)).mono ?_; rintro e w1 ⟨rfl, hb1⟩; replace hT := hT.kept hb1; replace hb := below_trans hb hb1; clear hb1) | (go_at_call 12; refine (class_calls _ _ (by assumption)).mono ?_; rintro e w1 ⟨rfl, hb1⟩; replace hT := hT.kept hb1; replace hb := below_trans hb hb1; clear hb1))
        go_ret
        exact ⟨rfl, hb⟩
      · have k1' : (classV x != 1) = true := by simp [k1]
        by_cases k2 : classV y = 1
        · have k2' : (classV y != 1) = false := by simp [k2]
          clear F4 k1 k2
          go_enter Tryd.func8, Tryd.ntmps8
          go_wp2_with (first | (go_at_call 30; refine (order_calls _ _ _ (by assumption) (by assumption)).mono ?_; rintro e w' ⟨rfl, rfl⟩) | (go_at_call 28; refine (less_calls _ _ _ (by assumption) (by assumption)).mono ?_; rintro e w' ⟨rfl, rfl⟩) | (go_at_call 11; refine (lives_calls _ (by assumption)).mono ?_; rintro e w1 ⟨rfl, hb1⟩; replace hT := hT.kept hb1; replace hb := below_trans hb hb1; clear hb1) | (go_at_call 36; refine (lawNum_calls _ _ (by assumption)).mono ?_; rintro e w1 ⟨rfl, hb1⟩; replace hT := hT.kept hb1; replace hb := below_trans hb hb1; clear hb1) | (go_at_call 12; refine (class_calls _ _ (by assumption)).mono ?_; rintro e w1 ⟨rfl, hb1⟩; replace hT := hT.kept hb1; replace hb := below_trans hb hb1; clear hb1))
          go_ret
          exact ⟨rfl, hb⟩
        · have k2' : (classV y != 1) = true := by simp [k2]
          have l1 := F4.out n1 n2 k2
          clear F4 k1 k2
          go_enter Tryd.func8, Tryd.ntmps8
          go_wp2_with (first | (go_at_call 30; refine (order_calls _ _ _ (by assumption) (by assumption)).mono ?_; rintro e w' ⟨rfl, rfl⟩) | (go_at_call 28; refine (less_calls _ _ _ (by assumption) (by assumption)).mono ?_; rintro e w' ⟨rfl, rfl⟩) | (go_at_call 11; refine (lives_calls _ (by assumption)).mono ?_; rintro e w1 ⟨rfl, hb1⟩; replace hT := hT.kept hb1; replace hb := below_trans hb hb1; clear hb1) | (go_at_call 36; refine (lawNum_calls _ _ (by assumption)).mono ?_; rintro e w1 ⟨rfl, hb1⟩; replace hT := hT.kept hb1; replace hb := below_trans hb hb1; clear hb1) | (go_at_call 12; refine (class_calls _ _ (by assumption)).mono ?_; rintro e w1 ⟨rfl, hb1⟩; replace hT := hT.kept hb1; replace hb := below_trans hb hb1; clear hb1))
          go_ret
          exact ⟨rfl, hb⟩

set_option maxHeartbeats 1000000 in
theorem total_n1 (x y z : Int) (w : World) (hx : U x) (hy : U y) (hz : U z) (hT : Tab w) (c1 : 0 < ordV x y) :
    Calls Tryd.prog 8 #[.int .u64 x, .int .u64 y, .int .u64 z] w fun e w' => e = .returned (.bool true) ∧ Below w.heap.size w w' := by
  have hb := Below.refl w.heap.size w
  have b1 := ord_bd x y
  have b2 := ord_bd y z
  have b3 := ord_bd x z
  have b4 := ord_bd y x
  have f1 : (ordV x y != -ordV y x) = false := by rw [ord_neg x y]; simp
  have f2 : (ordV x y == 0) = (x == y) := ord_zero x y hx hy
  have F4 : Hid _ := less_ord x y hx hy
  have F5 : Hid _ := less_num x y
  cases n1 : numB x
  · have l1 := F5.out (Or.inl n1)
    clear F4 F5
    go_enter Tryd.func8, Tryd.ntmps8
    go_wp2_with (first | (go_at_call 30; refine (order_calls _ _ _ (by assumption) (by assumption)).mono ?_; rintro e w' ⟨rfl, rfl⟩) | (go_at_call 28; refine (less_calls _ _ _ (by assumption) (by assumption)).mono ?_; rintro e w' ⟨rfl, rfl⟩) | (go_at_call 11; refine (lives_calls _ (by assumption)).mono ?_; rintro e w1 ⟨rfl, hb1⟩; replace hT := hT.kept hb1; replace hb := below_trans hb hb1; clear hb1) | (go_at_call 36; refine (lawNum_calls _ _ (by assumption)).mono ?_; rintro e w1 ⟨rfl, hb1⟩; replace hT := hT.kept hb1; replace hb := below_trans hb hb1; clear hb1) | (go_at_call 12; refine (class_calls _ _ (by assumption)).mono ?_; rintro e w1 ⟨rfl, hb1⟩; replace hT := hT.kept hb1; replace hb := below_trans hb hb1; clear hb1))
    go_ret
    exact ⟨rfl, hb⟩
  · cases n2 : numB y
    · have l1 := F5.out (Or.inr n2)
      clear F4 F5
      go_enter Tryd.func8, Tryd.ntmps8
      go_wp2_with (first | (go_at_call 30; refine (order_calls _ _ _ (by assumption) (by assumption)).mono ?_; rintro e w' ⟨rfl, rfl⟩) | (go_at_call 28; refine (less_calls _ _ _ (by assumption) (by assumption)).mono ?_; rintro e w' ⟨rfl, rfl⟩) | (go_at_call 11; refine (lives_calls _ (by assumption)).mono ?_; rintro e w1 ⟨rfl, hb1⟩; replace hT := hT.kept hb1; replace hb := below_trans hb hb1; clear hb1) | (go_at_call 36; refine (lawNum_calls _ _ (by assumption)).mono ?_; rintro e w1 ⟨rfl, hb1⟩; replace hT := hT.kept hb1; replace hb := below_trans hb hb1; clear hb1) | (go_at_call 12; refine (class_calls _ _ (by assumption)).mono ?_; rintro e w1 ⟨rfl, hb1⟩; replace hT := hT.kept hb1; replace hb := below_trans hb hb1; clear hb1))
      go_ret
      exact ⟨rfl, hb⟩
    · clear F5
      by_cases k1 : classV x = 1
      · have k1' : (classV x != 1) = false := by simp [k1]
        clear F4 k1
        go_enter Tryd.func8, Tryd.ntmps8
        go_wp2_with (first | (go_at_call 30; refine (order_calls _ _ _ (by assumption) (by assumption)).mono ?_; rintro e w' ⟨rfl, rfl⟩) | (go_at_call 28; refine (less_calls _ _ _ (by assumption) (by assumption)).mono ?_; rintro e w' ⟨rfl, rfl⟩) | (go_at_call 11; refine (lives_calls _ (by assumption)).mono ?_; rintro e w1 ⟨rfl, hb1⟩; replace hT := hT.kept hb1; replace hb := below_trans hb hb1; clear hb1) | (go_at_call 36; refine (lawNum_calls _ _ (by assumption)).mono ?_; rintro e w1 ⟨rfl, hb1⟩; replace hT := hT.kept hb1; replace hb := below_trans hb hb1; clear hb1) | (go_at_call 12; refine (class_calls _ _ (by assumption)).mono ?_; rintro e w1 ⟨rfl, hb1⟩; replace hT := hT.kept hb1; replace hb := below_trans hb hb1; clear hb1))
        go_ret
        exact ⟨rfl, hb⟩
      · have k1' : (classV x != 1) = true := by simp [k1]
        by_cases k2 : classV y = 1
        · have k2' : (classV y != 1) = false := by simp [k2]
          clear F4 k1 k2
          go_enter Tryd.func8, Tryd.ntmps8
          go_wp2_with (first | (go_at_call 30; refine (order_calls _ _ _ (by assumption) (by assumption)).mono ?_; rintro e w' ⟨rfl, rfl⟩) | (go_at_call 28; refine (less_calls _ _ _ (by assumption) (by assumption)).mono ?_; rintro e w' ⟨rfl, rfl⟩) | (go_at_call 11; refine (lives_calls _ (by assumption)).mono ?_; rintro e w1 ⟨rfl, hb1⟩; replace hT := hT.kept hb1; replace hb := below_trans hb hb1; clear hb1) | (go_at_call 36; refine (lawNum_calls _ _ (by assumption)).mono ?_; rintro e w1 ⟨rfl, hb1⟩; replace hT := hT.kept hb1; replace hb := below_trans hb hb1; clear hb1) | (go_at_call 12; refine (class_calls _ _ (by assumption)).mono ?_; rintro e w1 ⟨rfl, hb1⟩; replace hT := hT.kept hb1; replace hb := below_trans hb hb1; clear hb1))
          go_ret
          exact ⟨rfl, hb⟩
        · have k2' : (classV y != 1) = true := by simp [k2]
          have l1 := F4.out n1 n2 k2
          clear F4 k1 k2
          go_enter Tryd.func8, Tryd.ntmps8
          go_wp2_with (first | (go_at_call 30; refine (order_calls _ _ _ (by assumption) (by assumption)).mono ?_; rintro e w' ⟨rfl, rfl⟩) | (go_at_call 28; refine (less_calls _ _ _ (by assumption) (by assumption)).mono ?_; rintro e w' ⟨rfl, rfl⟩) | (go_at_call 11; refine (lives_calls _ (by assumption)).mono ?_; rintro e w1 ⟨rfl, hb1⟩; replace hT := hT.kept hb1; replace hb := below_trans hb hb1; clear hb1) | (go_at_call 36; refine (lawNum_calls _ _ (by assumption)).mono ?_; rintro e w1 ⟨rfl, hb1⟩; replace hT := hT.kept hb1; replace hb := below_trans hb hb1; clear hb1) | (go_at_call 12; refine (class_calls _ _ (by assumption)).mono ?_; rintro e w1 ⟨rfl, hb1⟩; replace hT := hT.kept hb1; replace hb := below_trans hb hb1; clear hb1))
          go_ret
          exact ⟨rfl, hb⟩

theorem total_walk (x y z : Int) (w : World) (hx : U x) (hy : U y) (hz : U z) (hT : Tab w) :
    Calls Tryd.prog 8 #[.int .u64 x, .int .u64 y, .int .u64 z] w fun e w' => e = .returned (.bool true) ∧ Below w.heap.size w w' := by
  rcases road x y z with ⟨a, b, c⟩ | ⟨a, b⟩ | a
  · exact total_c1c2 x y z w hx hy hz hT a b c
  · exact total_c1n2 x y z w hx hy hz hT a b
  · exact total_n1 x y z w hx hy hz hT a
end Go.Proofs.YtoamnimepkodeaaDoor
