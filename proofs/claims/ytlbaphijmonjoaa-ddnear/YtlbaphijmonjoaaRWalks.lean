/- The walks of the document's answers for layer 1 (package ulpref01): each answers what the like function of package bits does, for every uint64. -/
import Derived.Test.YtlbaphijmonjoaaBWalks2
namespace Go.Proofs.Ytlbaphijmonjoaa
open Go.RowKit

def belowB (x : Int) : Bool := decide (9223372036854775808 < x)
theorem tup2 {a b c d : Value} (h : a = c) (k : b = d) : Ending.returned (.tuple #[a, b]) = .returned (.tuple #[c, d]) := by rw [h, k]
theorem vint {k : IntKind} {a b : Int} (h : a = b) : Value.int k a = .int k b := by rw [h]


set_option maxHeartbeats 400000 in
theorem rFinite_calls (x : Int) (w : World) (h : U x) :
    Calls Try.prog 45 #[.int .u64 x] w fun e w' => e = .returned (.bool (finB x)) ∧ w' = w := by
  obtain ⟨h0, h1⟩ := h
  go_enter Try.func45, Try.ntmps45
  go_wp2
  go_ret
  exact ⟨rfl, rfl⟩




theorem rdown_nan (x : Int) (hU : U x) (h : numB x = false) : downV x = x := by
  have e : numB (negV x) = false := by
    unfold numB negV at *; simp only [decide_eq_false_iff_not] at *; omega
  unfold numB at e; simp only [decide_eq_false_iff_not] at e
  unfold downV
  have e2 : upV (negV x) = negV x := by unfold upV; rw [if_pos (Or.inl e)]
  rw [e2]; unfold U at hU; unfold negV; omega



/-- The reference's place is the rung: below the zeros, and by what amount. -/
theorem rung_place (x : Int) (h : U x) : rungV x = if belowB x = true then -absV x else absV x := by
  unfold U at h; unfold rungV absV belowB; simp only [decide_eq_true_eq]; (repeat' split) <;> omega
theorem below_abs (x : Int) (h : U x) (k : belowB x = true) : 0 < absV x := by
  unfold U at h; unfold belowB at k; simp only [decide_eq_true_eq] at k; unfold absV; omega



theorem ord_ref (x y : Int) (h : U x) (k : U y) (v : Int)
    (hv : (x = y ∧ v = 0) ∨ (x ≠ y ∧ 9223372036854775808 ≤ x ∧ 9223372036854775808 ≤ y ∧ y < x ∧ v = -1) ∨ (x ≠ y ∧ 9223372036854775808 ≤ x ∧ 9223372036854775808 ≤ y ∧ ¬ y < x ∧ v = 1)
      ∨ (x ≠ y ∧ 9223372036854775808 ≤ x ∧ ¬ 9223372036854775808 ≤ y ∧ v = -1) ∨ (x ≠ y ∧ ¬ 9223372036854775808 ≤ x ∧ 9223372036854775808 ≤ y ∧ v = 1)
      ∨ (x ≠ y ∧ ¬ 9223372036854775808 ≤ x ∧ ¬ 9223372036854775808 ≤ y ∧ x < y ∧ v = -1) ∨ (x ≠ y ∧ ¬ 9223372036854775808 ≤ x ∧ ¬ 9223372036854775808 ≤ y ∧ ¬ x < y ∧ v = 1)) : ordV x y = v := by
  unfold U at h k; unfold ordV cmpV placeV; (repeat' split) <;> omega

end Go.Proofs.Ytlbaphijmonjoaa
