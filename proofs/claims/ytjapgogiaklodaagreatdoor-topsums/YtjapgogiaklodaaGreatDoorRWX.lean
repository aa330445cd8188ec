/- The walks of the document's answers for layer 1 (package ulpref01): each answers what the like function of package bits does, for every uint64. The walks of the document's answers for layer 1, second part: classes, fields, last bits, whole and odd numbers (their loops). -/
import Derived.Test.YtjapgogiaklodaaGreatDoorBWalks2

namespace Go.Proofs.YtjapgogiaklodaaGreatDoor
open Go.RowKit

def belowB (x : Int) : Bool := decide (9223372036854775808 < x)
theorem tup2 {a b c d : Value} (h : a = c) (k : b = d) : Ending.returned (.tuple #[a, b]) = .returned (.tuple #[c, d]) := by rw [h, k]
theorem vint {k : IntKind} {a b : Int} (h : a = b) : Value.int k a = .int k b := by rw [h]


set_option maxHeartbeats 400000 in
theorem rFinite_calls (x : Int) (w : World) (h : U x) :
    Calls Tryz.prog 67 #[.int .u64 x] w fun e w' => e = .returned (.bool (finB x)) ∧ w' = w := by
  obtain ⟨h0, h1⟩ := h
  go_enter Tryz.func67, Tryz.ntmps67
  go_wp2
  go_ret
  exact ⟨rfl, rfl⟩




theorem rdown_nan (x : Int) (hU : U x) (h : numB x = false) : downV x = x := by
  have e : numB (negV x) = false := by
    unfold numB negV at *; simp only [decide_eq_false_iff_not] at *; omega
  unfold numB at e; simp only [decide_eq_false_iff_not] at e
  unfold downV
  have e2 : upV (negV x) = negV x := by unfold upV; rw [if_pos (Or.inl e)]
  rw [e2]; unfold U at hU; unfold negV; omega



/-- The reference's place is the rung: below the zeros, and by what amount. -/
theorem rung_place (x : Int) (h : U x) : rungV x = if belowB x = true then -absV x else absV x := by
  unfold U at h; unfold rungV absV belowB; simp only [decide_eq_true_eq]; (repeat' split) <;> omega
theorem below_abs (x : Int) (h : U x) (k : belowB x = true) : 0 < absV x := by
  unfold U at h; unfold belowB at k; simp only [decide_eq_true_eq] at k; unfold absV; omega



theorem ord_ref (x y : Int) (h : U x) (k : U y) (v : Int)
    (hv : (x = y ∧ v = 0) ∨ (x ≠ y ∧ 9223372036854775808 ≤ x ∧ 9223372036854775808 ≤ y ∧ y < x ∧ v = -1) ∨ (x ≠ y ∧ 9223372036854775808 ≤ x ∧ 9223372036854775808 ≤ y ∧ ¬ y < x ∧ v = 1)
      ∨ (x ≠ y ∧ 9223372036854775808 ≤ x ∧ ¬ 9223372036854775808 ≤ y ∧ v = -1) ∨ (x ≠ y ∧ ¬ 9223372036854775808 ≤ x ∧ 9223372036854775808 ≤ y ∧ v = 1)
      ∨ (x ≠ y ∧ ¬ 9223372036854775808 ≤ x ∧ ¬ 9223372036854775808 ≤ y ∧ x < y ∧ v = -1) ∨ (x ≠ y ∧ ¬ 9223372036854775808 ≤ x ∧ ¬ 9223372036854775808 ≤ y ∧ ¬ x < y ∧ v = 1)) : ordV x y = v := by
  unfold U at h k; unfold ordV cmpV placeV; (repeat' split) <;> omega

end Go.Proofs.YtjapgogiaklodaaGreatDoor

namespace Go.Proofs.YtjapgogiaklodaaGreatDoor
open Go.RowKit


set_option maxHeartbeats 400000 in
theorem rSplit_calls (x : Int) (w : World) (h : U x) :
    Calls Tryz.prog 68 #[.int .u64 x] w fun e w' => e = .returned (.agg #[.bool (sgnB x), .int .i64 (expV x), .int .u64 (fracV x)]) ∧ Below w.heap.size w w' := by
  have hx := expV_bd x
  obtain ⟨h0, h1⟩ := h
  go_enter Tryz.func68, Tryz.ntmps68
  go_wp2
  exact bodyPost_ret (v := .agg #[.bool (sgnB x), .int .i64 (expV x), .int .u64 (fracV x)]) (by simp [results, Tryz.results68, go_sem, sgnB, expV, fracV]) rfl ⟨rfl, below_alloc _ _⟩


theorem field_exp (w : World) (a b c : Value) : Sem.run Tryz.prog (Instr.field 78 (.agg #[a, b, c]) 1) w = .ok b w := by kernel_rfl
theorem unit_max (x : Int) : unitV x = max (expV x) 1 - 1075 := by
  have := expV_bd x; unfold unitV; split <;> omega



/-! ### powers of two -/
theorem two_pow_pos (k : Nat) : (0 : Int) < 2 ^ k := Int.pow_pos (by decide)
theorem pow_odd : ∀ (k c : Nat) (m q : Int), m * 2 ^ k = 2 ^ c * (2 * q + 1) → k ≤ c ∧ (m % 2 = 1 ↔ k = c)
  | 0, c, m, q, h => by
    refine ⟨Nat.zero_le _, ?_⟩
    have h1 : m = 2 ^ c * (2 * q + 1) := by simpa using h
    cases c with
    | zero => simp at h1; omega
    | succ c =>
      rw [Int.pow_succ, Int.mul_comm (2 ^ c) 2, Int.mul_assoc] at h1
      omega
  | k + 1, c, m, q, h => by
    cases c with
    | zero =>
      exfalso
      rw [Int.pow_succ, ← Int.mul_assoc] at h
      simp at h
      omega
    | succ c =>
      have h1 : m * 2 ^ k = 2 ^ c * (2 * q + 1) := by
        have e1 : m * 2 ^ (k + 1) = m * 2 ^ k * 2 := by rw [Int.pow_succ, ← Int.mul_assoc]
        have e2 : (2 : Int) ^ (c + 1) * (2 * q + 1) = 2 * (2 ^ c * (2 * q + 1)) := by rw [Int.pow_succ, Int.mul_comm (2 ^ c) 2, Int.mul_assoc]
        rw [e1, e2] at h
        omega
      obtain ⟨a, b⟩ := pow_odd k c m q h1
      omega
theorem mul_pow_zero (m : Int) (k : Nat) (h : m * 2 ^ k = 0) : m = 0 := by
  rcases Int.mul_eq_zero.1 h with h | h
  · exact h
  · have := two_pow_pos k; omega

/-- Where the loop of Whole ends. -/
theorem whole_end (x m : Int) (k : Nat) (h : m * 2 ^ k = countV x) (h0 : 0 ≤ m) (hs : ¬ (unitV x + k < 0 ∧ 0 < m ∧ m % 2 = 0)) :
    (decide (m = 0) || decide (0 ≤ unitV x + k)) = (lowB x || decide (0 ≤ lowV x)) := by
  have cb := countV_bd x
  by_cases hm : m = 0
  · subst hm
    have hc : countV x = 0 := by rw [← h]; simp
    have : lowB x = true := by unfold lowB; simp [hc]
    simp [this]
  · have hc : countV x ≠ 0 := fun e => hm (mul_pow_zero m k (by rw [h, e]))
    obtain ⟨c, q, hk, hq⟩ := tz_spec (countV x) (by omega) (by omega)
    obtain ⟨a, b⟩ := pow_odd k c m q (by rw [h, hq])
    have e1 : lowB x = false := by unfold lowB; simp [hc]
    have e2 : lowV x = unitV x + c := by unfold lowV; rw [if_neg hc, hk]
    rw [e1, e2]
    simp only [hm, decide_false, Bool.false_or, decide_eq_decide]
    omega

/-- In the loop of Odd, behind Whole: what is halved is even. -/
theorem odd_even (x m : Int) (k : Nat) (h : m * 2 ^ k = countV x) (hw : wholeB x = true) (he : unitV x + k < 0) : m % 2 = 0 := by
  have cb := countV_bd x
  by_cases hm : m = 0
  · subst hm; rfl
  · have hc : countV x ≠ 0 := fun e => hm (mul_pow_zero m k (by rw [h, e]))
    obtain ⟨c, q, hk, hq⟩ := tz_spec (countV x) (by omega) (by omega)
    obtain ⟨a, b⟩ := pow_odd k c m q (by rw [h, hq])
    have e1 : lowB x = false := by unfold lowB; simp [hc]
    have e2 : lowV x = unitV x + c := by unfold lowV; rw [if_neg hc, hk]
    unfold wholeB at hw
    rw [e1, e2] at hw
    simp at hw
    omega

/-- Where the loop of Odd ends. -/
theorem odd_end (x m : Int) (k : Nat) (h : m * 2 ^ k = countV x) (hf : finB x = true) (he : 0 ≤ unitV x + k) :
    ((unitV x + k == 0) && (m % 2 == 1)) = oddB x := by
  have cb := countV_bd x
  by_cases hm : m = 0
  · subst hm
    have hc : countV x = 0 := by rw [← h]; simp
    have : lowB x = true := by unfold lowB; simp [hc]
    unfold oddB; rw [this]; simp
  · have hc : countV x ≠ 0 := fun e => hm (mul_pow_zero m k (by rw [h, e]))
    obtain ⟨c, q, hk, hq⟩ := tz_spec (countV x) (by omega) (by omega)
    obtain ⟨a, b⟩ := pow_odd k c m q (by rw [h, hq])
    have e1 : lowB x = false := by unfold lowB; simp [hc]
    have e2 : lowV x = unitV x + c := by unfold lowV; rw [if_neg hc, hk]
    unfold oddB
    rw [e1, e2, hf, Bool.eq_iff_iff]
    simp
    omega


end Go.Proofs.YtjapgogiaklodaaGreatDoor
