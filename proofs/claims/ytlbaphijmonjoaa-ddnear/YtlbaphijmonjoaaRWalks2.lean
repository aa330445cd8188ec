/- The walks of the document's answers for layer 1, second part: classes, fields, last bits, whole and odd numbers (their loops). -/
import Derived.Test.YtlbaphijmonjoaaRWalks
namespace Go.Proofs.Ytlbaphijmonjoaa
open Go.RowKit


set_option maxHeartbeats 400000 in
theorem rSplit_calls (x : Int) (w : World) (h : U x) :
    Calls Try.prog 46 #[.int .u64 x] w fun e w' => e = .returned (.agg #[.bool (sgnB x), .int .i64 (expV x), .int .u64 (fracV x)]) ∧ Below w.heap.size w w' := by
  have hx := expV_bd x
  obtain ⟨h0, h1⟩ := h
  go_enter Try.func46, Try.ntmps46
  go_wp2
  exact bodyPost_ret (v := .agg #[.bool (sgnB x), .int .i64 (expV x), .int .u64 (fracV x)]) (by simp [results, Try.results46, go_sem, sgnB, expV, fracV]) rfl ⟨rfl, below_alloc _ _⟩


theorem field_exp (w : World) (a b c : Value) : Sem.run Try.prog (Instr.field 68 (.agg #[a, b, c]) 1) w = .ok b w := by kernel_rfl
theorem unit_max (x : Int) : unitV x = max (expV x) 1 - 1075 := by
  have := expV_bd x; unfold unitV; split <;> omega



/-! ### powers of two -/
theorem two_pow_pos (k : Nat) : (0 : Int) < 2 ^ k := Int.pow_pos (by decide)
theorem pow_odd : ∀ (k c : Nat) (m q : Int), m * 2 ^ k = 2 ^ c * (2 * q + 1) → k ≤ c ∧ (m % 2 = 1 ↔ k = c)
  | 0, c, m, q, h => by
    refine ⟨Nat.zero_le _, ?_⟩
    have h1 : m = 2 ^ c * (2 * q + 1) := by simpa using h
    cases c with
    | zero => simp at h1; omega
    | succ c =>
      rw [Int.pow_succ, Int.mul_comm (2 ^ c) 2, Int.mul_assoc] at h1
      omega
  | k + 1, c, m, q, h => by
    cases c with
    | zero =>
      exfalso
      rw [Int.pow_succ, ← Int.mul_assoc] at h
      simp at h
      omega
    | succ c =>
      have h1 : m * 2 ^ k = 2 ^ c * (2 * q + 1) := by
        have e1 : m * 2 ^ (k + 1) = m * 2 ^ k * 2 := by rw [Int.pow_succ, ← Int.mul_assoc]
        have e2 : (2 : Int) ^ (c + 1) * (2 * q + 1) = 2 * (2 ^ c * (2 * q + 1)) := by rw [Int.pow_succ, Int.mul_comm (2 ^ c) 2, Int.mul_assoc]
        rw [e1, e2] at h
        omega
      obtain ⟨a, b⟩ := pow_odd k c m q h1
      omega
theorem mul_pow_zero (m : Int) (k : Nat) (h : m * 2 ^ k = 0) : m = 0 := by
  rcases Int.mul_eq_zero.1 h with h | h
  · exact h
  · have := two_pow_pos k; omega

/-- Where the loop of Whole ends. -/
theorem whole_end (x m : Int) (k : Nat) (h : m * 2 ^ k = countV x) (h0 : 0 ≤ m) (hs : ¬ (unitV x + k < 0 ∧ 0 < m ∧ m % 2 = 0)) :
    (decide (m = 0) || decide (0 ≤ unitV x + k)) = (lowB x || decide (0 ≤ lowV x)) := by
  have cb := countV_bd x
  by_cases hm : m = 0
  · subst hm
    have hc : countV x = 0 := by rw [← h]; simp
    have : lowB x = true := by unfold lowB; simp [hc]
    simp [this]
  · have hc : countV x ≠ 0 := fun e => hm (mul_pow_zero m k (by rw [h, e]))
    obtain ⟨c, q, hk, hq⟩ := tz_spec (countV x) (by omega) (by omega)
    obtain ⟨a, b⟩ := pow_odd k c m q (by rw [h, hq])
    have e1 : lowB x = false := by unfold lowB; simp [hc]
    have e2 : lowV x = unitV x + c := by unfold lowV; rw [if_neg hc, hk]
    rw [e1, e2]
    simp only [hm, decide_false, Bool.false_or, decide_eq_decide]
    omega

/-- In the loop of Odd, behind Whole: what is halved is even. -/
theorem odd_even (x m : Int) (k : Nat) (h : m * 2 ^ k = countV x) (hw : wholeB x = true) (he : unitV x + k < 0) : m % 2 = 0 := by
  have cb := countV_bd x
  by_cases hm : m = 0
  · subst hm; rfl
  · have hc : countV x ≠ 0 := fun e => hm (mul_pow_zero m k (by rw [h, e]))
    obtain ⟨c, q, hk, hq⟩ := tz_spec (countV x) (by omega) (by omega)
    obtain ⟨a, b⟩ := pow_odd k c m q (by rw [h, hq])
    have e1 : lowB x = false := by unfold lowB; simp [hc]
    have e2 : lowV x = unitV x + c := by unfold lowV; rw [if_neg hc, hk]
    unfold wholeB at hw
    rw [e1, e2] at hw
    simp at hw
    omega

/-- Where the loop of Odd ends. -/
theorem odd_end (x m : Int) (k : Nat) (h : m * 2 ^ k = countV x) (hf : finB x = true) (he : 0 ≤ unitV x + k) :
    ((unitV x + k == 0) && (m % 2 == 1)) = oddB x := by
  have cb := countV_bd x
  by_cases hm : m = 0
  · subst hm
    have hc : countV x = 0 := by rw [← h]; simp
    have : lowB x = true := by unfold lowB; simp [hc]
    unfold oddB; rw [this]; simp
  · have hc : countV x ≠ 0 := fun e => hm (mul_pow_zero m k (by rw [h, e]))
    obtain ⟨c, q, hk, hq⟩ := tz_spec (countV x) (by omega) (by omega)
    obtain ⟨a, b⟩ := pow_odd k c m q (by rw [h, hq])
    have e1 : lowB x = false := by unfold lowB; simp [hc]
    have e2 : lowV x = unitV x + c := by unfold lowV; rw [if_neg hc, hk]
    unfold oddB
    rw [e1, e2, hf, Bool.eq_iff_iff]
    simp
    omega


end Go.Proofs.Ytlbaphijmonjoaa
