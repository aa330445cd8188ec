/- The walks of the document's answers for layer 1, second part: classes, fields, last bits, whole and odd numbers (their loops). -/
import Derived.Test.YtcoeaanhjclgbaaDoorRWalks
namespace Go.Proofs.YtcoeaanhjclgbaaDoor
open Go.RowKit

set_option maxHeartbeats 400000 in
theorem rSplit_calls (x : Int) (w : World) (h : U x) :
    Calls Tryd.prog 48 #[.int .u64 x] w fun e w' => e = .returned (.agg #[.bool (sgnB x), .int .i64 (expV x), .int .u64 (fracV x)]) ∧ Below w.heap.size w w' := by
  have hx := expV_bd x
  obtain ⟨h0, h1⟩ := h
  go_enter Tryd.func48, Tryd.ntmps48
  go_wp2
  exact bodyPost_ret (v := .agg #[.bool (sgnB x), .int .i64 (expV x), .int .u64 (fracV x)]) (by simp [results, Tryd.results48, go_sem, sgnB, expV, fracV]) rfl ⟨rfl, below_alloc _ _⟩

set_option maxHeartbeats 400000 in
theorem rJoin_calls (s : Bool) (e f : Int) (w : World) (h2 : U f) :
    Calls Tryd.prog 56 #[.agg #[.bool s, .int .i64 e, .int .u64 f]] w fun r w' => r = .returned (.tuple #[.int .u64 (joinV s e f), .int .i64 (joinE e f)]) ∧ Below w.heap.size w w' := by
  by_cases c : e < 0 ∨ 2047 < e ∨ 4503599627370495 < f
  · have hE : Hid (joinE e f = 2) := by unfold joinE; rw [Hid, if_pos c]
    have hV : Hid (joinV s e f = 0) := by unfold joinV; rw [Hid, hE.out]; rfl
    obtain ⟨h0, h1⟩ := h2
    by_cases c1 : e < 0
    all_goals by_cases c2 : 2047 < e
    all_goals by_cases c3 : 4503599627370496 ≤ f
    all_goals first
      | omega
      | (clear c
         go_enter Tryd.func56, Tryd.ntmps56
         go_wp2
         go_ret2
         rw [hE.out, hV.out]
         exact ⟨rfl, below_alloc _ _⟩)
  · obtain ⟨h0, h1⟩ := h2
    have c1 : 0 ≤ e := by omega
    have c2 : e ≤ 2047 := by omega
    have c3 : f ≤ 4503599627370495 := by omega
    have hE : Hid (joinE e f = 0) := by unfold joinE; rw [Hid, if_neg c]
    have hV : Hid (joinV s e f = (if s then 9223372036854775808 else 0) + e * 4503599627370496 + f) := by unfold joinV; rw [Hid, hE.out]; rfl
    clear c
    cases s
    · go_enter Tryd.func56, Tryd.ntmps56
      go_wp2
      go_ret2
      refine ⟨?_, below_alloc _ _⟩
      rw [hE.out, hV.out]
      simp
    · go_enter Tryd.func56, Tryd.ntmps56
      go_wp2
      go_ret2
      refine ⟨?_, below_alloc _ _⟩
      rw [hE.out, hV.out]
      simp
      omega

theorem field_exp (w : World) (a b c : Value) : Sem.run Tryd.prog (Instr.field 60 (.agg #[a, b, c]) 1) w = .ok b w := by kernel_rfl
theorem unit_max (x : Int) : unitV x = max (expV x) 1 - 1075 := by
  have := expV_bd x; unfold unitV; split <;> omega

/-! ### powers of two -/
theorem two_pow_pos (k : Nat) : (0 : Int) < 2 ^ k := Int.pow_pos (by decide)
theorem pow_odd : ∀ (k c : Nat) (m q : Int), m * 2 ^ k = 2 ^ c * (2 * q + 1) → k ≤ c ∧ (m % 2 = 1 ↔ k = c)
  | 0, c, m, q, h => by
    refine ⟨Nat.zero_le _, ?_⟩
    have h1 : m = 2 ^ c * (2 * q + 1) := by simpa using h
    cases c with
    | zero => simp at h1; omega
    | succ c =>
      rw [Int.pow_succ, Int.mul_comm (2 ^ c) 2, Int.mul_assoc] at h1
      omega
  | k + 1, c, m, q, h => by
    cases c with
    | zero =>
      exfalso
      rw [Int.pow_succ, ← Int.mul_assoc] at h
      simp at h
      omega
    | succ c =>
      have h1 : m * 2 ^ k = 2 ^ c * (2 * q + 1) := by
        have e1 : m * 2 ^ (k + 1) = m * 2 ^ k * 2 := by rw [Int.pow_succ, ← Int.mul_assoc]
        have e2 : (2 : Int) ^ (c + 1) * (2 * q + 1) = 2 * (2 ^ c * (2 * q + 1)) := by rw [Int.pow_succ, Int.mul_comm (2 ^ c) 2, Int.mul_assoc]
        rw [e1, e2] at h
        omega
      obtain ⟨a, b⟩ := pow_odd k c m q h1
      omega
theorem mul_pow_zero (m : Int) (k : Nat) (h : m * 2 ^ k = 0) : m = 0 := by
  rcases Int.mul_eq_zero.1 h with h | h
  · exact h
  · have := two_pow_pos k; omega

/-- Where the loop of Whole ends. -/
theorem whole_end (x m : Int) (k : Nat) (h : m * 2 ^ k = countV x) (h0 : 0 ≤ m) (hs : ¬ (unitV x + k < 0 ∧ 0 < m ∧ m % 2 = 0)) :
    (decide (m = 0) || decide (0 ≤ unitV x + k)) = (lowB x || decide (0 ≤ lowV x)) := by
  have cb := countV_bd x
  by_cases hm : m = 0
  · subst hm
    have hc : countV x = 0 := by rw [← h]; simp
    have : lowB x = true := by unfold lowB; simp [hc]
    simp [this]
  · have hc : countV x ≠ 0 := fun e => hm (mul_pow_zero m k (by rw [h, e]))
    obtain ⟨c, q, hk, hq⟩ := tz_spec (countV x) (by omega) (by omega)
    obtain ⟨a, b⟩ := pow_odd k c m q (by rw [h, hq])
    have e1 : lowB x = false := by unfold lowB; simp [hc]
    have e2 : lowV x = unitV x + c := by unfold lowV; rw [if_neg hc, hk]
    rw [e1, e2]
    simp only [hm, decide_false, Bool.false_or, decide_eq_decide]
    omega

/-- In the loop of Odd, behind Whole: what is halved is even. -/
theorem odd_even (x m : Int) (k : Nat) (h : m * 2 ^ k = countV x) (hw : wholeB x = true) (he : unitV x + k < 0) : m % 2 = 0 := by
  have cb := countV_bd x
  by_cases hm : m = 0
  · subst hm; rfl
  · have hc : countV x ≠ 0 := fun e => hm (mul_pow_zero m k (by rw [h, e]))
    obtain ⟨c, q, hk, hq⟩ := tz_spec (countV x) (by omega) (by omega)
    obtain ⟨a, b⟩ := pow_odd k c m q (by rw [h, hq])
    have e1 : lowB x = false := by unfold lowB; simp [hc]
    have e2 : lowV x = unitV x + c := by unfold lowV; rw [if_neg hc, hk]
    unfold wholeB at hw
    rw [e1, e2] at hw
    simp at hw
    omega

/-- Where the loop of Odd ends. -/
theorem odd_end (x m : Int) (k : Nat) (h : m * 2 ^ k = countV x) (hf : finB x = true) (he : 0 ≤ unitV x + k) :
    ((unitV x + k == 0) && (m % 2 == 1)) = oddB x := by
  have cb := countV_bd x
  by_cases hm : m = 0
  · subst hm
    have hc : countV x = 0 := by rw [← h]; simp
    have : lowB x = true := by unfold lowB; simp [hc]
    unfold oddB; rw [this]; simp
  · have hc : countV x ≠ 0 := fun e => hm (mul_pow_zero m k (by rw [h, e]))
    obtain ⟨c, q, hk, hq⟩ := tz_spec (countV x) (by omega) (by omega)
    obtain ⟨a, b⟩ := pow_odd k c m q (by rw [h, hq])
    have e1 : lowB x = false := by unfold lowB; simp [hc]
    have e2 : lowV x = unitV x + c := by unfold lowV; rw [if_neg hc, hk]
    unfold oddB
    rw [e1, e2, hf, Bool.eq_iff_iff]
    simp
    omega