/- The walks of the document's answers for layer 1, second part: classes, fields, last bits, whole and odd numbers (their loops). -/
import Derived.Test.YtkkccnpmcbpdnaaGreatDoorRWalks
namespace Go.Proofs.YtkkccnpmcbpdnaaGreatDoor
open Go.RowKit

set_option maxHeartbeats 400000 in
theorem rClass_calls (x : Int) (w : World) (h : U x) :
    Calls Tryz.prog 21 #[.int .u64 x] w fun e w' => e = .returned (.int .u8 (classV x)) ∧ w' = w := by
  obtain ⟨h0, h1⟩ := h
  go_enter Tryz.func21, Tryz.ntmps21
  go_wp2
  all_goals
    go_ret
    refine ⟨ret_int ?_, rfl⟩
    unfold classV expV fracV
    repeat' split
    all_goals first | rfl | (exfalso; omega) | (exfalso; simp_all <;> omega)

set_option maxHeartbeats 400000 in
theorem rSplit_calls (x : Int) (w : World) (h : U x) :
    Calls Tryz.prog 122 #[.int .u64 x] w fun e w' => e = .returned (.agg #[.bool (sgnB x), .int .i64 (expV x), .int .u64 (fracV x)]) ∧ Below w.heap.size w w' := by
  have hx := expV_bd x
  obtain ⟨h0, h1⟩ := h
  go_enter Tryz.func122, Tryz.ntmps122
  go_wp2
  exact bodyPost_ret (v := .agg #[.bool (sgnB x), .int .i64 (expV x), .int .u64 (fracV x)]) (by simp [results, Tryz.results122, go_sem, sgnB, expV, fracV]) rfl ⟨rfl, below_alloc _ _⟩

theorem field_exp (w : World) (a b c : Value) : Sem.run Tryz.prog (Instr.field 94 (.agg #[a, b, c]) 1) w = .ok b w := by kernel_rfl
theorem unit_max (x : Int) : unitV x = max (expV x) 1 - 1075 := by
  have := expV_bd x; unfold unitV; split <;> omega

set_option maxHeartbeats 400000 in
theorem rParts_calls (x : Int) (w : World) (h : U x) :
    Calls Tryz.prog 104 #[.int .u64 x] w fun e w' => e = .returned (.tuple #[.int .u64 (countV x), .int .i64 (unitV x)]) ∧ Below w.heap.size w w' := by
  have hf := fracV_bd x
  have hx := expV_bd x
  by_cases c : expV x = 0
  · have hE : Hid (unitV x = -1074) := by unfold unitV; rw [Hid, if_pos c]
    have hV : Hid (countV x = fracV x) := by unfold countV; rw [Hid, if_pos c]
    have c' : (expV x == 0) = true := by simp [c]
    clear c
    go_enter Tryz.func104, Tryz.ntmps104
    go_wp2_with (go_at_call 122; refine (rSplit_calls _ _ h).mono ?_; rintro e w1 ⟨rfl, hb⟩)
    go_ret2
    rw [hE.out, hV.out]
    exact ⟨rfl, below_trans hb (below_alloc _ _)⟩
  · have hE : Hid (unitV x = expV x - 1075) := by unfold unitV; rw [Hid, if_neg c]
    have hV : Hid (countV x = fracV x + 4503599627370496) := by unfold countV; rw [Hid, if_neg c]
    have c' : (expV x == 0) = false := by simp [c]
    clear c
    go_enter Tryz.func104, Tryz.ntmps104
    go_wp2_with (go_at_call 122; refine (rSplit_calls _ _ h).mono ?_; rintro e w1 ⟨rfl, hb⟩)
    go_region
    go_wp2
    go_ret2
    rw [hE.out, hV.out]
    exact ⟨rfl, (below_trans hb (below_alloc _ _)).drew⟩

/-! ### powers of two -/
theorem two_pow_pos (k : Nat) : (0 : Int) < 2 ^ k := Int.pow_pos (by decide)
theorem pow_odd : ∀ (k c : Nat) (m q : Int), m * 2 ^ k = 2 ^ c * (2 * q + 1) → k ≤ c ∧ (m % 2 = 1 ↔ k = c)
  | 0, c, m, q, h => by
    refine ⟨Nat.zero_le _, ?_⟩
    have h1 : m = 2 ^ c * (2 * q + 1) := by simpa using h
    cases c with
    | zero => simp at h1; omega
    | succ c =>
      rw [Int.pow_succ, Int.mul_comm (2 ^ c) 2, Int.mul_assoc] at h1
      omega
  | k + 1, c, m, q, h => by
    cases c with
    | zero =>
      exfalso
      rw [Int.pow_succ, ← Int.mul_assoc] at h
      simp at h
      omega
    | succ c =>
      have h1 : m * 2 ^ k = 2 ^ c * (2 * q + 1) := by
        have e1 : m * 2 ^ (k + 1) = m * 2 ^ k * 2 := by rw [Int.pow_succ, ← Int.mul_assoc]
        have e2 : (2 : Int) ^ (c + 1) * (2 * q + 1) = 2 * (2 ^ c * (2 * q + 1)) := by rw [Int.pow_succ, Int.mul_comm (2 ^ c) 2, Int.mul_assoc]
        rw [e1, e2] at h
        omega
      obtain ⟨a, b⟩ := pow_odd k c m q h1
      omega
theorem mul_pow_zero (m : Int) (k : Nat) (h : m * 2 ^ k = 0) : m = 0 := by
  rcases Int.mul_eq_zero.1 h with h | h
  · exact h
  · have := two_pow_pos k; omega

/-- Where the loop of Whole ends. -/
theorem whole_end (x m : Int) (k : Nat) (h : m * 2 ^ k = countV x) (h0 : 0 ≤ m) (hs : ¬ (unitV x + k < 0 ∧ 0 < m ∧ m % 2 = 0)) :
    (decide (m = 0) || decide (0 ≤ unitV x + k)) = (lowB x || decide (0 ≤ lowV x)) := by
  have cb := countV_bd x
  by_cases hm : m = 0
  · subst hm
    have hc : countV x = 0 := by rw [← h]; simp
    have : lowB x = true := by unfold lowB; simp [hc]
    simp [this]
  · have hc : countV x ≠ 0 := fun e => hm (mul_pow_zero m k (by rw [h, e]))
    obtain ⟨c, q, hk, hq⟩ := tz_spec (countV x) (by omega) (by omega)
    obtain ⟨a, b⟩ := pow_odd k c m q (by rw [h, hq])
    have e1 : lowB x = false := by unfold lowB; simp [hc]
    have e2 : lowV x = unitV x + c := by unfold lowV; rw [if_neg hc, hk]
    rw [e1, e2]
    simp only [hm, decide_false, Bool.false_or, decide_eq_decide]
    omega

/-- In the loop of Odd, behind Whole: what is halved is even. -/
theorem odd_even (x m : Int) (k : Nat) (h : m * 2 ^ k = countV x) (hw : wholeB x = true) (he : unitV x + k < 0) : m % 2 = 0 := by
  have cb := countV_bd x
  by_cases hm : m = 0
  · subst hm; rfl
  · have hc : countV x ≠ 0 := fun e => hm (mul_pow_zero m k (by rw [h, e]))
    obtain ⟨c, q, hk, hq⟩ := tz_spec (countV x) (by omega) (by omega)
    obtain ⟨a, b⟩ := pow_odd k c m q (by rw [h, hq])
    have e1 : lowB x = false := by unfold lowB; simp [hc]
    have e2 : lowV x = unitV x + c := by unfold lowV; rw [if_neg hc, hk]
    unfold wholeB at hw
    rw [e1, e2] at hw
    simp at hw
    omega

/-- Where the loop of Odd ends. -/
theorem odd_end (x m : Int) (k : Nat) (h : m * 2 ^ k = countV x) (hf : finB x = true) (he : 0 ≤ unitV x + k) :
    ((unitV x + k == 0) && (m % 2 == 1)) = oddB x := by
  have cb := countV_bd x
  by_cases hm : m = 0
  · subst hm
    have hc : countV x = 0 := by rw [← h]; simp
    have : lowB x = true := by unfold lowB; simp [hc]
    unfold oddB; rw [this]; simp
  · have hc : countV x ≠ 0 := fun e => hm (mul_pow_zero m k (by rw [h, e]))
    obtain ⟨c, q, hk, hq⟩ := tz_spec (countV x) (by omega) (by omega)
    obtain ⟨a, b⟩ := pow_odd k c m q (by rw [h, hq])
    have e1 : lowB x = false := by unfold lowB; simp [hc]
    have e2 : lowV x = unitV x + c := by unfold lowV; rw [if_neg hc, hk]
    unfold oddB
    rw [e1, e2, hf, Bool.eq_iff_iff]
    simp
    omega

set_option maxHeartbeats 1000000 in
theorem rWhole_calls (x : Int) (w : World) (h : U x) :
    Calls Tryz.prog 68 #[.int .u64 x] w fun e w' => e = .returned (.bool (wholeB x)) ∧ Below w.heap.size w w' := by
  have cb := countV_bd x
  have ub := unitV_bd x
  cases c : finB x
  · have hV : Hid (wholeB x = false) := by unfold wholeB; rw [Hid, c]; rfl
    go_enter Tryz.func68, Tryz.ntmps68
    go_wp2_with (go_at_call 17; refine (rFinite_calls _ _ h).mono ?_; rintro e w1 ⟨rfl, rfl⟩)
    go_ret
    exact ⟨ret_bool hV.out.symm, Below.refl _ _⟩
  · have hV : Hid (wholeB x = (lowB x || decide (0 ≤ lowV x))) := by unfold wholeB; rw [Hid, c]; rfl
    have E : Hid _ := whole_end x
    go_enter Tryz.func68, Tryz.ntmps68
    go_wp2_with (first | (go_at_call 17; refine (rFinite_calls _ _ h).mono ?_; rintro e w1 ⟨rfl, rfl⟩) | (go_at_call 104; refine (rParts_calls _ _ h).mono ?_; rintro e w1 ⟨rfl, hb⟩))
    go_loop [3, 4] (fun a b => ∃ (k : Nat) (m : Int), a = .int .u64 m ∧ b = .int .i64 (unitV x + k) ∧ 0 ≤ m ∧ m ≤ 9007199254740992 ∧ m * 2 ^ k = countV x ∧ k ≤ 1074) (fun _ b => (-(intOf b)).toNat)
    case atStart => exact ⟨0, countV x, rfl, by simp, by omega, by omega, by simp, by omega⟩
    case round =>
      obtain ⟨k, m, rfl, rfl, m0, m1, hm, hk⟩ := hrel
      have HM : Hid (m * 2 ^ k = countV x) := hm
      clear hm
      by_cases c1 : unitV x + k < 0
      · by_cases c2 : 0 < m
        · by_cases c3 : m % 2 = 0
          · have c3' : (m % 2 == 0) = true := by simp [c3]
            have HN : Hid (m / 2 * 2 ^ (k + 1) = countV x) := by
              rw [Hid, ← HM.out, Int.pow_succ, Int.mul_comm (2 ^ k) 2, ← Int.mul_assoc, Int.ediv_mul_cancel (Int.dvd_of_emod_eq_zero c3)]
            clear c3
            go_wp2
            go_round
            case rel => exact ⟨k + 1, m / 2, rfl, by go_num, by omega, by omega, HN.out, by omega⟩
            case measure => simp [intOf]; omega
          · have c3' : (m % 2 == 0) = false := by simp [c3]
            have HW : Hid _ := E.out m k HM.out m0 (by omega)
            clear c3
            have d0 : (m == 0) = false := by simp; omega
            go_wp2
            go_ret
            refine ⟨ret_bool ?_, hb⟩
            rw [hV.out, ← HW.out]; simp; omega
        · have HW : Hid _ := E.out m k HM.out m0 (by omega)
          have d0 : (m == 0) = true := by simp; omega
          go_wp2
          go_ret
          refine ⟨ret_bool ?_, hb⟩
          rw [hV.out, ← HW.out]; simp; omega
      · have HW : Hid _ := E.out m k HM.out m0 (by omega)
        by_cases c2 : m = 0
        · have d0 : (m == 0) = true := by simp [c2]
          clear c2
          go_wp2
          go_ret
          refine ⟨ret_bool ?_, hb⟩
          rw [hV.out, ← HW.out]; simp; omega
        · have d0 : (m == 0) = false := by simp [c2]
          clear c2
          go_wp2
          go_ret
          refine ⟨ret_bool ?_, hb⟩
          rw [hV.out, ← HW.out]; simp; omega

set_option maxHeartbeats 1000000 in
theorem rOdd_calls (x : Int) (w : World) (h : U x) :
    Calls Tryz.prog 70 #[.int .u64 x] w fun e w' => e = .returned (.bool (oddB x)) ∧ Below w.heap.size w w' := by
  have cb := countV_bd x
  have ub := unitV_bd x
  cases c : wholeB x
  · have hV : Hid (oddB x = false) := by
      rw [Hid]
      unfold oddB
      unfold wholeB at c
      cases h1 : finB x
      · rfl
      · rw [h1] at c
        simp at c
        rw [c.1]; simp; omega
    go_enter Tryz.func70, Tryz.ntmps70
    go_wp2_with (go_at_call 68; refine (rWhole_calls _ _ h).mono ?_; rintro e w1 ⟨rfl, hb⟩)
    go_ret
    exact ⟨ret_bool hV.out.symm, hb⟩
  · have hF : Hid (finB x = true) := by unfold wholeB at c; rw [Bool.and_eq_true] at c; exact c.1
    have E : Hid _ := odd_end x
    have D : Hid _ := odd_even x
    have C : Hid (wholeB x = true) := c
    go_enter Tryz.func70, Tryz.ntmps70
    go_wp2_with (first | (go_at_call 68; refine (rWhole_calls _ _ h).mono ?_; rintro e w1 ⟨rfl, hb⟩) | (go_at_call 104; refine (rParts_calls _ _ h).mono ?_; rintro e w2 ⟨rfl, hb2⟩))
    go_loop [3, 4] (fun a b => ∃ (k : Nat) (m : Int), a = .int .u64 m ∧ b = .int .i64 (unitV x + k) ∧ 0 ≤ m ∧ m ≤ 9007199254740992 ∧ m * 2 ^ k = countV x ∧ k ≤ 1074) (fun _ b => (-(intOf b)).toNat)
    case atStart => exact ⟨0, countV x, rfl, by simp, by omega, by omega, by simp, by omega⟩
    case round =>
      obtain ⟨k, m, rfl, rfl, m0, m1, hm, hk⟩ := hrel
      have HM : Hid (m * 2 ^ k = countV x) := hm
      clear hm
      by_cases c1 : unitV x + k < 0
      · have c3 := D.out m k HM.out C.out c1
        have HN : Hid (m / 2 * 2 ^ (k + 1) = countV x) := by
          rw [Hid, ← HM.out, Int.pow_succ, Int.mul_comm (2 ^ k) 2, ← Int.mul_assoc, Int.ediv_mul_cancel (Int.dvd_of_emod_eq_zero c3)]
        clear c3
        go_wp2
        go_round
        case rel => exact ⟨k + 1, m / 2, rfl, by go_num, by omega, by omega, HN.out, by omega⟩
        case measure => simp [intOf]; omega
      · have HW : Hid _ := E.out m k HM.out hF.out (by omega)
        by_cases c2 : unitV x + k = 0
        · have d0 : (unitV x + k == 0) = true := by simp [c2]
          have HV : Hid (oddB x = (m % 2 == 1)) := by rw [Hid, ← HW.out, d0]; rfl
          clear c2
          go_wp2
          go_ret
          exact ⟨ret_bool HV.out.symm, below_trans hb hb2⟩
        · have d0 : (unitV x + k == 0) = false := by simp [c2]
          have HV : Hid (oddB x = false) := by rw [Hid, ← HW.out, d0]; rfl
          clear c2
          go_wp2
          go_ret
          exact ⟨ret_bool HV.out.symm, below_trans hb hb2⟩
end Go.Proofs.YtkkccnpmcbpdnaaGreatDoor
