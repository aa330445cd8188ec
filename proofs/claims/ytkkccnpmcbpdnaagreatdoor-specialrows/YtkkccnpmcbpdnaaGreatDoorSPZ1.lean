/- The document's rows of special: the walks. -/
import Derived.Test.YtkkccnpmcbpdnaaGreatDoorSPZ0
import Derived.Test.YtkkccnpmcbpdnaaGreatDoorSPW1
import Derived.Test.YtkkccnpmcbpdnaaGreatDoorRWalks2
namespace Go.Proofs.YtkkccnpmcbpdnaaGreatDoor
open Go.RowKit

theorem abs_zero (x : Int) (h : U x) : (absV x == 0) = (classV x == 1) := by
  rw [Bool.eq_iff_iff]
  simp only [beq_iff_eq]
  constructor
  · intro e
    unfold absV U at *
    rcases (show x = 0 ∨ x = 9223372036854775808 by omega) with rfl | rfl <;> decide
  · intro c
    rcases zero_of x h c with rfl | rfl <;> decide
theorem abs_inf (x : Int) (h : U x) : (absV x == 9218868437227405312) = (classV x == 4) := by
  rw [Bool.eq_iff_iff]
  simp only [beq_iff_eq]
  constructor
  · intro e
    unfold absV U at *
    rcases (show x = 9218868437227405312 ∨ x = 18442240474082181120 by omega) with rfl | rfl <;> decide
  · intro c
    rcases inf_of x h c with rfl | rfl <;> decide
theorem sgn_and (x : Int) (h : U x) : (bits .and .u64 x 9223372036854775808 != 0) = sgnB x := by
  rw [and_sign x h]; unfold sgnB; split <;> simp_all
theorem and_sgz (x : Int) (h : U x) : bits .and .u64 x 9223372036854775808 = sgz x := by
  rw [and_sign x h]; unfold sgz sgnB
  by_cases c : 9223372036854775808 ≤ x <;> simp [c]
theorem or_sgd (b s : Int) (h : U s) (h0 : 0 ≤ b) (h1 : b < 9223372036854775808) : bits .or .u64 b (bits .and .u64 s 9223372036854775808) = sgd b s := by
  rw [and_sgz s h]
  unfold sgz sgd
  cases sgnB s
  · simp only [Bool.false_eq_true, if_false]
    rw [u64_or _ _ h0 (by omega) (by omega) (by omega)]
    simp
    omega
  · simp only [if_true]
    rw [or_top b h0 h1]
    unfold negV
    omega

set_option maxRecDepth 100000 in
set_option maxHeartbeats 1000000 in
theorem zZero_calls (x : Int) (w : World) (h : U x) : Calls Tryz.prog 31 #[.int .u64 x] w fun r w' => r = .returned (.bool (classV x == 1)) ∧ w' = w := by
  have e : Hid _ := abs_zero x h
  go_enter Tryz.func31, Tryz.ntmps31
  go_wp2_with fail
  refine Calls.mono (rAbs_calls x _ h) ?_
  rintro r w1 ⟨rfl, rfl⟩
  go_wp2_with fail
  go_ret
  exact ⟨ret_bool e.out, rfl⟩

set_option maxRecDepth 100000 in
set_option maxHeartbeats 1000000 in
theorem zInf_calls (x : Int) (w : World) (h : U x) : Calls Tryz.prog 33 #[.int .u64 x] w fun r w' => r = .returned (.bool (classV x == 4)) ∧ w' = w := by
  have e : Hid _ := abs_inf x h
  go_enter Tryz.func33, Tryz.ntmps33
  go_wp2_with fail
  refine Calls.mono (rAbs_calls x _ h) ?_
  rintro r w1 ⟨rfl, rfl⟩
  go_wp2_with fail
  go_ret
  exact ⟨ret_bool e.out, rfl⟩

set_option maxRecDepth 100000 in
set_option maxHeartbeats 1000000 in
theorem zMinus_calls (x : Int) (w : World) (h : U x) : Calls Tryz.prog 74 #[.int .u64 x] w fun r w' => r = .returned (.bool (sgnB x)) ∧ w' = w := by
  have e : Hid _ := sgn_and x h
  go_enter Tryz.func74, Tryz.ntmps74
  go_wp2_with fail
  go_ret
  exact ⟨ret_bool e.out, rfl⟩

set_option maxRecDepth 100000 in
set_option maxHeartbeats 1000000 in
theorem zSigned_calls (b s : Int) (w : World) (h : U s) (h0 : 0 ≤ b) (h1 : b < 9223372036854775808) : Calls Tryz.prog 73 #[.int .u64 b, .int .u64 s] w fun r w' => r = .returned (.int .u64 (sgd b s)) ∧ w' = w := by
  have e : Hid _ := or_sgd b s h h0 h1
  go_enter Tryz.func73, Tryz.ntmps73
  go_wp2_with fail
  go_ret
  exact ⟨ret_int e.out, rfl⟩


set_option maxRecDepth 100000 in
set_option maxHeartbeats 1000000 in
theorem zExact_calls (x : Int) (w : World) : Calls Tryz.prog 32 #[.int .u64 x] w fun r w' => r = .returned (.agg #[.int .u64 x, .int .u8 0, .int .u8 4]) ∧ Below w.heap.size w w' := by
  go_enter Tryz.func32, Tryz.ntmps32
  go_wp2_with fail
  exact bodyPost_ret (v := .agg #[.int .u64 x, .int .u8 0, .int .u8 4]) (by simp [results, Tryz.results32, go_sem]) rfl ⟨rfl, below_alloc _ _⟩


set_option maxRecDepth 100000 in
set_option maxHeartbeats 1000000 in
theorem zPole_calls (x : Int) (w : World) : Calls Tryz.prog 65 #[.int .u64 x] w fun r w' => r = .returned (.agg #[.int .u64 x, .int .u8 2, .int .u8 3]) ∧ Below w.heap.size w w' := by
  go_enter Tryz.func65, Tryz.ntmps65
  go_wp2_with fail
  exact bodyPost_ret (v := .agg #[.int .u64 x, .int .u8 2, .int .u8 3]) (by simp [results, Tryz.results65, go_sem]) rfl ⟨rfl, below_alloc _ _⟩


set_option maxRecDepth 100000 in
set_option maxHeartbeats 1000000 in
theorem zLimit_calls (x : Int) (w : World) : Calls Tryz.prog 72 #[.int .u64 x] w fun r w' => r = .returned (.agg #[.int .u64 x, .int .u8 16, .int .u8 5]) ∧ Below w.heap.size w w' := by
  go_enter Tryz.func72, Tryz.ntmps72
  go_wp2_with fail
  exact bodyPost_ret (v := .agg #[.int .u64 x, .int .u8 16, .int .u8 5]) (by simp [results, Tryz.results72, go_sem]) rfl ⟨rfl, below_alloc _ _⟩


set_option maxRecDepth 100000 in
set_option maxHeartbeats 1000000 in
theorem zDomain_calls (w : World) : Calls Tryz.prog 67 #[] w fun r w' => r = .returned (.agg #[.int .u64 9221120237041090560, .int .u8 1, .int .u8 2]) ∧ Below w.heap.size w w' := by
  go_enter Tryz.func67, Tryz.ntmps67
  go_wp2_with fail
  exact bodyPost_ret (v := .agg #[.int .u64 9221120237041090560, .int .u8 1, .int .u8 2]) (by simp [results, Tryz.results67, go_sem]) rfl ⟨rfl, below_alloc _ _⟩


set_option maxRecDepth 100000 in
set_option maxHeartbeats 1000000 in
theorem zSignal_calls (w : World) : Calls Tryz.prog 22 #[] w fun r w' => r = .returned (.agg #[.int .u64 9221120237041090560, .int .u8 1, .int .u8 1]) ∧ Below w.heap.size w w' := by
  go_enter Tryz.func22, Tryz.ntmps22
  go_wp2_with fail
  exact bodyPost_ret (v := .agg #[.int .u64 9221120237041090560, .int .u8 1, .int .u8 1]) (by simp [results, Tryz.results22, go_sem]) rfl ⟨rfl, below_alloc _ _⟩


set_option maxRecDepth 100000 in
set_option maxHeartbeats 1000000 in
theorem zQuiet_calls (w : World) : Calls Tryz.prog 23 #[] w fun r w' => r = .returned (.agg #[.int .u64 9221120237041090560, .int .u8 0, .int .u8 1]) ∧ Below w.heap.size w w' := by
  go_enter Tryz.func23, Tryz.ntmps23
  go_wp2_with fail
  exact bodyPost_ret (v := .agg #[.int .u64 9221120237041090560, .int .u8 0, .int .u8 1]) (by simp [results, Tryz.results23, go_sem]) rfl ⟨rfl, below_alloc _ _⟩


set_option maxRecDepth 100000 in
set_option maxHeartbeats 1000000 in
theorem zNone_calls (w : World) : Calls Tryz.prog 12 #[] w fun r w' => r = .returned (.agg #[.int .u64 0, .int .u8 0, .int .u8 0]) ∧ Below w.heap.size w w' := by
  go_enter Tryz.func12, Tryz.ntmps12
  go_wp2_with fail
  exact bodyPost_ret (v := .agg #[.int .u64 0, .int .u8 0, .int .u8 0]) (by simp [results, Tryz.results12, go_sem]) rfl ⟨rfl, below_alloc _ _⟩


theorem zguard {P : Program} {f : FuncId} {A : Array Value} {w : World} {Q : Ending → World → Prop} (A' : Array Value) (hA : A = A') (h : Calls P f A' w Q) : Calls P f A w Q := by rw [hA]; exact h
theorem half_nz (x : Int) (h : halfB x = true) : countV x ≠ 0 := by
  unfold halfB wholeB lowB at h
  intro e
  simp [e] at h

set_option maxRecDepth 100000 in
set_option maxHeartbeats 4000000 in
theorem zHalf_calls (x : Int) (w : World) (h : U x) : Calls Tryz.prog 69 #[.int .u64 x] w fun r w' => r = .returned (.bool (halfB x)) ∧ Below w.heap.size w w' := by
  cases hf : finB x with
  | false =>
    have HE : Hid (halfB x = false) := by rw [Hid]; unfold halfB; rw [hf]; rfl
    have FC : Hid _ := fun W => rFinite_calls x W h
    rw [hf] at FC
    rw [HE.out]
    go_enter Tryz.func69, Tryz.ntmps69
    go_wp2_with fail
    refine Calls.mono (FC.out _) ?_
    rintro r w1 ⟨rfl, rfl⟩
    go_wp2_with fail
    go_ret
    exact ⟨rfl, Below.refl _ _⟩
  | true =>
    have FC : Hid _ := fun W => rFinite_calls x W h
    rw [hf] at FC
    have WC : Hid _ := fun W => rWhole_calls x W h
    cases hw : wholeB x with
    | true =>
      have HE : Hid (halfB x = false) := by rw [Hid]; unfold halfB; rw [hw]; simp
      rw [hw] at WC
      rw [HE.out]
      go_enter Tryz.func69, Tryz.ntmps69
      go_wp2_with fail
      refine Calls.mono (FC.out _) ?_
      rintro r w1 ⟨rfl, rfl⟩
      go_wp2_with fail
      refine Calls.mono (WC.out _) ?_
      rintro r w2 ⟨rfl, b1⟩
      go_wp2_with fail
      go_ret
      exact ⟨rfl, b1⟩
    | false =>
      have hc : countV x ≠ 0 := by
        intro e
        unfold wholeB lowB at hw
        simp [hf, e] at hw
      have cb := countV_bd x
      have ub := unitV_bd x
      have HE : Hid (halfB x = (lowV x == -1)) := by rw [Hid]; unfold halfB; rw [hf, hw]; rfl
      rw [hw] at WC
      rw [HE.out]
      obtain ⟨c, q, hk, hq⟩ := tz_spec (countV x) (by omega) (by omega)
      have HL : Hid (lowV x = unitV x + c) := by rw [Hid]; unfold lowV; rw [if_neg hc, hk]
      have HQ : Hid (countV x = 2 ^ c * (2 * q + 1)) := hq
      have PC : Hid _ := fun W => rParts_calls x W h
      clear hq hk
      have H0 : Hid (0 < countV x ∧ countV x < 9007199254740992) := by rw [Hid]; omega
      generalize countV x = C at *
      generalize unitV x = Uu at *
      clear hc cb
      go_enter Tryz.func69, Tryz.ntmps69
      go_wp2_with fail
      refine Calls.mono (FC.out _) ?_
      rintro r w1 ⟨rfl, rfl⟩
      go_wp2_with fail
      refine Calls.mono (WC.out _) ?_
      rintro r w2 ⟨rfl, b1⟩
      go_wp2_with fail
      refine Calls.mono (PC.out _) ?_
      rintro r w3 ⟨rfl, b2⟩
      replace b1 := below_trans b1 b2
      clear b2
      go_wp2_with fail
      go_loop [3, 4] (fun mm ee => ∃ (m : Int) (j : Nat), mm = .int .u64 m ∧ ee = .int .i64 (Uu + j) ∧ 0 < m ∧ m < 9007199254740992 ∧ j ≤ 64 ∧ Hid (m * 2 ^ j = C)) (fun mm _ => (intOf mm).toNat)
      case atStart => exact ⟨C, 0, rfl, by simp, H0.out.1, H0.out.2, by omega, by rw [Hid]; simp⟩
      case round =>
        obtain ⟨m, j, rfl, rfl, hm0, hm1, hj, hm⟩ := hrel
        obtain ⟨hjc, hodd⟩ := pow_odd j c m q (by rw [hm.out, HQ.out])
        have HO : Hid (m % 2 = 1 ↔ j = c) := hodd
        have HJ : Hid (j ≤ c) := hjc
        clear hodd hjc
        by_cases he : m % 2 = 0
        · have he2 : m.tmod 2 = 0 := by rw [Int.tmod_eq_emod_of_nonneg (by omega)]; exact he
          have hd : m.tdiv 2 = m / 2 := Int.tdiv_eq_ediv_of_nonneg (by omega)
          have hj2 : j + 1 ≤ 64 := by
            have h1 : (m / 2) * 2 ^ (j + 1) = C := by
              rw [Int.pow_succ, Int.mul_comm (2 ^ j) 2, ← Int.mul_assoc, show m / 2 * 2 = m by omega]; exact hm.out
            by_cases hj3 : j = 64
            · exfalso
              have h3 := H0.out.2
              have h4 := hm.out
              rw [hj3] at h4
              have h5 : (1 : Int) * 2 ^ 64 ≤ m * 2 ^ 64 := Int.mul_le_mul_of_nonneg_right (by omega) (by decide)
              rw [h4] at h5
              omega
            · omega
          go_wp2_with fail
          go_round
          case rel =>
            refine ⟨m / 2, j + 1, by first | rfl | (congr 1; omega), by go_num, by omega, by omega, by omega, ?_⟩
            rw [Hid, Int.pow_succ, Int.mul_comm (2 ^ j) 2, ← Int.mul_assoc, show m / 2 * 2 = m by omega]
            exact hm.out
          case measure => simp [intOf]; omega
        · have he1 : m % 2 = 1 := by omega
          have he2 : m.tmod 2 = 1 := by rw [Int.tmod_eq_emod_of_nonneg (by omega)]; exact he1
          have HJC : Hid (j = c) := HO.out.1 he1
          go_wp2_with fail
          go_ret
          exact ⟨ret_bool (by rw [HL.out, HJC.out]), b1⟩


set_option maxRecDepth 100000 in
set_option maxHeartbeats 4000000 in
theorem zBelow_calls (x : Int) (w : World) (h : U x) (hc : countV x ≠ 0) : Calls Tryz.prog 71 #[.int .u64 x] w fun r w' => r = .returned (.bool (dBelow x)) ∧ Below w.heap.size w w' := by
  have cb := countV_bd x
  have ub := unitV_bd x
  obtain ⟨c, q, hk, hq⟩ := tz_spec (countV x) (by omega) (by omega)
  have hoh : oddH x = decide ((2 * (q : Int) + 1) % 4 = 3) := by
    unfold oddH
    rw [hk, Int.toNat_natCast]
    have e : countV x / 2 ^ c = 2 * q + 1 := by
      rw [hq, Int.mul_ediv_cancel_left _ (Int.ne_of_gt (Int.pow_pos (by decide)))]
    rw [e]
  have HQ : Hid (countV x = 2 ^ c * (2 * q + 1)) := hq
  have HD : Hid (dBelow x = if sgnB x then decide ((2 * (q : Int) + 1) % 4 = 3) else !decide ((2 * (q : Int) + 1) % 4 = 3)) := by rw [Hid]; unfold dBelow; rw [hoh]
  have PC : Hid _ := fun W => rParts_calls x W h
  have MC : Hid _ := fun W => zMinus_calls x W h
  clear hq hk hoh
  have H0 : Hid (0 < countV x ∧ countV x < 9007199254740992) := by rw [Hid]; omega
  generalize countV x = C at *
  generalize unitV x = Uu at *
  generalize sgnB x = sg at *
  generalize dBelow x = B at *
  clear hc cb
  go_enter Tryz.func71, Tryz.ntmps71
  go_wp2_with fail
  refine Calls.mono (PC.out _) ?_
  rintro r w3 ⟨rfl, b1⟩
  go_wp2_with fail
  go_loop [3, 4] (fun mm ee => ∃ (m : Int) (j : Nat), mm = .int .u64 m ∧ ee = .int .i64 (Uu + j) ∧ 0 < m ∧ m < 9007199254740992 ∧ j ≤ 64 ∧ Hid (m * 2 ^ j = C)) (fun mm _ => (intOf mm).toNat)
  case atStart => exact ⟨C, 0, rfl, by simp, H0.out.1, H0.out.2, by omega, by rw [Hid]; simp⟩
  case round =>
    obtain ⟨m, j, rfl, rfl, hm0, hm1, hj, hm⟩ := hrel
    obtain ⟨hjc, hodd⟩ := pow_odd j c m q (by rw [hm.out, HQ.out])
    have HO : Hid (m % 2 = 1 ↔ j = c) := hodd
    have HJ : Hid (j ≤ c) := hjc
    clear hodd hjc
    by_cases he : m % 2 = 0
    · have he2 : m.tmod 2 = 0 := by rw [Int.tmod_eq_emod_of_nonneg (by omega)]; exact he
      have hd : m.tdiv 2 = m / 2 := Int.tdiv_eq_ediv_of_nonneg (by omega)
      have hj2 : j + 1 ≤ 64 := by
        by_cases hj3 : j = 64
        · exfalso
          have h3 := H0.out.2
          have h4 := hm.out
          rw [hj3] at h4
          have h5 : (1 : Int) * 2 ^ 64 ≤ m * 2 ^ 64 := Int.mul_le_mul_of_nonneg_right (by omega) (by decide)
          rw [h4] at h5
          omega
        · omega
      go_wp2_with fail
      go_round
      case rel =>
        refine ⟨m / 2, j + 1, by first | rfl | (congr 1; omega), by go_num, by omega, by omega, by omega, ?_⟩
        rw [Hid, Int.pow_succ, Int.mul_comm (2 ^ j) 2, ← Int.mul_assoc, show m / 2 * 2 = m by omega]
        exact hm.out
      case measure => simp [intOf]; omega
    · have he1 : m % 2 = 1 := by omega
      have he2 : m.tmod 2 = 1 := by rw [Int.tmod_eq_emod_of_nonneg (by omega)]; exact he1
      have hme : m = 2 * q + 1 := by
        have h1 := hm.out
        rw [HQ.out, HO.out.1 he1, Int.mul_comm] at h1
        exact Int.eq_of_mul_eq_mul_left (Int.ne_of_gt (Int.pow_pos (by decide))) h1
      have HM : Hid (B = if sg then decide (m % 4 = 3) else !decide (m % 4 = 3)) := by rw [Hid, HD.out, hme]
      clear hme
      have h4 : m.tmod 4 = m % 4 := Int.tmod_eq_emod_of_nonneg (by omega)
      by_cases c1 : m % 4 = 1
      · have h41 : m.tmod 4 = 1 := by rw [h4]; exact c1
        clear h4
        go_wp2_with fail
        refine Calls.mono (MC.out _) ?_
        rintro r w4 ⟨rfl, rfl⟩
        cases sg
        · go_wp2_with fail
          go_ret
          exact ⟨ret_bool (by rw [HM.out]; simp [c1]), b1⟩
        · go_wp2_with fail
          go_ret
          exact ⟨ret_bool (by rw [HM.out]; simp [c1]), b1⟩
      · have c3 : m % 4 = 3 := by omega
        have h41 : m.tmod 4 = 3 := by rw [h4]; exact c3
        clear h4
        go_wp2_with fail
        refine Calls.mono (MC.out _) ?_
        rintro r w4 ⟨rfl, rfl⟩
        cases sg
        · go_wp2_with fail
          go_ret
          exact ⟨ret_bool (by rw [HM.out]; simp [c3]), b1⟩
        · go_wp2_with fail
          go_ret
          exact ⟨ret_bool (by rw [HM.out]; simp [c3]), b1⟩


set_option maxRecDepth 100000 in
set_option maxHeartbeats 8000000 in
theorem dExps_calls (x : Int) (less : Bool) (w : World) (h : U x) : Calls Tryz.prog 24 #[.int .u64 x, .bool less] w fun r w' => r = .returned (.agg #[.int .u64 (dExps x less).1, .int .u8 (dExps x less).2.1, .int .u8 (dExps x less).2.2]) ∧ Below w.heap.size w w' := by
  have bA := below_alloc w (.cells #[.int .u64 0, .int .u8 0, .int .u8 0] 43)
  have z0 : (w.alloc (.cells #[.int .u64 0, .int .u8 0, .int .u8 0] 43)).cell? ⟨w.heap.size, 0, none⟩ = some (.int .u64 0) := by go_simp
  have z1 : (w.alloc (.cells #[.int .u64 0, .int .u8 0, .int .u8 0] 43)).cell? ⟨w.heap.size, 1, none⟩ = some (.int .u8 0) := by go_simp
  have z2 : (w.alloc (.cells #[.int .u64 0, .int .u8 0, .int .u8 0] 43)).cell? ⟨w.heap.size, 2, none⟩ = some (.int .u8 0) := by go_simp
  have f0 : (w.alloc (.cells #[.int .u64 0, .int .u8 0, .int .u8 0] 43)).frozen? ⟨w.heap.size, 0, none⟩ = false := by go_simp
  have f1 : (w.alloc (.cells #[.int .u64 0, .int .u8 0, .int .u8 0] 43)).frozen? ⟨w.heap.size, 1, none⟩ = false := by go_simp
  have f2 : (w.alloc (.cells #[.int .u64 0, .int .u8 0, .int .u8 0] 43)).frozen? ⟨w.heap.size, 2, none⟩ = false := by go_simp
  obtain ⟨R, hR⟩ : ∃ R, R = dExps x less := ⟨_, rfl⟩
  rw [← hR]
  have HR : Hid (R = dExps x less) := hR
  clear hR
  go_enter Tryz.func24, Tryz.ntmps24
  go_wp2_with (first
    | (go_at_call 31; refine (zZero_calls _ _ h).mono ?_; rintro r w9 ⟨rfl, rfl⟩)
    | (go_at_call 32; refine (zExact_calls _ _).mono ?_; rintro r w9 ⟨rfl, b1⟩; replace f0 := pfroz b1 z0 f0; replace f1 := pfroz b1 z1 f1; replace f2 := pfroz b1 z2 f2; replace z0 := pcell b1 z0; replace z1 := pcell b1 z1; replace z2 := pcell b1 z2; replace bA := below_trans bA b1; clear b1)
    | (go_at_call 65; refine (zPole_calls _ _).mono ?_; rintro r w9 ⟨rfl, b1⟩; replace f0 := pfroz b1 z0 f0; replace f1 := pfroz b1 z1 f1; replace f2 := pfroz b1 z2 f2; replace z0 := pcell b1 z0; replace z1 := pcell b1 z1; replace z2 := pcell b1 z2; replace bA := below_trans bA b1; clear b1)
    | (go_at_call 72; refine (zLimit_calls _ _).mono ?_; rintro r w9 ⟨rfl, b1⟩; replace f0 := pfroz b1 z0 f0; replace f1 := pfroz b1 z1 f1; replace f2 := pfroz b1 z2 f2; replace z0 := pcell b1 z0; replace z1 := pcell b1 z1; replace z2 := pcell b1 z2; replace bA := below_trans bA b1; clear b1)
    | (go_at_call 67; refine (zDomain_calls _).mono ?_; rintro r w9 ⟨rfl, b1⟩; replace f0 := pfroz b1 z0 f0; replace f1 := pfroz b1 z1 f1; replace f2 := pfroz b1 z2 f2; replace z0 := pcell b1 z0; replace z1 := pcell b1 z1; replace z2 := pcell b1 z2; replace bA := below_trans bA b1; clear b1)
    | (go_at_call 12; refine (zNone_calls _).mono ?_; rintro r w9 ⟨rfl, b1⟩; replace f0 := pfroz b1 z0 f0; replace f1 := pfroz b1 z1 f1; replace f2 := pfroz b1 z2 f2; replace z0 := pcell b1 z0; replace z1 := pcell b1 z1; replace z2 := pcell b1 z2; replace bA := below_trans bA b1; clear b1))
  all_goals
    have hv := HR.out
    unfold dExps at hv
    simp_all [rE]
    refine bodyPost_ret ?_ rfl ⟨rfl, ?_⟩
    · simp [results, Tryz.results24, go_sem, z0, z1, z2]
    · repeat (first | (with_reducible exact bA) | (with_reducible refine Below.setCell ?_ (by simp) _))


set_option maxRecDepth 100000 in
set_option maxHeartbeats 8000000 in
theorem dLogs_true_calls (x : Int) (w : World) (h : U x) : Calls Tryz.prog 25 #[.int .u64 x, .bool true] w fun r w' => r = .returned (.agg #[.int .u64 (dLogs x true).1, .int .u8 (dLogs x true).2.1, .int .u8 (dLogs x true).2.2]) ∧ Below w.heap.size w w' := by
  have bA := below_alloc w (.cells #[.int .u64 0, .int .u8 0, .int .u8 0] 43)
  have z0 : (w.alloc (.cells #[.int .u64 0, .int .u8 0, .int .u8 0] 43)).cell? ⟨w.heap.size, 0, none⟩ = some (.int .u64 0) := by go_simp
  have z1 : (w.alloc (.cells #[.int .u64 0, .int .u8 0, .int .u8 0] 43)).cell? ⟨w.heap.size, 1, none⟩ = some (.int .u8 0) := by go_simp
  have z2 : (w.alloc (.cells #[.int .u64 0, .int .u8 0, .int .u8 0] 43)).cell? ⟨w.heap.size, 2, none⟩ = some (.int .u8 0) := by go_simp
  have f0 : (w.alloc (.cells #[.int .u64 0, .int .u8 0, .int .u8 0] 43)).frozen? ⟨w.heap.size, 0, none⟩ = false := by go_simp
  have f1 : (w.alloc (.cells #[.int .u64 0, .int .u8 0, .int .u8 0] 43)).frozen? ⟨w.heap.size, 1, none⟩ = false := by go_simp
  have f2 : (w.alloc (.cells #[.int .u64 0, .int .u8 0, .int .u8 0] 43)).frozen? ⟨w.heap.size, 2, none⟩ = false := by go_simp
  obtain ⟨R, hR⟩ : ∃ R, R = dLogs x true := ⟨_, rfl⟩
  rw [← hR]
  have HR : Hid (R = dLogs x true) := hR
  clear hR
  go_enter Tryz.func25, Tryz.ntmps25
  go_wp2_with (first
    | (go_at_call 31; refine (zZero_calls _ _ h).mono ?_; rintro r w9 ⟨rfl, rfl⟩)
    | (go_at_call 66; refine (rLess_calls _ _ _ h ⟨by decide, by decide⟩).mono ?_; rintro r w9 ⟨rfl, rfl⟩)
    | (go_at_call 32; refine (zExact_calls _ _).mono ?_; rintro r w9 ⟨rfl, b1⟩; replace f0 := pfroz b1 z0 f0; replace f1 := pfroz b1 z1 f1; replace f2 := pfroz b1 z2 f2; replace z0 := pcell b1 z0; replace z1 := pcell b1 z1; replace z2 := pcell b1 z2; replace bA := below_trans bA b1; clear b1)
    | (go_at_call 65; refine (zPole_calls _ _).mono ?_; rintro r w9 ⟨rfl, b1⟩; replace f0 := pfroz b1 z0 f0; replace f1 := pfroz b1 z1 f1; replace f2 := pfroz b1 z2 f2; replace z0 := pcell b1 z0; replace z1 := pcell b1 z1; replace z2 := pcell b1 z2; replace bA := below_trans bA b1; clear b1)
    | (go_at_call 72; refine (zLimit_calls _ _).mono ?_; rintro r w9 ⟨rfl, b1⟩; replace f0 := pfroz b1 z0 f0; replace f1 := pfroz b1 z1 f1; replace f2 := pfroz b1 z2 f2; replace z0 := pcell b1 z0; replace z1 := pcell b1 z1; replace z2 := pcell b1 z2; replace bA := below_trans bA b1; clear b1)
    | (go_at_call 67; refine (zDomain_calls _).mono ?_; rintro r w9 ⟨rfl, b1⟩; replace f0 := pfroz b1 z0 f0; replace f1 := pfroz b1 z1 f1; replace f2 := pfroz b1 z2 f2; replace z0 := pcell b1 z0; replace z1 := pcell b1 z1; replace z2 := pcell b1 z2; replace bA := below_trans bA b1; clear b1)
    | (go_at_call 12; refine (zNone_calls _).mono ?_; rintro r w9 ⟨rfl, b1⟩; replace f0 := pfroz b1 z0 f0; replace f1 := pfroz b1 z1 f1; replace f2 := pfroz b1 z2 f2; replace z0 := pcell b1 z0; replace z1 := pcell b1 z1; replace z2 := pcell b1 z2; replace bA := below_trans bA b1; clear b1))
  all_goals
    have hv := HR.out
    unfold dLogs at hv
    simp_all [rE, rD, rP]
    refine bodyPost_ret ?_ rfl ⟨rfl, ?_⟩
    · simp [results, Tryz.results25, go_sem, z0, z1, z2]
    · repeat (first | (with_reducible exact bA) | (with_reducible refine Below.setCell ?_ (by simp) _))


set_option maxRecDepth 100000 in
set_option maxHeartbeats 8000000 in
theorem dLogs_false_calls (x : Int) (w : World) (h : U x) : Calls Tryz.prog 25 #[.int .u64 x, .bool false] w fun r w' => r = .returned (.agg #[.int .u64 (dLogs x false).1, .int .u8 (dLogs x false).2.1, .int .u8 (dLogs x false).2.2]) ∧ Below w.heap.size w w' := by
  have bA := below_alloc w (.cells #[.int .u64 0, .int .u8 0, .int .u8 0] 43)
  have z0 : (w.alloc (.cells #[.int .u64 0, .int .u8 0, .int .u8 0] 43)).cell? ⟨w.heap.size, 0, none⟩ = some (.int .u64 0) := by go_simp
  have z1 : (w.alloc (.cells #[.int .u64 0, .int .u8 0, .int .u8 0] 43)).cell? ⟨w.heap.size, 1, none⟩ = some (.int .u8 0) := by go_simp
  have z2 : (w.alloc (.cells #[.int .u64 0, .int .u8 0, .int .u8 0] 43)).cell? ⟨w.heap.size, 2, none⟩ = some (.int .u8 0) := by go_simp
  have f0 : (w.alloc (.cells #[.int .u64 0, .int .u8 0, .int .u8 0] 43)).frozen? ⟨w.heap.size, 0, none⟩ = false := by go_simp
  have f1 : (w.alloc (.cells #[.int .u64 0, .int .u8 0, .int .u8 0] 43)).frozen? ⟨w.heap.size, 1, none⟩ = false := by go_simp
  have f2 : (w.alloc (.cells #[.int .u64 0, .int .u8 0, .int .u8 0] 43)).frozen? ⟨w.heap.size, 2, none⟩ = false := by go_simp
  obtain ⟨R, hR⟩ : ∃ R, R = dLogs x false := ⟨_, rfl⟩
  rw [← hR]
  have HR : Hid (R = dLogs x false) := hR
  clear hR
  go_enter Tryz.func25, Tryz.ntmps25
  go_wp2_with (first
    | (go_at_call 31; refine (zZero_calls _ _ h).mono ?_; rintro r w9 ⟨rfl, rfl⟩)
    | (go_at_call 66; refine (rLess_calls _ _ _ h ⟨by decide, by decide⟩).mono ?_; rintro r w9 ⟨rfl, rfl⟩)
    | (go_at_call 32; refine (zExact_calls _ _).mono ?_; rintro r w9 ⟨rfl, b1⟩; replace f0 := pfroz b1 z0 f0; replace f1 := pfroz b1 z1 f1; replace f2 := pfroz b1 z2 f2; replace z0 := pcell b1 z0; replace z1 := pcell b1 z1; replace z2 := pcell b1 z2; replace bA := below_trans bA b1; clear b1)
    | (go_at_call 65; refine (zPole_calls _ _).mono ?_; rintro r w9 ⟨rfl, b1⟩; replace f0 := pfroz b1 z0 f0; replace f1 := pfroz b1 z1 f1; replace f2 := pfroz b1 z2 f2; replace z0 := pcell b1 z0; replace z1 := pcell b1 z1; replace z2 := pcell b1 z2; replace bA := below_trans bA b1; clear b1)
    | (go_at_call 72; refine (zLimit_calls _ _).mono ?_; rintro r w9 ⟨rfl, b1⟩; replace f0 := pfroz b1 z0 f0; replace f1 := pfroz b1 z1 f1; replace f2 := pfroz b1 z2 f2; replace z0 := pcell b1 z0; replace z1 := pcell b1 z1; replace z2 := pcell b1 z2; replace bA := below_trans bA b1; clear b1)
    | (go_at_call 67; refine (zDomain_calls _).mono ?_; rintro r w9 ⟨rfl, b1⟩; replace f0 := pfroz b1 z0 f0; replace f1 := pfroz b1 z1 f1; replace f2 := pfroz b1 z2 f2; replace z0 := pcell b1 z0; replace z1 := pcell b1 z1; replace z2 := pcell b1 z2; replace bA := below_trans bA b1; clear b1)
    | (go_at_call 12; refine (zNone_calls _).mono ?_; rintro r w9 ⟨rfl, b1⟩; replace f0 := pfroz b1 z0 f0; replace f1 := pfroz b1 z1 f1; replace f2 := pfroz b1 z2 f2; replace z0 := pcell b1 z0; replace z1 := pcell b1 z1; replace z2 := pcell b1 z2; replace bA := below_trans bA b1; clear b1))
  all_goals
    have hv := HR.out
    unfold dLogs at hv
    simp_all [rE, rD, rP]
    refine bodyPost_ret ?_ rfl ⟨rfl, ?_⟩
    · simp [results, Tryz.results25, go_sem, z0, z1, z2]
    · repeat (first | (with_reducible exact bA) | (with_reducible refine Below.setCell ?_ (by simp) _))


set_option maxRecDepth 100000 in
set_option maxHeartbeats 8000000 in
theorem dTurns_calls (f x : Int) (w : World) (h : U x) : Calls Tryz.prog 26 #[.int .u8 f, .int .u64 x] w fun r w' => r = .returned (.agg #[.int .u64 (dTurns f x).1, .int .u8 (dTurns f x).2.1, .int .u8 (dTurns f x).2.2]) ∧ Below w.heap.size w w' := by
  have bA := below_alloc w (.cells #[.int .u64 0, .int .u8 0, .int .u8 0] 43)
  have z0 : (w.alloc (.cells #[.int .u64 0, .int .u8 0, .int .u8 0] 43)).cell? ⟨w.heap.size, 0, none⟩ = some (.int .u64 0) := by go_simp
  have z1 : (w.alloc (.cells #[.int .u64 0, .int .u8 0, .int .u8 0] 43)).cell? ⟨w.heap.size, 1, none⟩ = some (.int .u8 0) := by go_simp
  have z2 : (w.alloc (.cells #[.int .u64 0, .int .u8 0, .int .u8 0] 43)).cell? ⟨w.heap.size, 2, none⟩ = some (.int .u8 0) := by go_simp
  have f0 : (w.alloc (.cells #[.int .u64 0, .int .u8 0, .int .u8 0] 43)).frozen? ⟨w.heap.size, 0, none⟩ = false := by go_simp
  have f1 : (w.alloc (.cells #[.int .u64 0, .int .u8 0, .int .u8 0] 43)).frozen? ⟨w.heap.size, 1, none⟩ = false := by go_simp
  have f2 : (w.alloc (.cells #[.int .u64 0, .int .u8 0, .int .u8 0] 43)).frozen? ⟨w.heap.size, 2, none⟩ = false := by go_simp
  obtain ⟨R, hR⟩ : ∃ R, R = dTurns f x := ⟨_, rfl⟩
  rw [← hR]
  have HR : Hid (R = dTurns f x) := hR
  clear hR
  go_enter Tryz.func26, Tryz.ntmps26
  go_wp2_with (first
    | (go_at_call 33; refine (zInf_calls _ _ h).mono ?_; rintro r w9 ⟨rfl, rfl⟩)
    | (go_at_call 31; refine (zZero_calls _ _ h).mono ?_; rintro r w9 ⟨rfl, rfl⟩)
    | (go_at_call 32; refine (zExact_calls _ _).mono ?_; rintro r w9 ⟨rfl, b1⟩; replace f0 := pfroz b1 z0 f0; replace f1 := pfroz b1 z1 f1; replace f2 := pfroz b1 z2 f2; replace z0 := pcell b1 z0; replace z1 := pcell b1 z1; replace z2 := pcell b1 z2; replace bA := below_trans bA b1; clear b1)
    | (go_at_call 65; refine (zPole_calls _ _).mono ?_; rintro r w9 ⟨rfl, b1⟩; replace f0 := pfroz b1 z0 f0; replace f1 := pfroz b1 z1 f1; replace f2 := pfroz b1 z2 f2; replace z0 := pcell b1 z0; replace z1 := pcell b1 z1; replace z2 := pcell b1 z2; replace bA := below_trans bA b1; clear b1)
    | (go_at_call 72; refine (zLimit_calls _ _).mono ?_; rintro r w9 ⟨rfl, b1⟩; replace f0 := pfroz b1 z0 f0; replace f1 := pfroz b1 z1 f1; replace f2 := pfroz b1 z2 f2; replace z0 := pcell b1 z0; replace z1 := pcell b1 z1; replace z2 := pcell b1 z2; replace bA := below_trans bA b1; clear b1)
    | (go_at_call 67; refine (zDomain_calls _).mono ?_; rintro r w9 ⟨rfl, b1⟩; replace f0 := pfroz b1 z0 f0; replace f1 := pfroz b1 z1 f1; replace f2 := pfroz b1 z2 f2; replace z0 := pcell b1 z0; replace z1 := pcell b1 z1; replace z2 := pcell b1 z2; replace bA := below_trans bA b1; clear b1)
    | (go_at_call 12; refine (zNone_calls _).mono ?_; rintro r w9 ⟨rfl, b1⟩; replace f0 := pfroz b1 z0 f0; replace f1 := pfroz b1 z1 f1; replace f2 := pfroz b1 z2 f2; replace z0 := pcell b1 z0; replace z1 := pcell b1 z1; replace z2 := pcell b1 z2; replace bA := below_trans bA b1; clear b1))
  all_goals
    have hv := HR.out
    unfold dTurns at hv
    simp_all [rE, rD]
    refine bodyPost_ret ?_ rfl ⟨rfl, ?_⟩
    · simp [results, Tryz.results26, go_sem, z0, z1, z2]
    · repeat (first | (with_reducible exact bA) | (with_reducible refine Below.setCell ?_ (by simp) _))


set_option maxRecDepth 100000 in
set_option maxHeartbeats 8000000 in
theorem dHalves_calls (f x : Int) (w : World) (h : U x) : Calls Tryz.prog 27 #[.int .u8 f, .int .u64 x] w fun r w' => r = .returned (.agg #[.int .u64 (dHalves f x).1, .int .u8 (dHalves f x).2.1, .int .u8 (dHalves f x).2.2]) ∧ Below w.heap.size w w' := by
  have bA := below_alloc w (.cells #[.int .u64 0, .int .u8 0, .int .u8 0] 43)
  have z0 : (w.alloc (.cells #[.int .u64 0, .int .u8 0, .int .u8 0] 43)).cell? ⟨w.heap.size, 0, none⟩ = some (.int .u64 0) := by go_simp
  have z1 : (w.alloc (.cells #[.int .u64 0, .int .u8 0, .int .u8 0] 43)).cell? ⟨w.heap.size, 1, none⟩ = some (.int .u8 0) := by go_simp
  have z2 : (w.alloc (.cells #[.int .u64 0, .int .u8 0, .int .u8 0] 43)).cell? ⟨w.heap.size, 2, none⟩ = some (.int .u8 0) := by go_simp
  have f0 : (w.alloc (.cells #[.int .u64 0, .int .u8 0, .int .u8 0] 43)).frozen? ⟨w.heap.size, 0, none⟩ = false := by go_simp
  have f1 : (w.alloc (.cells #[.int .u64 0, .int .u8 0, .int .u8 0] 43)).frozen? ⟨w.heap.size, 1, none⟩ = false := by go_simp
  have f2 : (w.alloc (.cells #[.int .u64 0, .int .u8 0, .int .u8 0] 43)).frozen? ⟨w.heap.size, 2, none⟩ = false := by go_simp
  have hz := and_sgz x h
  have hz2 := xor_sign (sgz x) (by unfold sgz; split <;> exact ⟨by decide, by decide⟩)
  have HNZ : Hid (halfB x = true → countV x ≠ 0) := half_nz x
  obtain ⟨R, hR⟩ : ∃ R, R = dHalves f x := ⟨_, rfl⟩
  rw [← hR]
  have HR : Hid (R = dHalves f x) := hR
  clear hR
  go_enter Tryz.func27, Tryz.ntmps27
  go_wp2_with (first
    | (go_at_call 33; refine (zInf_calls _ _ h).mono ?_; rintro r w9 ⟨rfl, rfl⟩)
    | (go_at_call 68; refine (rWhole_calls _ _ h).mono ?_; rintro r w9 ⟨rfl, b1⟩; replace f0 := pfroz b1 z0 f0; replace f1 := pfroz b1 z1 f1; replace f2 := pfroz b1 z2 f2; replace z0 := pcell b1 z0; replace z1 := pcell b1 z1; replace z2 := pcell b1 z2; replace bA := below_trans bA b1; clear b1)
    | (go_at_call 69; refine (zHalf_calls _ _ h).mono ?_; rintro r w9 ⟨rfl, b1⟩; replace f0 := pfroz b1 z0 f0; replace f1 := pfroz b1 z1 f1; replace f2 := pfroz b1 z2 f2; replace z0 := pcell b1 z0; replace z1 := pcell b1 z1; replace z2 := pcell b1 z2; replace bA := below_trans bA b1; clear b1)
    | (go_at_call 70; refine (rOdd_calls _ _ h).mono ?_; rintro r w9 ⟨rfl, b1⟩; replace f0 := pfroz b1 z0 f0; replace f1 := pfroz b1 z1 f1; replace f2 := pfroz b1 z2 f2; replace z0 := pcell b1 z0; replace z1 := pcell b1 z1; replace z2 := pcell b1 z2; replace bA := below_trans bA b1; clear b1)
    | (go_at_call 71; refine (zBelow_calls _ _ h (HNZ.out (by first | assumption | simp_all))).mono ?_; rintro r w9 ⟨rfl, b1⟩; replace f0 := pfroz b1 z0 f0; replace f1 := pfroz b1 z1 f1; replace f2 := pfroz b1 z2 f2; replace z0 := pcell b1 z0; replace z1 := pcell b1 z1; replace z2 := pcell b1 z2; replace bA := below_trans bA b1; clear b1)
    | (go_at_call 32; refine (zExact_calls _ _).mono ?_; rintro r w9 ⟨rfl, b1⟩; replace f0 := pfroz b1 z0 f0; replace f1 := pfroz b1 z1 f1; replace f2 := pfroz b1 z2 f2; replace z0 := pcell b1 z0; replace z1 := pcell b1 z1; replace z2 := pcell b1 z2; replace bA := below_trans bA b1; clear b1)
    | (go_at_call 65; refine (zPole_calls _ _).mono ?_; rintro r w9 ⟨rfl, b1⟩; replace f0 := pfroz b1 z0 f0; replace f1 := pfroz b1 z1 f1; replace f2 := pfroz b1 z2 f2; replace z0 := pcell b1 z0; replace z1 := pcell b1 z1; replace z2 := pcell b1 z2; replace bA := below_trans bA b1; clear b1)
    | (go_at_call 72; refine (zLimit_calls _ _).mono ?_; rintro r w9 ⟨rfl, b1⟩; replace f0 := pfroz b1 z0 f0; replace f1 := pfroz b1 z1 f1; replace f2 := pfroz b1 z2 f2; replace z0 := pcell b1 z0; replace z1 := pcell b1 z1; replace z2 := pcell b1 z2; replace bA := below_trans bA b1; clear b1)
    | (go_at_call 67; refine (zDomain_calls _).mono ?_; rintro r w9 ⟨rfl, b1⟩; replace f0 := pfroz b1 z0 f0; replace f1 := pfroz b1 z1 f1; replace f2 := pfroz b1 z2 f2; replace z0 := pcell b1 z0; replace z1 := pcell b1 z1; replace z2 := pcell b1 z2; replace bA := below_trans bA b1; clear b1)
    | (go_at_call 12; refine (zNone_calls _).mono ?_; rintro r w9 ⟨rfl, b1⟩; replace f0 := pfroz b1 z0 f0; replace f1 := pfroz b1 z1 f1; replace f2 := pfroz b1 z2 f2; replace z0 := pcell b1 z0; replace z1 := pcell b1 z1; replace z2 := pcell b1 z2; replace bA := below_trans bA b1; clear b1))
  all_goals
    have hv := HR.out
    unfold dHalves at hv
    simp_all [rE, rD, rP]
    refine bodyPost_ret ?_ rfl ⟨rfl, ?_⟩
    · simp [results, Tryz.results27, go_sem, z0, z1, z2]
    · repeat (first | (with_reducible exact bA) | (with_reducible refine Below.setCell ?_ (by simp) _))


set_option maxRecDepth 100000 in
set_option maxHeartbeats 8000000 in
theorem dInverse_calls (f x : Int) (w : World) (h : U x) : Calls Tryz.prog 28 #[.int .u8 f, .int .u64 x] w fun r w' => r = .returned (.agg #[.int .u64 (dInverse f x).1, .int .u8 (dInverse f x).2.1, .int .u8 (dInverse f x).2.2]) ∧ Below w.heap.size w w' := by
  have bA := below_alloc w (.cells #[.int .u64 0, .int .u8 0, .int .u8 0] 43)
  have z0 : (w.alloc (.cells #[.int .u64 0, .int .u8 0, .int .u8 0] 43)).cell? ⟨w.heap.size, 0, none⟩ = some (.int .u64 0) := by go_simp
  have z1 : (w.alloc (.cells #[.int .u64 0, .int .u8 0, .int .u8 0] 43)).cell? ⟨w.heap.size, 1, none⟩ = some (.int .u8 0) := by go_simp
  have z2 : (w.alloc (.cells #[.int .u64 0, .int .u8 0, .int .u8 0] 43)).cell? ⟨w.heap.size, 2, none⟩ = some (.int .u8 0) := by go_simp
  have f0 : (w.alloc (.cells #[.int .u64 0, .int .u8 0, .int .u8 0] 43)).frozen? ⟨w.heap.size, 0, none⟩ = false := by go_simp
  have f1 : (w.alloc (.cells #[.int .u64 0, .int .u8 0, .int .u8 0] 43)).frozen? ⟨w.heap.size, 1, none⟩ = false := by go_simp
  have f2 : (w.alloc (.cells #[.int .u64 0, .int .u8 0, .int .u8 0] 43)).frozen? ⟨w.heap.size, 2, none⟩ = false := by go_simp
  obtain ⟨R, hR⟩ : ∃ R, R = dInverse f x := ⟨_, rfl⟩
  rw [← hR]
  have HR : Hid (R = dInverse f x) := hR
  clear hR
  go_enter Tryz.func28, Tryz.ntmps28
  go_wp2_with (first
    | (go_at_call 31; refine (zZero_calls _ _ h).mono ?_; rintro r w9 ⟨rfl, rfl⟩)
    | (go_at_call 33; refine (zInf_calls _ _ h).mono ?_; rintro r w9 ⟨rfl, rfl⟩)
    | (go_at_call 36; refine (rAbs_calls _ _ h).mono ?_; rintro r w9 ⟨rfl, rfl⟩)
    | (go_at_call 66; refine (rLess_calls _ _ _ ⟨by decide, by decide⟩ (U_abs _ h)).mono ?_; rintro r w9 ⟨rfl, rfl⟩)
    | (go_at_call 73; refine (zSigned_calls _ _ _ h (by decide) (by decide)).mono ?_; rintro r w9 ⟨rfl, rfl⟩)
    | (go_at_call 32; refine (zExact_calls _ _).mono ?_; rintro r w9 ⟨rfl, b1⟩; replace f0 := pfroz b1 z0 f0; replace f1 := pfroz b1 z1 f1; replace f2 := pfroz b1 z2 f2; replace z0 := pcell b1 z0; replace z1 := pcell b1 z1; replace z2 := pcell b1 z2; replace bA := below_trans bA b1; clear b1)
    | (go_at_call 65; refine (zPole_calls _ _).mono ?_; rintro r w9 ⟨rfl, b1⟩; replace f0 := pfroz b1 z0 f0; replace f1 := pfroz b1 z1 f1; replace f2 := pfroz b1 z2 f2; replace z0 := pcell b1 z0; replace z1 := pcell b1 z1; replace z2 := pcell b1 z2; replace bA := below_trans bA b1; clear b1)
    | (go_at_call 72; refine (zLimit_calls _ _).mono ?_; rintro r w9 ⟨rfl, b1⟩; replace f0 := pfroz b1 z0 f0; replace f1 := pfroz b1 z1 f1; replace f2 := pfroz b1 z2 f2; replace z0 := pcell b1 z0; replace z1 := pcell b1 z1; replace z2 := pcell b1 z2; replace bA := below_trans bA b1; clear b1)
    | (go_at_call 67; refine (zDomain_calls _).mono ?_; rintro r w9 ⟨rfl, b1⟩; replace f0 := pfroz b1 z0 f0; replace f1 := pfroz b1 z1 f1; replace f2 := pfroz b1 z2 f2; replace z0 := pcell b1 z0; replace z1 := pcell b1 z1; replace z2 := pcell b1 z2; replace bA := below_trans bA b1; clear b1)
    | (go_at_call 12; refine (zNone_calls _).mono ?_; rintro r w9 ⟨rfl, b1⟩; replace f0 := pfroz b1 z0 f0; replace f1 := pfroz b1 z1 f1; replace f2 := pfroz b1 z2 f2; replace z0 := pcell b1 z0; replace z1 := pcell b1 z1; replace z2 := pcell b1 z2; replace bA := below_trans bA b1; clear b1))
  all_goals
    have hv := HR.out
    unfold dInverse at hv
    simp_all [rE, rD, rL]
    refine bodyPost_ret ?_ rfl ⟨rfl, ?_⟩
    · simp [results, Tryz.results28, go_sem, z0, z1, z2]
    · repeat (first | (with_reducible exact bA) | (with_reducible refine Below.setCell ?_ (by simp) _))


set_option maxRecDepth 100000 in
set_option maxHeartbeats 8000000 in
theorem dHypers_calls (f x : Int) (w : World) (h : U x) : Calls Tryz.prog 30 #[.int .u8 f, .int .u64 x] w fun r w' => r = .returned (.agg #[.int .u64 (dHypers f x).1, .int .u8 (dHypers f x).2.1, .int .u8 (dHypers f x).2.2]) ∧ Below w.heap.size w w' := by
  have bA := below_alloc w (.cells #[.int .u64 0, .int .u8 0, .int .u8 0] 43)
  have z0 : (w.alloc (.cells #[.int .u64 0, .int .u8 0, .int .u8 0] 43)).cell? ⟨w.heap.size, 0, none⟩ = some (.int .u64 0) := by go_simp
  have z1 : (w.alloc (.cells #[.int .u64 0, .int .u8 0, .int .u8 0] 43)).cell? ⟨w.heap.size, 1, none⟩ = some (.int .u8 0) := by go_simp
  have z2 : (w.alloc (.cells #[.int .u64 0, .int .u8 0, .int .u8 0] 43)).cell? ⟨w.heap.size, 2, none⟩ = some (.int .u8 0) := by go_simp
  have f0 : (w.alloc (.cells #[.int .u64 0, .int .u8 0, .int .u8 0] 43)).frozen? ⟨w.heap.size, 0, none⟩ = false := by go_simp
  have f1 : (w.alloc (.cells #[.int .u64 0, .int .u8 0, .int .u8 0] 43)).frozen? ⟨w.heap.size, 1, none⟩ = false := by go_simp
  have f2 : (w.alloc (.cells #[.int .u64 0, .int .u8 0, .int .u8 0] 43)).frozen? ⟨w.heap.size, 2, none⟩ = false := by go_simp
  obtain ⟨R, hR⟩ : ∃ R, R = dHypers f x := ⟨_, rfl⟩
  rw [← hR]
  have HR : Hid (R = dHypers f x) := hR
  clear hR
  go_enter Tryz.func30, Tryz.ntmps30
  go_wp2_with (first
    | (go_at_call 31; refine (zZero_calls _ _ h).mono ?_; rintro r w9 ⟨rfl, rfl⟩)
    | (go_at_call 33; refine (zInf_calls _ _ h).mono ?_; rintro r w9 ⟨rfl, rfl⟩)
    | (go_at_call 66; refine (rLess_calls _ _ _ h ⟨by decide, by decide⟩).mono ?_; rintro r w9 ⟨rfl, rfl⟩)
    | (go_at_call 73; refine (zSigned_calls _ _ _ h (by decide) (by decide)).mono ?_; rintro r w9 ⟨rfl, rfl⟩)
    | (go_at_call 32; refine (zExact_calls _ _).mono ?_; rintro r w9 ⟨rfl, b1⟩; replace f0 := pfroz b1 z0 f0; replace f1 := pfroz b1 z1 f1; replace f2 := pfroz b1 z2 f2; replace z0 := pcell b1 z0; replace z1 := pcell b1 z1; replace z2 := pcell b1 z2; replace bA := below_trans bA b1; clear b1)
    | (go_at_call 65; refine (zPole_calls _ _).mono ?_; rintro r w9 ⟨rfl, b1⟩; replace f0 := pfroz b1 z0 f0; replace f1 := pfroz b1 z1 f1; replace f2 := pfroz b1 z2 f2; replace z0 := pcell b1 z0; replace z1 := pcell b1 z1; replace z2 := pcell b1 z2; replace bA := below_trans bA b1; clear b1)
    | (go_at_call 72; refine (zLimit_calls _ _).mono ?_; rintro r w9 ⟨rfl, b1⟩; replace f0 := pfroz b1 z0 f0; replace f1 := pfroz b1 z1 f1; replace f2 := pfroz b1 z2 f2; replace z0 := pcell b1 z0; replace z1 := pcell b1 z1; replace z2 := pcell b1 z2; replace bA := below_trans bA b1; clear b1)
    | (go_at_call 67; refine (zDomain_calls _).mono ?_; rintro r w9 ⟨rfl, b1⟩; replace f0 := pfroz b1 z0 f0; replace f1 := pfroz b1 z1 f1; replace f2 := pfroz b1 z2 f2; replace z0 := pcell b1 z0; replace z1 := pcell b1 z1; replace z2 := pcell b1 z2; replace bA := below_trans bA b1; clear b1)
    | (go_at_call 12; refine (zNone_calls _).mono ?_; rintro r w9 ⟨rfl, b1⟩; replace f0 := pfroz b1 z0 f0; replace f1 := pfroz b1 z1 f1; replace f2 := pfroz b1 z2 f2; replace z0 := pcell b1 z0; replace z1 := pcell b1 z1; replace z2 := pcell b1 z2; replace bA := below_trans bA b1; clear b1))
  all_goals
    have hv := HR.out
    unfold dHypers at hv
    simp_all [rE, rD]
    refine bodyPost_ret ?_ rfl ⟨rfl, ?_⟩
    · simp [results, Tryz.results30, go_sem, z0, z1, z2]
    · repeat (first | (with_reducible exact bA) | (with_reducible refine Below.setCell ?_ (by simp) _))


set_option maxRecDepth 100000 in
set_option maxHeartbeats 8000000 in
theorem dOthers_calls (f x : Int) (w : World) (h : U x) : Calls Tryz.prog 29 #[.int .u8 f, .int .u64 x] w fun r w' => r = .returned (.agg #[.int .u64 (dOthers f x).1, .int .u8 (dOthers f x).2.1, .int .u8 (dOthers f x).2.2]) ∧ Below w.heap.size w w' := by
  have bA := below_alloc w (.cells #[.int .u64 0, .int .u8 0, .int .u8 0] 43)
  have z0 : (w.alloc (.cells #[.int .u64 0, .int .u8 0, .int .u8 0] 43)).cell? ⟨w.heap.size, 0, none⟩ = some (.int .u64 0) := by go_simp
  have z1 : (w.alloc (.cells #[.int .u64 0, .int .u8 0, .int .u8 0] 43)).cell? ⟨w.heap.size, 1, none⟩ = some (.int .u8 0) := by go_simp
  have z2 : (w.alloc (.cells #[.int .u64 0, .int .u8 0, .int .u8 0] 43)).cell? ⟨w.heap.size, 2, none⟩ = some (.int .u8 0) := by go_simp
  have f0 : (w.alloc (.cells #[.int .u64 0, .int .u8 0, .int .u8 0] 43)).frozen? ⟨w.heap.size, 0, none⟩ = false := by go_simp
  have f1 : (w.alloc (.cells #[.int .u64 0, .int .u8 0, .int .u8 0] 43)).frozen? ⟨w.heap.size, 1, none⟩ = false := by go_simp
  have f2 : (w.alloc (.cells #[.int .u64 0, .int .u8 0, .int .u8 0] 43)).frozen? ⟨w.heap.size, 2, none⟩ = false := by go_simp
  obtain ⟨R, hR⟩ : ∃ R, R = dOthers f x := ⟨_, rfl⟩
  rw [← hR]
  have HR : Hid (R = dOthers f x) := hR
  clear hR
  go_enter Tryz.func29, Tryz.ntmps29
  go_wp2_with (first
    | (go_at_call 31; refine (zZero_calls _ _ h).mono ?_; rintro r w9 ⟨rfl, rfl⟩)
    | (go_at_call 36; refine (rAbs_calls _ _ h).mono ?_; rintro r w9 ⟨rfl, rfl⟩)
    | (go_at_call 74; refine (zMinus_calls _ _ h).mono ?_; rintro r w9 ⟨rfl, rfl⟩)
    | (go_at_call 66; refine (rLess_calls _ _ _ ⟨by decide, by decide⟩ (U_abs _ h)).mono ?_; rintro r w9 ⟨rfl, rfl⟩)
    | (go_at_call 73; refine (zSigned_calls _ _ _ h (by decide) (by decide)).mono ?_; rintro r w9 ⟨rfl, rfl⟩)
    | (go_at_call 32; refine (zExact_calls _ _).mono ?_; rintro r w9 ⟨rfl, b1⟩; replace f0 := pfroz b1 z0 f0; replace f1 := pfroz b1 z1 f1; replace f2 := pfroz b1 z2 f2; replace z0 := pcell b1 z0; replace z1 := pcell b1 z1; replace z2 := pcell b1 z2; replace bA := below_trans bA b1; clear b1)
    | (go_at_call 65; refine (zPole_calls _ _).mono ?_; rintro r w9 ⟨rfl, b1⟩; replace f0 := pfroz b1 z0 f0; replace f1 := pfroz b1 z1 f1; replace f2 := pfroz b1 z2 f2; replace z0 := pcell b1 z0; replace z1 := pcell b1 z1; replace z2 := pcell b1 z2; replace bA := below_trans bA b1; clear b1)
    | (go_at_call 72; refine (zLimit_calls _ _).mono ?_; rintro r w9 ⟨rfl, b1⟩; replace f0 := pfroz b1 z0 f0; replace f1 := pfroz b1 z1 f1; replace f2 := pfroz b1 z2 f2; replace z0 := pcell b1 z0; replace z1 := pcell b1 z1; replace z2 := pcell b1 z2; replace bA := below_trans bA b1; clear b1)
    | (go_at_call 67; refine (zDomain_calls _).mono ?_; rintro r w9 ⟨rfl, b1⟩; replace f0 := pfroz b1 z0 f0; replace f1 := pfroz b1 z1 f1; replace f2 := pfroz b1 z2 f2; replace z0 := pcell b1 z0; replace z1 := pcell b1 z1; replace z2 := pcell b1 z2; replace bA := below_trans bA b1; clear b1)
    | (go_at_call 12; refine (zNone_calls _).mono ?_; rintro r w9 ⟨rfl, b1⟩; replace f0 := pfroz b1 z0 f0; replace f1 := pfroz b1 z1 f1; replace f2 := pfroz b1 z2 f2; replace z0 := pcell b1 z0; replace z1 := pcell b1 z1; replace z2 := pcell b1 z2; replace bA := below_trans bA b1; clear b1))
  all_goals
    have hv := HR.out
    unfold dOthers at hv
    simp_all [rE, rD, rP]
    refine bodyPost_ret ?_ rfl ⟨rfl, ?_⟩
    · simp [results, Tryz.results29, go_sem, z0, z1, z2]
    · repeat (first | (with_reducible exact bA) | (with_reducible refine Below.setCell ?_ (by simp) _))

end Go.Proofs.YtkkccnpmcbpdnaaGreatDoor
