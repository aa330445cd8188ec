/- The document's constants, by their number; their bits. -/
import Derived.Test.YtkkldnnndlpblaaGreatDoorCDY
import Derived.Test.YtkkldnnndlpblaaGreatDoorCFZ
import Derived.Test.YtkkldnnndlpblaaGreatDoorCK7
import Derived.Test.YtkkldnnndlpblaaGreatDoorNTX
namespace Go.Proofs.YtkkldnnndlpblaaGreatDoor
open Go.RowKit Ck

theorem g_size (k q : Nat) (h1 : 1 ≤ k) (h7 : k ≤ 7) (hq : 40 ≤ q) (hq2 : q ≤ 8300) : gA k q + gE k q ≤ 2 ^ (q + 12) ∧ gE k q ≤ 2 ^ 51 := by
  by_cases h0 : ov k = 0
  · have h4 : k ≤ 4 := by unfold ov at h0; split at h0; · omega
                          split at h0; · omega
                          split at h0 <;> omega
    obtain ⟨_, _, f3, _, f5⟩ := f_in k q 0 h1 h4 hq
    unfold gA gE
    rw [if_pos h0, if_pos h0]
    have e1 : (2 : Nat) ^ (q + 12) = 128 * 2 ^ (q + 5) := by rw [show q + 12 = q + 5 + 7 by omega, Nat.pow_add, Nat.mul_comm]
    have e2 : (2 : Nat) ^ 20 ≤ 2 ^ (q + 5) := Nat.pow_le_pow_right (by decide) (by omega)
    have e3 : (2 : Nat) ^ 20 = 1048576 := by decide
    have e4 : (2 : Nat) ^ 51 = 2251799813685248 := by decide
    generalize 2 ^ (q + 5) = z at *
    omega
  · have hj : 1 ≤ ov k ∧ ov k ≤ 4 := by have := ov_cases k; omega
    obtain ⟨_, _, _, f4, _⟩ := f_in (ov k) q 0 hj.1 hj.2 hq
    obtain ⟨g1, g2, g3⟩ := g_facts k q hq hq2 h0
    rw [g2]
    have h3 : 2 ^ (2 * q) / fA (ov k) q ≤ 2 ^ (q + 11) := by
      refine Nat.div_le_of_le_mul ?_
      calc 2 ^ (2 * q) = 2 ^ (q - 11) * 2 ^ (q + 11) := by rw [← Nat.pow_add]; congr 1; omega
        _ ≤ fA (ov k) q * 2 ^ (q + 11) := Nat.mul_le_mul_right _ f4
    have eB : gB k q ≤ 2 ^ (2 * q) / fA (ov k) q + 1 := by unfold gB; split <;> omega
    have e1 : (2 : Nat) ^ (q + 12) = 2 * 2 ^ (q + 11) := by rw [show q + 12 = q + 11 + 1 by omega, Nat.pow_succ, Nat.mul_comm]
    have e2 : 1 ≤ (2 : Nat) ^ (q + 11) := Nat.pow_pos (by decide)
    generalize 2 ^ (q + 11) = z at *
    generalize (2 : Nat) ^ 51 = y at *
    omega

theorem quot_calls (k : Nat) {q : Nat} (hk : ov k ≠ 0) (hq : q ≤ 8300) (hq4 : 40 ≤ q) (e1 e2 : Nat) (h1 : e1 = 0) (h2 : e2 = fE (ov k) q) {w : World} {a a' : Option Addr} {n c n' c' : Nat} (hX : IsW w a n c (wordsOf (2 ^ q))) (hn : n ≤ 1024) (hY : IsW w a' n' c' (wordsOf (fA (ov k) q))) (hn' : n' ≤ 1024) :
    Calls Tryz.prog 76 #[.agg #[.slice a n c, .int .u64 (e1 : Int)], .agg #[.slice a' n' c', .int .u64 (e2 : Int)], .int .i64 (q : Int)] w fun r w' => ∃ (ao : Option Addr) (m d e : Nat), r = .returned (.agg #[.slice ao m d, .int .u64 (e : Int)]) ∧ Hid (e = gE k q) ∧ m ≤ 1024 ∧ OwnW w.heap.size w' ao m d (wordsOf (gA k q)) ∧ Below w.heap.size w w' := by
  have hj : 1 ≤ ov k ∧ ov k ≤ 4 := by have := ov_cases k; omega
  obtain ⟨_, _, f3, f4, f5⟩ := f_in (ov k) q 0 hj.1 hj.2 hq4
  obtain ⟨g1, g2, g3⟩ := g_facts k q hq4 hq hk
  have a0 : 0 < fA (ov k) q := Nat.lt_of_lt_of_le (Nat.pow_pos (by decide)) f4
  have e2q : 2 ^ (2 * q) = 2 ^ q * 2 ^ q := by rw [← Nat.pow_add]; congr 1; omega
  have p0 : (2 : Nat) ^ q < 2 ^ (q + 1) := Nat.pow_lt_pow_right (by decide) (by omega)
  have p1 : (2 : Nat) ^ (2 * q) + 1 < 2 ^ (2 * q + 1) := by
    rw [Nat.pow_succ]
    have : 1 < (2 : Nat) ^ (2 * q) := Nat.one_lt_two_pow (by omega)
    omega
  have p2 : fA (ov k) q + e2 < 2 ^ (q + 6) := by
    have t1 : (2 : Nat) ^ (q + 6) = 2 * 2 ^ (q + 5) := by rw [show q + 6 = q + 5 + 1 by omega, Nat.pow_succ, Nat.mul_comm]
    have t2 : (2 : Nat) ^ 20 ≤ 2 ^ (q + 5) := Nat.pow_le_pow_right (by decide) (by omega)
    have t3 : (2 : Nat) ^ 20 = 1048576 := by decide
    generalize (2 : Nat) ^ (q + 5) = z at *
    omega
  have hE : gE k q = gB k q - gA k q := by omega
  have hs : gB k q - gA k q < 18446744073709551616 := by
    have t : (2 : Nat) ^ 51 = 2251799813685248 := by decide
    omega
  subst h1
  refine Calls.mono (fxDiv 0 e2 q (gA k q) (gB k q) w hX hn hY hn' (by omega) (by decide) (by omega) ?_ (cf_great p2 (by omega)) (cf_great (k := q + 1) p0 (by omega)) (by omega) ?_ ?_ g3 hs) ?_
  · show greatB (2 ^ q * 2 ^ q + 1) = false
    rw [← e2q]
    exact cf_great p1 (by omega)
  · rw [h2, ← e2q]
    unfold gA
    rw [if_neg hk]
  · show gB k q = 2 ^ q * 2 ^ q / _ + (if 2 ^ q * 2 ^ q % _ = 0 then 0 else 1)
    rw [← e2q]
    rfl
  · rintro r w' ⟨ao, m, d, e, rfl, he, h3, h4, h5⟩
    exact ⟨ao, m, d, e, rfl, (by show e = _; rw [he.out, hE]), h3, h4, h5⟩

set_option maxRecDepth 100000 in
set_option maxHeartbeats 4000000 in
theorem docConst1 (q : Nat) (hq : q ≤ 8300) (hq4 : 40 ≤ q) (w : World) :
    Calls Tryz.prog 41 #[.int .u8 ((1 : Nat) : Int), .int .i64 (q : Int)] w fun r w' => ∃ (ao : Option Addr) (m d e : Nat), r = .returned (.agg #[.slice ao m d, .int .u64 (e : Int)]) ∧ Hid (e = gE 1 q) ∧ m ≤ 1024 ∧ OwnW w.heap.size w' ao m d (wordsOf (gA 1 q)) ∧ Below w.heap.size w w' := by
  have bA := below_alloc w (.cells #[.slice none 0 0, .int .u64 0] 74)
  have C6 := fx_zero (fun _ => False) w.heap.size w
  go_enter Tryz.func41, Tryz.ntmps41
  go_wp2_with fail
  have cz := C6.lt
  generalize w.alloc (.cells #[.slice none 0 0, .int .u64 0] 74) = v at *
  have b0 : Below v.heap.size v v := Below.refl _ _
  refine Calls.mono (docPi_calls q hq hq4 v) ?_
  rintro r wL ⟨aL, mL, cL, eL, rfl, heL, hmL, hOL, bL⟩
  replace b0 := below_trans b0 bL
  have zbL := bL.size
  obtain ⟨a0, n0, c0, z0, f0, z1, f1, -⟩ := C6.keepB b0
  have bz := b0.size
  go_wp2_with fail
  have KF := ks_two (fun k => k = w.heap.size) wL w.heap.size rfl (.slice aL mL cL) (.int .u64 (eL : Int))
  refine bodyPost_ret (v := .agg #[.slice aL mL cL, .int .u64 (eL : Int)]) (by simp [results, Tryz.results41, go_sem, z0, z1]) rfl ⟨aL, mL, cL, eL, rfl, heL, hmL, ?_, ?_⟩
  · have hO2 := hOL.keepS (S := fun k => k = w.heap.size) (hOL.nw.noS (fun b (e : b = w.heap.size) => by omega)) KF
    exact hO2.low (by omega)
  · exact (bA.trans (b0.mono (by omega))).trans (KF.below w.heap.size (by omega) (fun b (e : b = w.heap.size) => by omega))

set_option maxRecDepth 100000 in
set_option maxHeartbeats 4000000 in
theorem docConst2 (q : Nat) (hq : q ≤ 8300) (hq4 : 40 ≤ q) (w : World) :
    Calls Tryz.prog 41 #[.int .u8 ((2 : Nat) : Int), .int .i64 (q : Int)] w fun r w' => ∃ (ao : Option Addr) (m d e : Nat), r = .returned (.agg #[.slice ao m d, .int .u64 (e : Int)]) ∧ Hid (e = gE 2 q) ∧ m ≤ 1024 ∧ OwnW w.heap.size w' ao m d (wordsOf (gA 2 q)) ∧ Below w.heap.size w w' := by
  have bA := below_alloc w (.cells #[.slice none 0 0, .int .u64 0] 74)
  have C6 := fx_zero (fun _ => False) w.heap.size w
  go_enter Tryz.func41, Tryz.ntmps41
  go_wp2_with fail
  have cz := C6.lt
  generalize w.alloc (.cells #[.slice none 0 0, .int .u64 0] 74) = v at *
  have b0 : Below v.heap.size v v := Below.refl _ _
  refine Calls.mono (docLn2_calls q hq hq4 v) ?_
  rintro r wL ⟨aL, mL, cL, eL, rfl, heL, hmL, hOL, bL⟩
  replace b0 := below_trans b0 bL
  have zbL := bL.size
  obtain ⟨a0, n0, c0, z0, f0, z1, f1, -⟩ := C6.keepB b0
  have bz := b0.size
  go_wp2_with fail
  have KF := ks_two (fun k => k = w.heap.size) wL w.heap.size rfl (.slice aL mL cL) (.int .u64 (eL : Int))
  refine bodyPost_ret (v := .agg #[.slice aL mL cL, .int .u64 (eL : Int)]) (by simp [results, Tryz.results41, go_sem, z0, z1]) rfl ⟨aL, mL, cL, eL, rfl, heL, hmL, ?_, ?_⟩
  · have hO2 := hOL.keepS (S := fun k => k = w.heap.size) (hOL.nw.noS (fun b (e : b = w.heap.size) => by omega)) KF
    exact hO2.low (by omega)
  · exact (bA.trans (b0.mono (by omega))).trans (KF.below w.heap.size (by omega) (fun b (e : b = w.heap.size) => by omega))

set_option maxRecDepth 100000 in
set_option maxHeartbeats 4000000 in
theorem docConst3 (q : Nat) (hq : q ≤ 8300) (hq4 : 40 ≤ q) (w : World) :
    Calls Tryz.prog 41 #[.int .u8 ((3 : Nat) : Int), .int .i64 (q : Int)] w fun r w' => ∃ (ao : Option Addr) (m d e : Nat), r = .returned (.agg #[.slice ao m d, .int .u64 (e : Int)]) ∧ Hid (e = gE 3 q) ∧ m ≤ 1024 ∧ OwnW w.heap.size w' ao m d (wordsOf (gA 3 q)) ∧ Below w.heap.size w w' := by
  have bA := below_alloc w (.cells #[.slice none 0 0, .int .u64 0] 74)
  have C6 := fx_zero (fun _ => False) w.heap.size w
  go_enter Tryz.func41, Tryz.ntmps41
  go_wp2_with fail
  have cz := C6.lt
  generalize w.alloc (.cells #[.slice none 0 0, .int .u64 0] 74) = v at *
  have b0 : Below v.heap.size v v := Below.refl _ _
  refine Calls.mono (docLn10_calls q hq hq4 v) ?_
  rintro r wL ⟨aL, mL, cL, eL, rfl, heL, hmL, hOL, bL⟩
  replace b0 := below_trans b0 bL
  have zbL := bL.size
  obtain ⟨a0, n0, c0, z0, f0, z1, f1, -⟩ := C6.keepB b0
  have bz := b0.size
  go_wp2_with fail
  have KF := ks_two (fun k => k = w.heap.size) wL w.heap.size rfl (.slice aL mL cL) (.int .u64 (eL : Int))
  refine bodyPost_ret (v := .agg #[.slice aL mL cL, .int .u64 (eL : Int)]) (by simp [results, Tryz.results41, go_sem, z0, z1]) rfl ⟨aL, mL, cL, eL, rfl, heL, hmL, ?_, ?_⟩
  · have hO2 := hOL.keepS (S := fun k => k = w.heap.size) (hOL.nw.noS (fun b (e : b = w.heap.size) => by omega)) KF
    exact hO2.low (by omega)
  · exact (bA.trans (b0.mono (by omega))).trans (KF.below w.heap.size (by omega) (fun b (e : b = w.heap.size) => by omega))

set_option maxRecDepth 100000 in
set_option maxHeartbeats 4000000 in
theorem docConst4 (q : Nat) (hq : q ≤ 8300) (hq4 : 40 ≤ q) (w : World) :
    Calls Tryz.prog 41 #[.int .u8 ((4 : Nat) : Int), .int .i64 (q : Int)] w fun r w' => ∃ (ao : Option Addr) (m d e : Nat), r = .returned (.agg #[.slice ao m d, .int .u64 (e : Int)]) ∧ Hid (e = gE 4 q) ∧ m ≤ 1024 ∧ OwnW w.heap.size w' ao m d (wordsOf (gA 4 q)) ∧ Below w.heap.size w w' := by
  have bA := below_alloc w (.cells #[.slice none 0 0, .int .u64 0] 74)
  have C6 := fx_zero (fun _ => False) w.heap.size w
  go_enter Tryz.func41, Tryz.ntmps41
  go_wp2_with fail
  have cz := C6.lt
  generalize w.alloc (.cells #[.slice none 0 0, .int .u64 0] 74) = v at *
  have b0 : Below v.heap.size v v := Below.refl _ _
  refine Calls.mono (docE_calls q hq hq4 v) ?_
  rintro r wL ⟨aL, mL, cL, eL, rfl, heL, hmL, hOL, bL⟩
  replace b0 := below_trans b0 bL
  have zbL := bL.size
  obtain ⟨a0, n0, c0, z0, f0, z1, f1, -⟩ := C6.keepB b0
  have bz := b0.size
  go_wp2_with fail
  have KF := ks_two (fun k => k = w.heap.size) wL w.heap.size rfl (.slice aL mL cL) (.int .u64 (eL : Int))
  refine bodyPost_ret (v := .agg #[.slice aL mL cL, .int .u64 (eL : Int)]) (by simp [results, Tryz.results41, go_sem, z0, z1]) rfl ⟨aL, mL, cL, eL, rfl, heL, hmL, ?_, ?_⟩
  · have hO2 := hOL.keepS (S := fun k => k = w.heap.size) (hOL.nw.noS (fun b (e : b = w.heap.size) => by omega)) KF
    exact hO2.low (by omega)
  · exact (bA.trans (b0.mono (by omega))).trans (KF.below w.heap.size (by omega) (fun b (e : b = w.heap.size) => by omega))

set_option maxRecDepth 100000 in
set_option maxHeartbeats 4000000 in
theorem docConst5 (q : Nat) (hq : q ≤ 8300) (hq4 : 40 ≤ q) (w : World) :
    Calls Tryz.prog 41 #[.int .u8 ((5 : Nat) : Int), .int .i64 (q : Int)] w fun r w' => ∃ (ao : Option Addr) (m d e : Nat), r = .returned (.agg #[.slice ao m d, .int .u64 (e : Int)]) ∧ Hid (e = gE 5 q) ∧ m ≤ 1024 ∧ OwnW w.heap.size w' ao m d (wordsOf (gA 5 q)) ∧ Below w.heap.size w w' := by
  have bA := below_alloc w (.cells #[.slice none 0 0, .int .u64 0] 74)
  have C6 := fx_zero (fun _ => False) w.heap.size w
  go_enter Tryz.func41, Tryz.ntmps41
  go_wp2_with fail
  have cz := C6.lt
  generalize w.alloc (.cells #[.slice none 0 0, .int .u64 0] 74) = v at *
  have b0 : Below v.heap.size v v := Below.refl _ _
  refine Calls.mono (fxOne2 q (by omega) v) ?_
  rintro r w1 ⟨a1, m1, c1, e1, rfl, he1, hm1, hO1, b1⟩
  replace b0 := below_trans b0 b1
  have P2 : Hid _ := docPi_calls q hq hq4 w1
  go_wp2_with fail
  refine Calls.mono P2.out ?_
  rintro r w2 ⟨a2, m2, c2, e2, rfl, he2, hm2, hO2, b2⟩
  replace b0 := below_trans b0 b2
  clear P2
  have P3 : Hid _ := quot_calls 5 (q := q) (by decide) hq hq4 e1 e2 he1.out he2.out (hO1.1.keepB b2) hm1 hO2.1 hm2
  clear hO1 hO2 b1 b2
  go_wp2_with fail
  refine Calls.mono P3.out ?_
  rintro r wL ⟨aL, mL, cL, eL, rfl, heL, hmL, hOL, bL⟩
  have zb0 := b0.size
  replace b0 := below_trans b0 bL
  have zbL := bL.size
  clear P3
  obtain ⟨a0, n0, c0, z0, f0, z1, f1, -⟩ := C6.keepB b0
  have bz := b0.size
  go_wp2_with fail
  have KF := ks_two (fun k => k = w.heap.size) wL w.heap.size rfl (.slice aL mL cL) (.int .u64 (eL : Int))
  refine bodyPost_ret (v := .agg #[.slice aL mL cL, .int .u64 (eL : Int)]) (by simp [results, Tryz.results41, go_sem, z0, z1]) rfl ⟨aL, mL, cL, eL, rfl, heL, hmL, ?_, ?_⟩
  · have hO2 := hOL.keepS (S := fun k => k = w.heap.size) (hOL.nw.noS (fun b (e : b = w.heap.size) => by omega)) KF
    exact hO2.low (by omega)
  · exact (bA.trans (b0.mono (by omega))).trans (KF.below w.heap.size (by omega) (fun b (e : b = w.heap.size) => by omega))

set_option maxRecDepth 100000 in
set_option maxHeartbeats 4000000 in
theorem docConst6 (q : Nat) (hq : q ≤ 8300) (hq4 : 40 ≤ q) (w : World) :
    Calls Tryz.prog 41 #[.int .u8 ((6 : Nat) : Int), .int .i64 (q : Int)] w fun r w' => ∃ (ao : Option Addr) (m d e : Nat), r = .returned (.agg #[.slice ao m d, .int .u64 (e : Int)]) ∧ Hid (e = gE 6 q) ∧ m ≤ 1024 ∧ OwnW w.heap.size w' ao m d (wordsOf (gA 6 q)) ∧ Below w.heap.size w w' := by
  have bA := below_alloc w (.cells #[.slice none 0 0, .int .u64 0] 74)
  have C6 := fx_zero (fun _ => False) w.heap.size w
  go_enter Tryz.func41, Tryz.ntmps41
  go_wp2_with fail
  have cz := C6.lt
  generalize w.alloc (.cells #[.slice none 0 0, .int .u64 0] 74) = v at *
  have b0 : Below v.heap.size v v := Below.refl _ _
  refine Calls.mono (fxOne2 q (by omega) v) ?_
  rintro r w1 ⟨a1, m1, c1, e1, rfl, he1, hm1, hO1, b1⟩
  replace b0 := below_trans b0 b1
  have P2 : Hid _ := docLn2_calls q hq hq4 w1
  go_wp2_with fail
  refine Calls.mono P2.out ?_
  rintro r w2 ⟨a2, m2, c2, e2, rfl, he2, hm2, hO2, b2⟩
  replace b0 := below_trans b0 b2
  clear P2
  have P3 : Hid _ := quot_calls 6 (q := q) (by decide) hq hq4 e1 e2 he1.out he2.out (hO1.1.keepB b2) hm1 hO2.1 hm2
  clear hO1 hO2 b1 b2
  go_wp2_with fail
  refine Calls.mono P3.out ?_
  rintro r wL ⟨aL, mL, cL, eL, rfl, heL, hmL, hOL, bL⟩
  have zb0 := b0.size
  replace b0 := below_trans b0 bL
  have zbL := bL.size
  clear P3
  obtain ⟨a0, n0, c0, z0, f0, z1, f1, -⟩ := C6.keepB b0
  have bz := b0.size
  go_wp2_with fail
  have KF := ks_two (fun k => k = w.heap.size) wL w.heap.size rfl (.slice aL mL cL) (.int .u64 (eL : Int))
  refine bodyPost_ret (v := .agg #[.slice aL mL cL, .int .u64 (eL : Int)]) (by simp [results, Tryz.results41, go_sem, z0, z1]) rfl ⟨aL, mL, cL, eL, rfl, heL, hmL, ?_, ?_⟩
  · have hO2 := hOL.keepS (S := fun k => k = w.heap.size) (hOL.nw.noS (fun b (e : b = w.heap.size) => by omega)) KF
    exact hO2.low (by omega)
  · exact (bA.trans (b0.mono (by omega))).trans (KF.below w.heap.size (by omega) (fun b (e : b = w.heap.size) => by omega))

set_option maxRecDepth 100000 in
set_option maxHeartbeats 4000000 in
theorem docConst7 (q : Nat) (hq : q ≤ 8300) (hq4 : 40 ≤ q) (w : World) :
    Calls Tryz.prog 41 #[.int .u8 ((7 : Nat) : Int), .int .i64 (q : Int)] w fun r w' => ∃ (ao : Option Addr) (m d e : Nat), r = .returned (.agg #[.slice ao m d, .int .u64 (e : Int)]) ∧ Hid (e = gE 7 q) ∧ m ≤ 1024 ∧ OwnW w.heap.size w' ao m d (wordsOf (gA 7 q)) ∧ Below w.heap.size w w' := by
  have bA := below_alloc w (.cells #[.slice none 0 0, .int .u64 0] 74)
  have C6 := fx_zero (fun _ => False) w.heap.size w
  go_enter Tryz.func41, Tryz.ntmps41
  go_wp2_with fail
  have cz := C6.lt
  generalize w.alloc (.cells #[.slice none 0 0, .int .u64 0] 74) = v at *
  have b0 : Below v.heap.size v v := Below.refl _ _
  refine Calls.mono (fxOne2 q (by omega) v) ?_
  rintro r w1 ⟨a1, m1, c1, e1, rfl, he1, hm1, hO1, b1⟩
  replace b0 := below_trans b0 b1
  have P2 : Hid _ := docLn10_calls q hq hq4 w1
  go_wp2_with fail
  refine Calls.mono P2.out ?_
  rintro r w2 ⟨a2, m2, c2, e2, rfl, he2, hm2, hO2, b2⟩
  replace b0 := below_trans b0 b2
  clear P2
  have P3 : Hid _ := quot_calls 7 (q := q) (by decide) hq hq4 e1 e2 he1.out he2.out (hO1.1.keepB b2) hm1 hO2.1 hm2
  clear hO1 hO2 b1 b2
  go_wp2_with fail
  refine Calls.mono P3.out ?_
  rintro r wL ⟨aL, mL, cL, eL, rfl, heL, hmL, hOL, bL⟩
  have zb0 := b0.size
  replace b0 := below_trans b0 bL
  have zbL := bL.size
  clear P3
  obtain ⟨a0, n0, c0, z0, f0, z1, f1, -⟩ := C6.keepB b0
  have bz := b0.size
  go_wp2_with fail
  have KF := ks_two (fun k => k = w.heap.size) wL w.heap.size rfl (.slice aL mL cL) (.int .u64 (eL : Int))
  refine bodyPost_ret (v := .agg #[.slice aL mL cL, .int .u64 (eL : Int)]) (by simp [results, Tryz.results41, go_sem, z0, z1]) rfl ⟨aL, mL, cL, eL, rfl, heL, hmL, ?_, ?_⟩
  · have hO2 := hOL.keepS (S := fun k => k = w.heap.size) (hOL.nw.noS (fun b (e : b = w.heap.size) => by omega)) KF
    exact hO2.low (by omega)
  · exact (bA.trans (b0.mono (by omega))).trans (KF.below w.heap.size (by omega) (fun b (e : b = w.heap.size) => by omega))

theorem docConst_calls (K q : Nat) (g1 : 1 ≤ K) (g2 : K ≤ 7) (hq : q ≤ 8300) (hq4 : 40 ≤ q) (w : World) :
    Calls Tryz.prog 41 #[.int .u8 (K : Int), .int .i64 (q : Int)] w fun r w' => ∃ (ao : Option Addr) (m d e : Nat), r = .returned (.agg #[.slice ao m d, .int .u64 (e : Int)]) ∧ Hid (e = gE K q) ∧ m ≤ 1024 ∧ OwnW w.heap.size w' ao m d (wordsOf (gA K q)) ∧ Below w.heap.size w w' := by
  rcases (by omega : K = 1 ∨ K = 2 ∨ K = 3 ∨ K = 4 ∨ K = 5 ∨ K = 6 ∨ K = 7) with rfl | rfl | rfl | rfl | rfl | rfl | rfl
  · exact docConst1 q hq hq4 w
  · exact docConst2 q hq hq4 w
  · exact docConst3 q hq hq4 w
  · exact docConst4 q hq hq4 w
  · exact docConst5 q hq hq4 w
  · exact docConst6 q hq hq4 w
  · exact docConst7 q hq hq4 w

set_option maxRecDepth 100000 in
set_option maxHeartbeats 1000000 in
theorem docIs_calls (k : Int) (h0 : 0 ≤ k) (h1 : k ≤ 255) (w : World) :
    Calls Tryz.prog 11 #[.int .u8 k] w fun r w' => r = .returned (.bool (knB k)) ∧ w' = w := by
  by_cases c1 : 0 < k
  · by_cases c2 : k < 8
    · have hd : Hid (knB k = true) := decide_eq_true (by omega)
      go_enter Tryz.func11, Tryz.ntmps11
      go_wp2_with fail
      go_ret
      rw [hd.out]
      exact ⟨rfl, rfl⟩
    · have hd : Hid (knB k = false) := decide_eq_false (by omega)
      go_enter Tryz.func11, Tryz.ntmps11
      go_wp2_with fail
      go_ret
      rw [hd.out]
      exact ⟨rfl, rfl⟩
  · have hd : Hid (knB k = false) := decide_eq_false (by omega)
    go_enter Tryz.func11, Tryz.ntmps11
    go_wp2_with fail
    go_ret
    rw [hd.out]
    exact ⟨rfl, rfl⟩

theorem dShr_eq {a : Option Addr} {len cap x : Nat} {w : World} (m : Nat) (h : IsW w a len cap (wordsOf x)) (hm : len ≤ 1024) (hmm : m ≤ 65536) (g : greatB x = false) :
    Calls Tryz.prog 30 #[.slice a len cap, .int .i64 (m : Int)] w fun e w' => ∃ (ao : Option Addr) (n c : Nat) (b : Bool), e = .returned (.tuple #[.slice ao n c, .bool b]) ∧ n ≤ 1024 ∧ OwnW w.heap.size w' ao n c (wordsOf (x / 2 ^ m)) ∧ Below w.heap.size w w' := by
  refine (nShr_calls a len cap m _ w h (by omega) (by omega)).mono ?_
  rintro e w' ⟨v, rfl, hA, hb⟩
  rw [val_words] at hA
  obtain ⟨ao, n, c, rfl, -, hn, hO⟩ := hA.open ((great_len _).1 (great_mono (Nat.div_le_self _ _) g))
  exact ⟨ao, n, c, _, rfl, hn, hO, hb⟩

theorem cmp_zero (x y : Nat) : cmpN x y = 0 ↔ x = y := by
  unfold cmpN
  split
  · omega
  · split <;> omega

set_option maxRecDepth 100000 in
set_option maxHeartbeats 4000000 in
theorem docBits_calls (K N : Nat) (g1 : 1 ≤ K) (g2 : K ≤ 7) (g3 : 1 ≤ N) (g4 : N ≤ 1984) (w : World) :
    Calls Tryz.prog 20 #[.int .u8 (K : Int), .int .i64 (N : Int)] w fun r w' => ∃ (ao : Option Addr) (m d : Nat) (b : Bool), r = .returned (.tuple #[.slice ao m d, .bool b]) ∧ Hid (b = true ↔ gA K (N + 96) / 2 ^ 96 = (gA K (N + 96) + gE K (N + 96)) / 2 ^ 96) ∧ m ≤ 1024 ∧ OwnW w.heap.size w' ao m d (wordsOf (gA K (N + 96) / 2 ^ 96)) ∧ Below w.heap.size w w' := by
  obtain ⟨q, hq⟩ : ∃ q, q = N + 96 := ⟨_, rfl⟩
  obtain ⟨s, hs⟩ : ∃ s, s = 96 := ⟨_, rfl⟩
  obtain ⟨z1, z2⟩ := g_size K q g1 g2 (by omega) (by omega)
  have gH : greatB (gA K q + gE K q) = false := cf_great (k := q + 13) (Nat.lt_of_le_of_lt z1 (Nat.pow_lt_pow_right (by decide) (by omega))) (by omega)
  have gL : greatB (gA K q) = false := great_mono (Nat.le_add_right _ _) gH
  have z3 : gE K q ≤ 18446744073709551615 := Nat.le_trans z2 (by decide)
  have j1 : IntKind.i64.wrap ((N : Int) + 96) = (q : Int) := by rw [IntKind.wrap_i64]; omega
  have j2 : IntKind.i64.wrap ((q : Int) - (N : Int)) = (s : Int) := by rw [IntKind.wrap_i64]; omega
  have hs1 : s ≤ 65536 := by omega
  have hq1 : q ≤ 8300 := by omega
  have hq2 : 40 ≤ q := by omega
  rw [← hq, show (2 : Nat) ^ 96 = 2 ^ s by rw [hs]]
  have HC : Hid _ := docConst_calls K q g1 g2 hq1 hq2 w
  clear z1 z2 hq hs
  go_enter Tryz.func20, Tryz.ntmps20
  go_wp2_with fail
  refine Calls.mono HC.out ?_
  rintro r w1 ⟨a1, m1, c1, e1, rfl, he1, hm1, hO1, b1⟩
  have bL := below_alloc w1 (.cells #[.slice a1 m1 c1, .int .u64 (e1 : Int)] 74)
  have hX := hO1.1.keepB bL
  have y0 : (w1.alloc (.cells #[.slice a1 m1 c1, .int .u64 (e1 : Int)] 74)).cell? ⟨w1.heap.size, 0, none⟩ = some (.slice a1 m1 c1) := by go_simp
  have y1 : (w1.alloc (.cells #[.slice a1 m1 c1, .int .u64 (e1 : Int)] 74)).cell? ⟨w1.heap.size, 1, none⟩ = some (.int .u64 (e1 : Int)) := by go_simp
  have bV := below_trans b1 bL
  have BV : Hid _ := And.intro bV b1.size
  clear HC hO1 bL bV b1
  go_wp2_with fail
  generalize hR : w1.heap.size = R at *
  generalize w1.alloc (.cells #[.slice a1 m1 c1, .int .u64 (e1 : Int)] 74) = v at *
  refine Calls.mono (dShr_eq s hX hm1 hs1 gL) ?_
  rintro r w2 ⟨a2, m2, c2, l2, rfl, hm2, hO2, b2⟩
  replace y0 := cKeep b2 y0
  replace y1 := cKeep b2 y1
  have PH : Hid _ := fxHigh e1 w2 (hX.keepB b2) hm1 (by rw [he1.out]; exact gH) (by rw [he1.out]; exact z3)
  clear hX
  go_wp2_with fail
  refine Calls.mono PH.out ?_
  rintro r w3 ⟨a3, m3, c3, rfl, hm3, hO3, b3⟩
  rw [he1.out] at hO3
  have P4 : Hid _ := dShr_eq s hO3.1 hm3 hs1 gH
  clear PH hO3
  have b23 := below_trans b2 b3
  go_wp2_with fail
  refine Calls.mono P4.out ?_
  rintro r w4 ⟨a4, m4, c4, l4, rfl, hm4, hO4, b4⟩
  have b24 := below_trans b23 b4
  have hO5 := hO2.keep (below_trans b3 b4)
  obtain ⟨cc, hcc⟩ : ∃ cc : Int, cc = cmpN (gA K q / 2 ^ s) ((gA K q + gE K q) / 2 ^ s) := ⟨_, rfl⟩
  have P5 := nCmp_calls a2 a4 m2 c2 m4 c4 _ _ w4 hO5.1 hO4.1 (by omega) (by omega)
  rw [val_words, val_words, ← hcc] at P5
  have hcz : cc = 0 ↔ gA K q / 2 ^ s = (gA K q + gE K q) / 2 ^ s := by rw [hcc]; exact cmp_zero _ _
  have HCZ : Hid _ := hcz
  have HP5 : Hid _ := P5
  clear P4 hcz hcc P5 b2 b3 b4 b23 hO2 hO4
  have hsz := BV.out.1.size
  go_wp2_with fail
  refine Calls.mono HP5.out ?_
  rintro r w5 ⟨rfl, rfl⟩
  go_wp2_with fail
  go_ret2
  exact ⟨a2, m2, c2, cc == 0, rfl, ⟨fun e => HCZ.out.1 (by simpa using e), fun e => (by simpa using HCZ.out.2 e)⟩, hm2, hO5.low (by have := BV.out.2; have := BV.out.1.size; omega), BV.out.1.trans (b24.mono (by omega))⟩

theorem dOf_pack (x : Nat) (w : World) (hx : x < 18446744073709551616) :
    Calls Tryz.prog 49 #[.int .u64 (x : Int)] w fun e w' => ∃ (ao : Option Addr) (n cv : Nat), e = .returned (.slice ao n cv) ∧ n = (wordsOf x).length ∧ n ≤ 1 ∧ OwnW w.heap.size w' ao n cv (wordsOf x) ∧ Below w.heap.size w w' := by
  refine Calls.mono (nOf_calls (x : Int) w (by omega) (by omega)) ?_
  rintro e w' ⟨ao, cv, rfl, hO, hb⟩
  rw [Int.toNat_natCast] at hO ⊢
  exact ⟨ao, _, cv, rfl, rfl, (words_len 1 x).2 (by simpa using hx), hO.ownW (words_U _) rfl, hb⟩

theorem dWords_mul (x y n m : Nat) (hx : (wordsOf x).length ≤ n) (hy : (wordsOf y).length ≤ m) : (wordsOf (x * y)).length ≤ n + m := by
  rw [words_len] at hx hy ⊢
  rw [Nat.pow_add]
  exact Nat.mul_lt_mul'' hx hy

set_option maxRecDepth 100000 in
set_option maxHeartbeats 1000000 in
theorem dPow_calls (a : Option Addr) (len cap : Nat) (xs : List Int) (k : Nat) (w : World) (h : IsW w a len cap xs) (hm : len ≤ 17592186044000) (hu : (wordsOf (val xs)).length ≤ 1) (hk : k ≤ 1000) :
    Calls Tryz.prog 48 #[.slice a len cap, .int .i64 (k : Int)] w fun e w' => ∃ (ao : Option Addr) (n cv : Nat), e = .returned (.slice ao n cv) ∧ n = (wordsOf (val xs ^ k)).length ∧ n ≤ 1 + k ∧ OwnW w.heap.size w' ao n cv (wordsOf (val xs ^ k)) ∧ Below w.heap.size w w' := by
  have HH : Hid (IsW w a len cap xs) := h
  have HU : Hid ((wordsOf (val xs)).length ≤ 1) := hu
  clear h hu
  go_enter Tryz.func48, Tryz.ntmps48
  go_wp2_with fail
  refine Calls.mono (dOf_pack 1 w (by decide)) ?_
  rintro e w1 ⟨a1, n1, c1, rfl, hn1, hn1b, hO1, b1⟩
  have H0 : Hid (n1 = (wordsOf 1).length ∧ OwnW w.heap.size w1 a1 n1 c1 (wordsOf 1) ∧ Below w.heap.size w w1) := ⟨hn1, hO1, b1⟩
  clear hn1 hO1 b1
  go_wp2_with fail
  go_loopw [5, 6] (fun vo vi wr => ∃ (i n c : Nat) (ao : Option Addr), i ≤ k ∧ vi = .int .i64 i ∧ vo = .slice ao n c ∧ Hid (n = (wordsOf (val xs ^ i)).length) ∧ n ≤ 1 + i ∧ OwnW w.heap.size wr ao n c (wordsOf (val xs ^ i)) ∧ Below w.heap.size w wr) (fun _ vi _ => k - (intOf vi).toNat)
  case atStart => exact ⟨0, n1, c1, a1, by omega, rfl, rfl, by rw [Nat.pow_zero]; exact H0.out.1, by omega, by rw [Nat.pow_zero]; exact H0.out.2.1, H0.out.2.2⟩
  case round =>
    clear H0
    obtain ⟨i, n, c, ao, hi, rfl, rfl, HN, hn, hO, hbr⟩ := hrel
    by_cases hlt : i < k
    · have MC : Hid _ := nMul_calls ao a n c len cap _ xs wr hO.1 (HH.out.keep hbr) (by omega) (by omega) (by rw [val_words, ← HN.out]; have := HU.out; omega)
      rw [val_words] at MC
      have HW : Hid ((wordsOf (val xs ^ i * val xs)).length ≤ n + 1) := dWords_mul _ _ _ _ (by rw [← HN.out]; exact Nat.le_refl _) HU.out
      have HP : Hid (val xs ^ i * val xs = val xs ^ (i + 1)) := (Nat.pow_succ ..).symm
      have hsz := hbr.size
      clear hO
      go_wp2_with fail
      refine Calls.mono MC.out ?_
      rintro e w2 ⟨a2, c2, rfl, hO2, b2⟩
      have hO3 := hO2.ownW (words_U _) rfl
      obtain ⟨n2, hn2⟩ : ∃ n2, n2 = (wordsOf (val xs ^ i * val xs)).length := ⟨_, rfl⟩
      rw [← hn2] at hO3 HW ⊢
      rw [HP.out] at hO3
      have HN2 : Hid (n2 = (wordsOf (val xs ^ (i + 1))).length) := by rw [Hid, ← HP.out]; exact hn2
      have hn2b : n2 ≤ n + 1 := HW.out
      clear hO2 hn2 MC
      go_wp2_with fail
      refine ⟨⟨i + 1, n2, c2, a2, by omega, by go_num, rfl, HN2, by omega, hO3.low hsz, below_trans hbr b2⟩, by simp [intOf]; omega⟩
    · have hik : i = k := by omega
      have HE : Hid (n = (wordsOf (val xs ^ k)).length ∧ n ≤ 1 + k ∧ OwnW w.heap.size wr ao n c (wordsOf (val xs ^ k))) := by
        rw [Hid, ← hik]; exact ⟨HN.out, by omega, hO⟩
      clear hik hO HN
      go_wp2_with fail
      go_ret
      exact ⟨ao, n, c, rfl, HE.out.1, HE.out.2.1, HE.out.2.2, hbr⟩

end Go.Proofs.YtkkldnnndlpblaaGreatDoor
