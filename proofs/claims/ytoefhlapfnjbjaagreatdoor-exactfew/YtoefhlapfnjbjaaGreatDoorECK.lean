/- ExactFew: what is told as exact has at most 54 bits. -/
import Derived.Test.YtoefhlapfnjbjaaGreatDoorECJ
import Derived.Test.YtoefhlapfnjbjaaGreatDoorTMQ
namespace Go.Proofs.YtoefhlapfnjbjaaGreatDoor
open Go.RowKit

theorem few_bits {v : E3 × Bool} (h : fewB v) : (blen v.1.2.1 : Int) - (tz v.1.2.1 : Int) ≤ 54 := by
  have := h.1
  omega

set_option maxRecDepth 100000 in
set_option maxHeartbeats 4000000 in
theorem exactFew_walk (f y x : Int) (w : World) (_hf : 0 ≤ f ∧ f ≤ 255) (hy : U y) (hx : U x) (hT : TabE w) :
    Calls Tryz.prog 5 #[.int .u8 f, .int .u64 y, .int .u64 x] w fun q w' => q = .returned (.bool true) ∧ Below w.heap.size w w' := by
  have bA : Below w.heap.size w w := Below.refl _ _
  have LC : Hid _ := exLives_calls w hT
  have E1 : Hid _ := fun W (b : Below w.heap.size w W) => exact_calls f x W hx (hT.kept b)
  have E2 : Hid _ := fun W (b : Below w.heap.size w W) => exact2_calls f y x W hy hx (hT.kept b)
  have Z1 : Hid _ := fun (W : World) (a : Option Addr) (n c : Nat) (h : IsW W a n c (wordsOf (exV f x).1.2.1)) (hn : n ≤ 1024) => qZero_calls (exV f x).1.1 a n c (wordsOf (exV f x).1.2.1) (exV f x).1.2.2 W h (by omega)
  have G1 : Hid _ := fun (W : World) (a : Option Addr) (n c : Nat) (h : IsW W a n c (wordsOf (exV f x).1.2.1)) (hn : n ≤ 1024) => qBits_calls (exV f x).1.1 a n c (wordsOf (exV f x).1.2.1) (exV f x).1.2.2 W h (by omega) (by rw [val_words]; exact Nat.le_trans (ex_few f x).1 (by decide))
  simp only [val_words] at Z1 G1
  have hb1 := few_bits (ex_few f x)
  have Z2 : Hid _ := fun (W : World) (a : Option Addr) (n c : Nat) (h : IsW W a n c (wordsOf (e2V f y x).1.2.1)) (hn : n ≤ 1024) => qZero_calls (e2V f y x).1.1 a n c (wordsOf (e2V f y x).1.2.1) (e2V f y x).1.2.2 W h (by omega)
  have G2 : Hid _ := fun (W : World) (a : Option Addr) (n c : Nat) (h : IsW W a n c (wordsOf (e2V f y x).1.2.1)) (hn : n ≤ 1024) => qBits_calls (e2V f y x).1.1 a n c (wordsOf (e2V f y x).1.2.1) (e2V f y x).1.2.2 W h (by omega) (by rw [val_words]; exact Nat.le_trans (e2_few f y x).1 (by decide))
  simp only [val_words] at Z2 G2
  have hb2 := few_bits (e2_few f y x)
  generalize exE f x = EE1 at *
  generalize e2E f y x = EE2 at *
  generalize exV f x = V1 at *
  generalize e2V f y x = V2 at *
  obtain ⟨P1, S1⟩ := V1
  obtain ⟨P2, S2⟩ := V2
  simp only at E1 E2 Z1 G1 Z2 G2 hb1 hb2
  generalize (blen P1.2.1 : Int) - (tz P1.2.1 : Int) = N1 at *
  generalize decide (P1.2.1 = 0) = D1 at *
  generalize (blen P2.2.1 : Int) - (tz P2.2.1 : Int) = N2 at *
  generalize decide (P2.2.1 = 0) = D2 at *
  clear hx hy hT _hf
  cases S1 <;> cases S2 <;> cases D1 <;> cases D2
  ·
    go_enter Tryz.func5, Tryz.ntmps5
    go_wp2_with fail
    refine Calls.mono LC.out ?_
    rintro q u1 ⟨rfl, b1⟩
    replace bA := nT bA b1
    clear b1 LC
    go_wp2_with fail
    refine Calls.mono (E1.out _ bA) ?_
    have lb := bA.size
    rintro q u2 ⟨_, rfl, ⟨a1, n1, c1, rfl, HN1, hn1, hO1⟩, b1⟩
    replace hO1 := hO1.low lb
    clear lb
    replace bA := nT bA b1
    clear b1 E1
    have bD := below_one u2 (.cells #[.bool P1.1, .slice a1 n1 c1, .int .i64 P1.2.2] 27)
    replace bA := nT bA bD
    replace hO1 := hO1.keep bD
    have s0 : (u2.alloc (.cells #[.bool P1.1, .slice a1 n1 c1, .int .i64 P1.2.2] 27)).cell? ⟨u2.heap.size, 0, none⟩ = some (.bool P1.1) := by go_simp
    have s1 : (u2.alloc (.cells #[.bool P1.1, .slice a1 n1 c1, .int .i64 P1.2.2] 27)).cell? ⟨u2.heap.size, 1, none⟩ = some (.slice a1 n1 c1) := by go_simp
    have s2 : (u2.alloc (.cells #[.bool P1.1, .slice a1 n1 c1, .int .i64 P1.2.2] 27)).cell? ⟨u2.heap.size, 2, none⟩ = some (.int .i64 P1.2.2) := by go_simp
    clear bD
    go_upto_region 4 with fail
    generalize u2.alloc (.cells #[.bool P1.1, .slice a1 n1 c1, .int .i64 P1.2.2] 27) = u3 at *
    generalize u2.heap.size = B1 at *
    go_wp2_with fail
    refine Calls.mono (E2.out _ bA) ?_
    have lb := bA.size
    rintro q u4 ⟨_, rfl, ⟨a2, n2, c2, rfl, HN2, hn2, hO2⟩, b1⟩
    replace hO2 := hO2.low lb
    clear lb
    replace bA := nT bA b1
    replace hO1 := hO1.keep b1
    replace s0 := kC b1 s0
    replace s1 := kC b1 s1
    replace s2 := kC b1 s2
    clear b1 E2
    have bD := below_one u4 (.cells #[.bool P2.1, .slice a2 n2 c2, .int .i64 P2.2.2] 27)
    replace bA := nT bA bD
    replace hO1 := hO1.keep bD
    replace s0 := kC bD s0
    replace s1 := kC bD s1
    replace s2 := kC bD s2
    replace hO2 := hO2.keep bD
    have t0 : (u4.alloc (.cells #[.bool P2.1, .slice a2 n2 c2, .int .i64 P2.2.2] 27)).cell? ⟨u4.heap.size, 0, none⟩ = some (.bool P2.1) := by go_simp
    have t1 : (u4.alloc (.cells #[.bool P2.1, .slice a2 n2 c2, .int .i64 P2.2.2] 27)).cell? ⟨u4.heap.size, 1, none⟩ = some (.slice a2 n2 c2) := by go_simp
    have t2 : (u4.alloc (.cells #[.bool P2.1, .slice a2 n2 c2, .int .i64 P2.2.2] 27)).cell? ⟨u4.heap.size, 2, none⟩ = some (.int .i64 P2.2.2) := by go_simp
    clear bD
    go_upto_region 5 with fail
    generalize u4.alloc (.cells #[.bool P2.1, .slice a2 n2 c2, .int .i64 P2.2.2] 27) = u5 at *
    generalize u4.heap.size = B2 at *
    go_wp2_with fail
    go_ret
    exact ⟨rfl, bA⟩
  ·
    go_enter Tryz.func5, Tryz.ntmps5
    go_wp2_with fail
    refine Calls.mono LC.out ?_
    rintro q u1 ⟨rfl, b1⟩
    replace bA := nT bA b1
    clear b1 LC
    go_wp2_with fail
    refine Calls.mono (E1.out _ bA) ?_
    have lb := bA.size
    rintro q u2 ⟨_, rfl, ⟨a1, n1, c1, rfl, HN1, hn1, hO1⟩, b1⟩
    replace hO1 := hO1.low lb
    clear lb
    replace bA := nT bA b1
    clear b1 E1
    have bD := below_one u2 (.cells #[.bool P1.1, .slice a1 n1 c1, .int .i64 P1.2.2] 27)
    replace bA := nT bA bD
    replace hO1 := hO1.keep bD
    have s0 : (u2.alloc (.cells #[.bool P1.1, .slice a1 n1 c1, .int .i64 P1.2.2] 27)).cell? ⟨u2.heap.size, 0, none⟩ = some (.bool P1.1) := by go_simp
    have s1 : (u2.alloc (.cells #[.bool P1.1, .slice a1 n1 c1, .int .i64 P1.2.2] 27)).cell? ⟨u2.heap.size, 1, none⟩ = some (.slice a1 n1 c1) := by go_simp
    have s2 : (u2.alloc (.cells #[.bool P1.1, .slice a1 n1 c1, .int .i64 P1.2.2] 27)).cell? ⟨u2.heap.size, 2, none⟩ = some (.int .i64 P1.2.2) := by go_simp
    clear bD
    go_upto_region 4 with fail
    generalize u2.alloc (.cells #[.bool P1.1, .slice a1 n1 c1, .int .i64 P1.2.2] 27) = u3 at *
    generalize u2.heap.size = B1 at *
    go_wp2_with fail
    refine Calls.mono (E2.out _ bA) ?_
    have lb := bA.size
    rintro q u4 ⟨_, rfl, ⟨a2, n2, c2, rfl, HN2, hn2, hO2⟩, b1⟩
    replace hO2 := hO2.low lb
    clear lb
    replace bA := nT bA b1
    replace hO1 := hO1.keep b1
    replace s0 := kC b1 s0
    replace s1 := kC b1 s1
    replace s2 := kC b1 s2
    clear b1 E2
    have bD := below_one u4 (.cells #[.bool P2.1, .slice a2 n2 c2, .int .i64 P2.2.2] 27)
    replace bA := nT bA bD
    replace hO1 := hO1.keep bD
    replace s0 := kC bD s0
    replace s1 := kC bD s1
    replace s2 := kC bD s2
    replace hO2 := hO2.keep bD
    have t0 : (u4.alloc (.cells #[.bool P2.1, .slice a2 n2 c2, .int .i64 P2.2.2] 27)).cell? ⟨u4.heap.size, 0, none⟩ = some (.bool P2.1) := by go_simp
    have t1 : (u4.alloc (.cells #[.bool P2.1, .slice a2 n2 c2, .int .i64 P2.2.2] 27)).cell? ⟨u4.heap.size, 1, none⟩ = some (.slice a2 n2 c2) := by go_simp
    have t2 : (u4.alloc (.cells #[.bool P2.1, .slice a2 n2 c2, .int .i64 P2.2.2] 27)).cell? ⟨u4.heap.size, 2, none⟩ = some (.int .i64 P2.2.2) := by go_simp
    clear bD
    go_upto_region 5 with fail
    generalize u4.alloc (.cells #[.bool P2.1, .slice a2 n2 c2, .int .i64 P2.2.2] 27) = u5 at *
    generalize u4.heap.size = B2 at *
    go_wp2_with fail
    go_ret
    exact ⟨rfl, bA⟩
  ·
    go_enter Tryz.func5, Tryz.ntmps5
    go_wp2_with fail
    refine Calls.mono LC.out ?_
    rintro q u1 ⟨rfl, b1⟩
    replace bA := nT bA b1
    clear b1 LC
    go_wp2_with fail
    refine Calls.mono (E1.out _ bA) ?_
    have lb := bA.size
    rintro q u2 ⟨_, rfl, ⟨a1, n1, c1, rfl, HN1, hn1, hO1⟩, b1⟩
    replace hO1 := hO1.low lb
    clear lb
    replace bA := nT bA b1
    clear b1 E1
    have bD := below_one u2 (.cells #[.bool P1.1, .slice a1 n1 c1, .int .i64 P1.2.2] 27)
    replace bA := nT bA bD
    replace hO1 := hO1.keep bD
    have s0 : (u2.alloc (.cells #[.bool P1.1, .slice a1 n1 c1, .int .i64 P1.2.2] 27)).cell? ⟨u2.heap.size, 0, none⟩ = some (.bool P1.1) := by go_simp
    have s1 : (u2.alloc (.cells #[.bool P1.1, .slice a1 n1 c1, .int .i64 P1.2.2] 27)).cell? ⟨u2.heap.size, 1, none⟩ = some (.slice a1 n1 c1) := by go_simp
    have s2 : (u2.alloc (.cells #[.bool P1.1, .slice a1 n1 c1, .int .i64 P1.2.2] 27)).cell? ⟨u2.heap.size, 2, none⟩ = some (.int .i64 P1.2.2) := by go_simp
    clear bD
    go_upto_region 4 with fail
    generalize u2.alloc (.cells #[.bool P1.1, .slice a1 n1 c1, .int .i64 P1.2.2] 27) = u3 at *
    generalize u2.heap.size = B1 at *
    go_wp2_with fail
    refine Calls.mono (E2.out _ bA) ?_
    have lb := bA.size
    rintro q u4 ⟨_, rfl, ⟨a2, n2, c2, rfl, HN2, hn2, hO2⟩, b1⟩
    replace hO2 := hO2.low lb
    clear lb
    replace bA := nT bA b1
    replace hO1 := hO1.keep b1
    replace s0 := kC b1 s0
    replace s1 := kC b1 s1
    replace s2 := kC b1 s2
    clear b1 E2
    have bD := below_one u4 (.cells #[.bool P2.1, .slice a2 n2 c2, .int .i64 P2.2.2] 27)
    replace bA := nT bA bD
    replace hO1 := hO1.keep bD
    replace s0 := kC bD s0
    replace s1 := kC bD s1
    replace s2 := kC bD s2
    replace hO2 := hO2.keep bD
    have t0 : (u4.alloc (.cells #[.bool P2.1, .slice a2 n2 c2, .int .i64 P2.2.2] 27)).cell? ⟨u4.heap.size, 0, none⟩ = some (.bool P2.1) := by go_simp
    have t1 : (u4.alloc (.cells #[.bool P2.1, .slice a2 n2 c2, .int .i64 P2.2.2] 27)).cell? ⟨u4.heap.size, 1, none⟩ = some (.slice a2 n2 c2) := by go_simp
    have t2 : (u4.alloc (.cells #[.bool P2.1, .slice a2 n2 c2, .int .i64 P2.2.2] 27)).cell? ⟨u4.heap.size, 2, none⟩ = some (.int .i64 P2.2.2) := by go_simp
    clear bD
    go_upto_region 5 with fail
    generalize u4.alloc (.cells #[.bool P2.1, .slice a2 n2 c2, .int .i64 P2.2.2] 27) = u5 at *
    generalize u4.heap.size = B2 at *
    go_wp2_with fail
    go_ret
    exact ⟨rfl, bA⟩
  ·
    go_enter Tryz.func5, Tryz.ntmps5
    go_wp2_with fail
    refine Calls.mono LC.out ?_
    rintro q u1 ⟨rfl, b1⟩
    replace bA := nT bA b1
    clear b1 LC
    go_wp2_with fail
    refine Calls.mono (E1.out _ bA) ?_
    have lb := bA.size
    rintro q u2 ⟨_, rfl, ⟨a1, n1, c1, rfl, HN1, hn1, hO1⟩, b1⟩
    replace hO1 := hO1.low lb
    clear lb
    replace bA := nT bA b1
    clear b1 E1
    have bD := below_one u2 (.cells #[.bool P1.1, .slice a1 n1 c1, .int .i64 P1.2.2] 27)
    replace bA := nT bA bD
    replace hO1 := hO1.keep bD
    have s0 : (u2.alloc (.cells #[.bool P1.1, .slice a1 n1 c1, .int .i64 P1.2.2] 27)).cell? ⟨u2.heap.size, 0, none⟩ = some (.bool P1.1) := by go_simp
    have s1 : (u2.alloc (.cells #[.bool P1.1, .slice a1 n1 c1, .int .i64 P1.2.2] 27)).cell? ⟨u2.heap.size, 1, none⟩ = some (.slice a1 n1 c1) := by go_simp
    have s2 : (u2.alloc (.cells #[.bool P1.1, .slice a1 n1 c1, .int .i64 P1.2.2] 27)).cell? ⟨u2.heap.size, 2, none⟩ = some (.int .i64 P1.2.2) := by go_simp
    clear bD
    go_upto_region 4 with fail
    generalize u2.alloc (.cells #[.bool P1.1, .slice a1 n1 c1, .int .i64 P1.2.2] 27) = u3 at *
    generalize u2.heap.size = B1 at *
    go_wp2_with fail
    refine Calls.mono (E2.out _ bA) ?_
    have lb := bA.size
    rintro q u4 ⟨_, rfl, ⟨a2, n2, c2, rfl, HN2, hn2, hO2⟩, b1⟩
    replace hO2 := hO2.low lb
    clear lb
    replace bA := nT bA b1
    replace hO1 := hO1.keep b1
    replace s0 := kC b1 s0
    replace s1 := kC b1 s1
    replace s2 := kC b1 s2
    clear b1 E2
    have bD := below_one u4 (.cells #[.bool P2.1, .slice a2 n2 c2, .int .i64 P2.2.2] 27)
    replace bA := nT bA bD
    replace hO1 := hO1.keep bD
    replace s0 := kC bD s0
    replace s1 := kC bD s1
    replace s2 := kC bD s2
    replace hO2 := hO2.keep bD
    have t0 : (u4.alloc (.cells #[.bool P2.1, .slice a2 n2 c2, .int .i64 P2.2.2] 27)).cell? ⟨u4.heap.size, 0, none⟩ = some (.bool P2.1) := by go_simp
    have t1 : (u4.alloc (.cells #[.bool P2.1, .slice a2 n2 c2, .int .i64 P2.2.2] 27)).cell? ⟨u4.heap.size, 1, none⟩ = some (.slice a2 n2 c2) := by go_simp
    have t2 : (u4.alloc (.cells #[.bool P2.1, .slice a2 n2 c2, .int .i64 P2.2.2] 27)).cell? ⟨u4.heap.size, 2, none⟩ = some (.int .i64 P2.2.2) := by go_simp
    clear bD
    go_upto_region 5 with fail
    generalize u4.alloc (.cells #[.bool P2.1, .slice a2 n2 c2, .int .i64 P2.2.2] 27) = u5 at *
    generalize u4.heap.size = B2 at *
    go_wp2_with fail
    go_ret
    exact ⟨rfl, bA⟩
  ·
    go_enter Tryz.func5, Tryz.ntmps5
    go_wp2_with fail
    refine Calls.mono LC.out ?_
    rintro q u1 ⟨rfl, b1⟩
    replace bA := nT bA b1
    clear b1 LC
    go_wp2_with fail
    refine Calls.mono (E1.out _ bA) ?_
    have lb := bA.size
    rintro q u2 ⟨_, rfl, ⟨a1, n1, c1, rfl, HN1, hn1, hO1⟩, b1⟩
    replace hO1 := hO1.low lb
    clear lb
    replace bA := nT bA b1
    clear b1 E1
    have bD := below_one u2 (.cells #[.bool P1.1, .slice a1 n1 c1, .int .i64 P1.2.2] 27)
    replace bA := nT bA bD
    replace hO1 := hO1.keep bD
    have s0 : (u2.alloc (.cells #[.bool P1.1, .slice a1 n1 c1, .int .i64 P1.2.2] 27)).cell? ⟨u2.heap.size, 0, none⟩ = some (.bool P1.1) := by go_simp
    have s1 : (u2.alloc (.cells #[.bool P1.1, .slice a1 n1 c1, .int .i64 P1.2.2] 27)).cell? ⟨u2.heap.size, 1, none⟩ = some (.slice a1 n1 c1) := by go_simp
    have s2 : (u2.alloc (.cells #[.bool P1.1, .slice a1 n1 c1, .int .i64 P1.2.2] 27)).cell? ⟨u2.heap.size, 2, none⟩ = some (.int .i64 P1.2.2) := by go_simp
    clear bD
    go_upto_region 4 with fail
    generalize u2.alloc (.cells #[.bool P1.1, .slice a1 n1 c1, .int .i64 P1.2.2] 27) = u3 at *
    generalize u2.heap.size = B1 at *
    go_wp2_with fail
    refine Calls.mono (E2.out _ bA) ?_
    have lb := bA.size
    rintro q u4 ⟨_, rfl, ⟨a2, n2, c2, rfl, HN2, hn2, hO2⟩, b1⟩
    replace hO2 := hO2.low lb
    clear lb
    replace bA := nT bA b1
    replace hO1 := hO1.keep b1
    replace s0 := kC b1 s0
    replace s1 := kC b1 s1
    replace s2 := kC b1 s2
    clear b1 E2
    have bD := below_one u4 (.cells #[.bool P2.1, .slice a2 n2 c2, .int .i64 P2.2.2] 27)
    replace bA := nT bA bD
    replace hO1 := hO1.keep bD
    replace s0 := kC bD s0
    replace s1 := kC bD s1
    replace s2 := kC bD s2
    replace hO2 := hO2.keep bD
    have t0 : (u4.alloc (.cells #[.bool P2.1, .slice a2 n2 c2, .int .i64 P2.2.2] 27)).cell? ⟨u4.heap.size, 0, none⟩ = some (.bool P2.1) := by go_simp
    have t1 : (u4.alloc (.cells #[.bool P2.1, .slice a2 n2 c2, .int .i64 P2.2.2] 27)).cell? ⟨u4.heap.size, 1, none⟩ = some (.slice a2 n2 c2) := by go_simp
    have t2 : (u4.alloc (.cells #[.bool P2.1, .slice a2 n2 c2, .int .i64 P2.2.2] 27)).cell? ⟨u4.heap.size, 2, none⟩ = some (.int .i64 P2.2.2) := by go_simp
    clear bD
    go_upto_region 5 with fail
    generalize u4.alloc (.cells #[.bool P2.1, .slice a2 n2 c2, .int .i64 P2.2.2] 27) = u5 at *
    generalize u4.heap.size = B2 at *
    go_wp2_with fail
    refine Calls.mono (Z2.out _ _ _ _ hO2.1 hn2) ?_
    rintro q x2 ⟨rfl, b1⟩
    replace bA := nT bA b1
    replace hO1 := hO1.keep b1
    replace s0 := kC b1 s0
    replace s1 := kC b1 s1
    replace s2 := kC b1 s2
    replace hO2 := hO2.keep b1
    replace t0 := kC b1 t0
    replace t1 := kC b1 t1
    replace t2 := kC b1 t2
    clear b1
    go_wp2_with fail
    refine Calls.mono (G2.out _ _ _ _ hO2.1 hn2) ?_
    rintro q y2 ⟨rfl, b1⟩
    replace bA := nT bA b1
    replace hO1 := hO1.keep b1
    replace s0 := kC b1 s0
    replace s1 := kC b1 s1
    replace s2 := kC b1 s2
    replace hO2 := hO2.keep b1
    replace t0 := kC b1 t0
    replace t1 := kC b1 t1
    replace t2 := kC b1 t2
    clear b1
    go_wp2_with fail
    go_ret
    exact ⟨rfl, bA⟩
  ·
    go_enter Tryz.func5, Tryz.ntmps5
    go_wp2_with fail
    refine Calls.mono LC.out ?_
    rintro q u1 ⟨rfl, b1⟩
    replace bA := nT bA b1
    clear b1 LC
    go_wp2_with fail
    refine Calls.mono (E1.out _ bA) ?_
    have lb := bA.size
    rintro q u2 ⟨_, rfl, ⟨a1, n1, c1, rfl, HN1, hn1, hO1⟩, b1⟩
    replace hO1 := hO1.low lb
    clear lb
    replace bA := nT bA b1
    clear b1 E1
    have bD := below_one u2 (.cells #[.bool P1.1, .slice a1 n1 c1, .int .i64 P1.2.2] 27)
    replace bA := nT bA bD
    replace hO1 := hO1.keep bD
    have s0 : (u2.alloc (.cells #[.bool P1.1, .slice a1 n1 c1, .int .i64 P1.2.2] 27)).cell? ⟨u2.heap.size, 0, none⟩ = some (.bool P1.1) := by go_simp
    have s1 : (u2.alloc (.cells #[.bool P1.1, .slice a1 n1 c1, .int .i64 P1.2.2] 27)).cell? ⟨u2.heap.size, 1, none⟩ = some (.slice a1 n1 c1) := by go_simp
    have s2 : (u2.alloc (.cells #[.bool P1.1, .slice a1 n1 c1, .int .i64 P1.2.2] 27)).cell? ⟨u2.heap.size, 2, none⟩ = some (.int .i64 P1.2.2) := by go_simp
    clear bD
    go_upto_region 4 with fail
    generalize u2.alloc (.cells #[.bool P1.1, .slice a1 n1 c1, .int .i64 P1.2.2] 27) = u3 at *
    generalize u2.heap.size = B1 at *
    go_wp2_with fail
    refine Calls.mono (E2.out _ bA) ?_
    have lb := bA.size
    rintro q u4 ⟨_, rfl, ⟨a2, n2, c2, rfl, HN2, hn2, hO2⟩, b1⟩
    replace hO2 := hO2.low lb
    clear lb
    replace bA := nT bA b1
    replace hO1 := hO1.keep b1
    replace s0 := kC b1 s0
    replace s1 := kC b1 s1
    replace s2 := kC b1 s2
    clear b1 E2
    have bD := below_one u4 (.cells #[.bool P2.1, .slice a2 n2 c2, .int .i64 P2.2.2] 27)
    replace bA := nT bA bD
    replace hO1 := hO1.keep bD
    replace s0 := kC bD s0
    replace s1 := kC bD s1
    replace s2 := kC bD s2
    replace hO2 := hO2.keep bD
    have t0 : (u4.alloc (.cells #[.bool P2.1, .slice a2 n2 c2, .int .i64 P2.2.2] 27)).cell? ⟨u4.heap.size, 0, none⟩ = some (.bool P2.1) := by go_simp
    have t1 : (u4.alloc (.cells #[.bool P2.1, .slice a2 n2 c2, .int .i64 P2.2.2] 27)).cell? ⟨u4.heap.size, 1, none⟩ = some (.slice a2 n2 c2) := by go_simp
    have t2 : (u4.alloc (.cells #[.bool P2.1, .slice a2 n2 c2, .int .i64 P2.2.2] 27)).cell? ⟨u4.heap.size, 2, none⟩ = some (.int .i64 P2.2.2) := by go_simp
    clear bD
    go_upto_region 5 with fail
    generalize u4.alloc (.cells #[.bool P2.1, .slice a2 n2 c2, .int .i64 P2.2.2] 27) = u5 at *
    generalize u4.heap.size = B2 at *
    go_wp2_with fail
    refine Calls.mono (Z2.out _ _ _ _ hO2.1 hn2) ?_
    rintro q x2 ⟨rfl, b1⟩
    replace bA := nT bA b1
    replace hO1 := hO1.keep b1
    replace s0 := kC b1 s0
    replace s1 := kC b1 s1
    replace s2 := kC b1 s2
    replace hO2 := hO2.keep b1
    replace t0 := kC b1 t0
    replace t1 := kC b1 t1
    replace t2 := kC b1 t2
    clear b1
    go_wp2_with fail
    go_ret
    exact ⟨rfl, bA⟩
  ·
    go_enter Tryz.func5, Tryz.ntmps5
    go_wp2_with fail
    refine Calls.mono LC.out ?_
    rintro q u1 ⟨rfl, b1⟩
    replace bA := nT bA b1
    clear b1 LC
    go_wp2_with fail
    refine Calls.mono (E1.out _ bA) ?_
    have lb := bA.size
    rintro q u2 ⟨_, rfl, ⟨a1, n1, c1, rfl, HN1, hn1, hO1⟩, b1⟩
    replace hO1 := hO1.low lb
    clear lb
    replace bA := nT bA b1
    clear b1 E1
    have bD := below_one u2 (.cells #[.bool P1.1, .slice a1 n1 c1, .int .i64 P1.2.2] 27)
    replace bA := nT bA bD
    replace hO1 := hO1.keep bD
    have s0 : (u2.alloc (.cells #[.bool P1.1, .slice a1 n1 c1, .int .i64 P1.2.2] 27)).cell? ⟨u2.heap.size, 0, none⟩ = some (.bool P1.1) := by go_simp
    have s1 : (u2.alloc (.cells #[.bool P1.1, .slice a1 n1 c1, .int .i64 P1.2.2] 27)).cell? ⟨u2.heap.size, 1, none⟩ = some (.slice a1 n1 c1) := by go_simp
    have s2 : (u2.alloc (.cells #[.bool P1.1, .slice a1 n1 c1, .int .i64 P1.2.2] 27)).cell? ⟨u2.heap.size, 2, none⟩ = some (.int .i64 P1.2.2) := by go_simp
    clear bD
    go_upto_region 4 with fail
    generalize u2.alloc (.cells #[.bool P1.1, .slice a1 n1 c1, .int .i64 P1.2.2] 27) = u3 at *
    generalize u2.heap.size = B1 at *
    go_wp2_with fail
    refine Calls.mono (E2.out _ bA) ?_
    have lb := bA.size
    rintro q u4 ⟨_, rfl, ⟨a2, n2, c2, rfl, HN2, hn2, hO2⟩, b1⟩
    replace hO2 := hO2.low lb
    clear lb
    replace bA := nT bA b1
    replace hO1 := hO1.keep b1
    replace s0 := kC b1 s0
    replace s1 := kC b1 s1
    replace s2 := kC b1 s2
    clear b1 E2
    have bD := below_one u4 (.cells #[.bool P2.1, .slice a2 n2 c2, .int .i64 P2.2.2] 27)
    replace bA := nT bA bD
    replace hO1 := hO1.keep bD
    replace s0 := kC bD s0
    replace s1 := kC bD s1
    replace s2 := kC bD s2
    replace hO2 := hO2.keep bD
    have t0 : (u4.alloc (.cells #[.bool P2.1, .slice a2 n2 c2, .int .i64 P2.2.2] 27)).cell? ⟨u4.heap.size, 0, none⟩ = some (.bool P2.1) := by go_simp
    have t1 : (u4.alloc (.cells #[.bool P2.1, .slice a2 n2 c2, .int .i64 P2.2.2] 27)).cell? ⟨u4.heap.size, 1, none⟩ = some (.slice a2 n2 c2) := by go_simp
    have t2 : (u4.alloc (.cells #[.bool P2.1, .slice a2 n2 c2, .int .i64 P2.2.2] 27)).cell? ⟨u4.heap.size, 2, none⟩ = some (.int .i64 P2.2.2) := by go_simp
    clear bD
    go_upto_region 5 with fail
    generalize u4.alloc (.cells #[.bool P2.1, .slice a2 n2 c2, .int .i64 P2.2.2] 27) = u5 at *
    generalize u4.heap.size = B2 at *
    go_wp2_with fail
    refine Calls.mono (Z2.out _ _ _ _ hO2.1 hn2) ?_
    rintro q x2 ⟨rfl, b1⟩
    replace bA := nT bA b1
    replace hO1 := hO1.keep b1
    replace s0 := kC b1 s0
    replace s1 := kC b1 s1
    replace s2 := kC b1 s2
    replace hO2 := hO2.keep b1
    replace t0 := kC b1 t0
    replace t1 := kC b1 t1
    replace t2 := kC b1 t2
    clear b1
    go_wp2_with fail
    refine Calls.mono (G2.out _ _ _ _ hO2.1 hn2) ?_
    rintro q y2 ⟨rfl, b1⟩
    replace bA := nT bA b1
    replace hO1 := hO1.keep b1
    replace s0 := kC b1 s0
    replace s1 := kC b1 s1
    replace s2 := kC b1 s2
    replace hO2 := hO2.keep b1
    replace t0 := kC b1 t0
    replace t1 := kC b1 t1
    replace t2 := kC b1 t2
    clear b1
    go_wp2_with fail
    go_ret
    exact ⟨rfl, bA⟩
  ·
    go_enter Tryz.func5, Tryz.ntmps5
    go_wp2_with fail
    refine Calls.mono LC.out ?_
    rintro q u1 ⟨rfl, b1⟩
    replace bA := nT bA b1
    clear b1 LC
    go_wp2_with fail
    refine Calls.mono (E1.out _ bA) ?_
    have lb := bA.size
    rintro q u2 ⟨_, rfl, ⟨a1, n1, c1, rfl, HN1, hn1, hO1⟩, b1⟩
    replace hO1 := hO1.low lb
    clear lb
    replace bA := nT bA b1
    clear b1 E1
    have bD := below_one u2 (.cells #[.bool P1.1, .slice a1 n1 c1, .int .i64 P1.2.2] 27)
    replace bA := nT bA bD
    replace hO1 := hO1.keep bD
    have s0 : (u2.alloc (.cells #[.bool P1.1, .slice a1 n1 c1, .int .i64 P1.2.2] 27)).cell? ⟨u2.heap.size, 0, none⟩ = some (.bool P1.1) := by go_simp
    have s1 : (u2.alloc (.cells #[.bool P1.1, .slice a1 n1 c1, .int .i64 P1.2.2] 27)).cell? ⟨u2.heap.size, 1, none⟩ = some (.slice a1 n1 c1) := by go_simp
    have s2 : (u2.alloc (.cells #[.bool P1.1, .slice a1 n1 c1, .int .i64 P1.2.2] 27)).cell? ⟨u2.heap.size, 2, none⟩ = some (.int .i64 P1.2.2) := by go_simp
    clear bD
    go_upto_region 4 with fail
    generalize u2.alloc (.cells #[.bool P1.1, .slice a1 n1 c1, .int .i64 P1.2.2] 27) = u3 at *
    generalize u2.heap.size = B1 at *
    go_wp2_with fail
    refine Calls.mono (E2.out _ bA) ?_
    have lb := bA.size
    rintro q u4 ⟨_, rfl, ⟨a2, n2, c2, rfl, HN2, hn2, hO2⟩, b1⟩
    replace hO2 := hO2.low lb
    clear lb
    replace bA := nT bA b1
    replace hO1 := hO1.keep b1
    replace s0 := kC b1 s0
    replace s1 := kC b1 s1
    replace s2 := kC b1 s2
    clear b1 E2
    have bD := below_one u4 (.cells #[.bool P2.1, .slice a2 n2 c2, .int .i64 P2.2.2] 27)
    replace bA := nT bA bD
    replace hO1 := hO1.keep bD
    replace s0 := kC bD s0
    replace s1 := kC bD s1
    replace s2 := kC bD s2
    replace hO2 := hO2.keep bD
    have t0 : (u4.alloc (.cells #[.bool P2.1, .slice a2 n2 c2, .int .i64 P2.2.2] 27)).cell? ⟨u4.heap.size, 0, none⟩ = some (.bool P2.1) := by go_simp
    have t1 : (u4.alloc (.cells #[.bool P2.1, .slice a2 n2 c2, .int .i64 P2.2.2] 27)).cell? ⟨u4.heap.size, 1, none⟩ = some (.slice a2 n2 c2) := by go_simp
    have t2 : (u4.alloc (.cells #[.bool P2.1, .slice a2 n2 c2, .int .i64 P2.2.2] 27)).cell? ⟨u4.heap.size, 2, none⟩ = some (.int .i64 P2.2.2) := by go_simp
    clear bD
    go_upto_region 5 with fail
    generalize u4.alloc (.cells #[.bool P2.1, .slice a2 n2 c2, .int .i64 P2.2.2] 27) = u5 at *
    generalize u4.heap.size = B2 at *
    go_wp2_with fail
    refine Calls.mono (Z2.out _ _ _ _ hO2.1 hn2) ?_
    rintro q x2 ⟨rfl, b1⟩
    replace bA := nT bA b1
    replace hO1 := hO1.keep b1
    replace s0 := kC b1 s0
    replace s1 := kC b1 s1
    replace s2 := kC b1 s2
    replace hO2 := hO2.keep b1
    replace t0 := kC b1 t0
    replace t1 := kC b1 t1
    replace t2 := kC b1 t2
    clear b1
    go_wp2_with fail
    go_ret
    exact ⟨rfl, bA⟩
  ·
    go_enter Tryz.func5, Tryz.ntmps5
    go_wp2_with fail
    refine Calls.mono LC.out ?_
    rintro q u1 ⟨rfl, b1⟩
    replace bA := nT bA b1
    clear b1 LC
    go_wp2_with fail
    refine Calls.mono (E1.out _ bA) ?_
    have lb := bA.size
    rintro q u2 ⟨_, rfl, ⟨a1, n1, c1, rfl, HN1, hn1, hO1⟩, b1⟩
    replace hO1 := hO1.low lb
    clear lb
    replace bA := nT bA b1
    clear b1 E1
    have bD := below_one u2 (.cells #[.bool P1.1, .slice a1 n1 c1, .int .i64 P1.2.2] 27)
    replace bA := nT bA bD
    replace hO1 := hO1.keep bD
    have s0 : (u2.alloc (.cells #[.bool P1.1, .slice a1 n1 c1, .int .i64 P1.2.2] 27)).cell? ⟨u2.heap.size, 0, none⟩ = some (.bool P1.1) := by go_simp
    have s1 : (u2.alloc (.cells #[.bool P1.1, .slice a1 n1 c1, .int .i64 P1.2.2] 27)).cell? ⟨u2.heap.size, 1, none⟩ = some (.slice a1 n1 c1) := by go_simp
    have s2 : (u2.alloc (.cells #[.bool P1.1, .slice a1 n1 c1, .int .i64 P1.2.2] 27)).cell? ⟨u2.heap.size, 2, none⟩ = some (.int .i64 P1.2.2) := by go_simp
    clear bD
    go_upto_region 4 with fail
    generalize u2.alloc (.cells #[.bool P1.1, .slice a1 n1 c1, .int .i64 P1.2.2] 27) = u3 at *
    generalize u2.heap.size = B1 at *
    go_wp2_with fail
    refine Calls.mono (E2.out _ bA) ?_
    have lb := bA.size
    rintro q u4 ⟨_, rfl, ⟨a2, n2, c2, rfl, HN2, hn2, hO2⟩, b1⟩
    replace hO2 := hO2.low lb
    clear lb
    replace bA := nT bA b1
    replace hO1 := hO1.keep b1
    replace s0 := kC b1 s0
    replace s1 := kC b1 s1
    replace s2 := kC b1 s2
    clear b1 E2
    have bD := below_one u4 (.cells #[.bool P2.1, .slice a2 n2 c2, .int .i64 P2.2.2] 27)
    replace bA := nT bA bD
    replace hO1 := hO1.keep bD
    replace s0 := kC bD s0
    replace s1 := kC bD s1
    replace s2 := kC bD s2
    replace hO2 := hO2.keep bD
    have t0 : (u4.alloc (.cells #[.bool P2.1, .slice a2 n2 c2, .int .i64 P2.2.2] 27)).cell? ⟨u4.heap.size, 0, none⟩ = some (.bool P2.1) := by go_simp
    have t1 : (u4.alloc (.cells #[.bool P2.1, .slice a2 n2 c2, .int .i64 P2.2.2] 27)).cell? ⟨u4.heap.size, 1, none⟩ = some (.slice a2 n2 c2) := by go_simp
    have t2 : (u4.alloc (.cells #[.bool P2.1, .slice a2 n2 c2, .int .i64 P2.2.2] 27)).cell? ⟨u4.heap.size, 2, none⟩ = some (.int .i64 P2.2.2) := by go_simp
    clear bD
    go_upto_region 5 with fail
    generalize u4.alloc (.cells #[.bool P2.1, .slice a2 n2 c2, .int .i64 P2.2.2] 27) = u5 at *
    generalize u4.heap.size = B2 at *
    go_wp2_with fail
    refine Calls.mono (Z1.out _ _ _ _ hO1.1 hn1) ?_
    rintro q x1 ⟨rfl, b1⟩
    replace bA := nT bA b1
    replace hO1 := hO1.keep b1
    replace s0 := kC b1 s0
    replace s1 := kC b1 s1
    replace s2 := kC b1 s2
    replace hO2 := hO2.keep b1
    replace t0 := kC b1 t0
    replace t1 := kC b1 t1
    replace t2 := kC b1 t2
    clear b1
    go_wp2_with fail
    refine Calls.mono (G1.out _ _ _ _ hO1.1 hn1) ?_
    rintro q y1 ⟨rfl, b1⟩
    replace bA := nT bA b1
    replace hO1 := hO1.keep b1
    replace s0 := kC b1 s0
    replace s1 := kC b1 s1
    replace s2 := kC b1 s2
    replace hO2 := hO2.keep b1
    replace t0 := kC b1 t0
    replace t1 := kC b1 t1
    replace t2 := kC b1 t2
    clear b1
    go_wp2_with fail
    go_ret
    exact ⟨rfl, bA⟩
  ·
    go_enter Tryz.func5, Tryz.ntmps5
    go_wp2_with fail
    refine Calls.mono LC.out ?_
    rintro q u1 ⟨rfl, b1⟩
    replace bA := nT bA b1
    clear b1 LC
    go_wp2_with fail
    refine Calls.mono (E1.out _ bA) ?_
    have lb := bA.size
    rintro q u2 ⟨_, rfl, ⟨a1, n1, c1, rfl, HN1, hn1, hO1⟩, b1⟩
    replace hO1 := hO1.low lb
    clear lb
    replace bA := nT bA b1
    clear b1 E1
    have bD := below_one u2 (.cells #[.bool P1.1, .slice a1 n1 c1, .int .i64 P1.2.2] 27)
    replace bA := nT bA bD
    replace hO1 := hO1.keep bD
    have s0 : (u2.alloc (.cells #[.bool P1.1, .slice a1 n1 c1, .int .i64 P1.2.2] 27)).cell? ⟨u2.heap.size, 0, none⟩ = some (.bool P1.1) := by go_simp
    have s1 : (u2.alloc (.cells #[.bool P1.1, .slice a1 n1 c1, .int .i64 P1.2.2] 27)).cell? ⟨u2.heap.size, 1, none⟩ = some (.slice a1 n1 c1) := by go_simp
    have s2 : (u2.alloc (.cells #[.bool P1.1, .slice a1 n1 c1, .int .i64 P1.2.2] 27)).cell? ⟨u2.heap.size, 2, none⟩ = some (.int .i64 P1.2.2) := by go_simp
    clear bD
    go_upto_region 4 with fail
    generalize u2.alloc (.cells #[.bool P1.1, .slice a1 n1 c1, .int .i64 P1.2.2] 27) = u3 at *
    generalize u2.heap.size = B1 at *
    go_wp2_with fail
    refine Calls.mono (E2.out _ bA) ?_
    have lb := bA.size
    rintro q u4 ⟨_, rfl, ⟨a2, n2, c2, rfl, HN2, hn2, hO2⟩, b1⟩
    replace hO2 := hO2.low lb
    clear lb
    replace bA := nT bA b1
    replace hO1 := hO1.keep b1
    replace s0 := kC b1 s0
    replace s1 := kC b1 s1
    replace s2 := kC b1 s2
    clear b1 E2
    have bD := below_one u4 (.cells #[.bool P2.1, .slice a2 n2 c2, .int .i64 P2.2.2] 27)
    replace bA := nT bA bD
    replace hO1 := hO1.keep bD
    replace s0 := kC bD s0
    replace s1 := kC bD s1
    replace s2 := kC bD s2
    replace hO2 := hO2.keep bD
    have t0 : (u4.alloc (.cells #[.bool P2.1, .slice a2 n2 c2, .int .i64 P2.2.2] 27)).cell? ⟨u4.heap.size, 0, none⟩ = some (.bool P2.1) := by go_simp
    have t1 : (u4.alloc (.cells #[.bool P2.1, .slice a2 n2 c2, .int .i64 P2.2.2] 27)).cell? ⟨u4.heap.size, 1, none⟩ = some (.slice a2 n2 c2) := by go_simp
    have t2 : (u4.alloc (.cells #[.bool P2.1, .slice a2 n2 c2, .int .i64 P2.2.2] 27)).cell? ⟨u4.heap.size, 2, none⟩ = some (.int .i64 P2.2.2) := by go_simp
    clear bD
    go_upto_region 5 with fail
    generalize u4.alloc (.cells #[.bool P2.1, .slice a2 n2 c2, .int .i64 P2.2.2] 27) = u5 at *
    generalize u4.heap.size = B2 at *
    go_wp2_with fail
    refine Calls.mono (Z1.out _ _ _ _ hO1.1 hn1) ?_
    rintro q x1 ⟨rfl, b1⟩
    replace bA := nT bA b1
    replace hO1 := hO1.keep b1
    replace s0 := kC b1 s0
    replace s1 := kC b1 s1
    replace s2 := kC b1 s2
    replace hO2 := hO2.keep b1
    replace t0 := kC b1 t0
    replace t1 := kC b1 t1
    replace t2 := kC b1 t2
    clear b1
    go_wp2_with fail
    refine Calls.mono (G1.out _ _ _ _ hO1.1 hn1) ?_
    rintro q y1 ⟨rfl, b1⟩
    replace bA := nT bA b1
    replace hO1 := hO1.keep b1
    replace s0 := kC b1 s0
    replace s1 := kC b1 s1
    replace s2 := kC b1 s2
    replace hO2 := hO2.keep b1
    replace t0 := kC b1 t0
    replace t1 := kC b1 t1
    replace t2 := kC b1 t2
    clear b1
    go_wp2_with fail
    go_ret
    exact ⟨rfl, bA⟩
  ·
    go_enter Tryz.func5, Tryz.ntmps5
    go_wp2_with fail
    refine Calls.mono LC.out ?_
    rintro q u1 ⟨rfl, b1⟩
    replace bA := nT bA b1
    clear b1 LC
    go_wp2_with fail
    refine Calls.mono (E1.out _ bA) ?_
    have lb := bA.size
    rintro q u2 ⟨_, rfl, ⟨a1, n1, c1, rfl, HN1, hn1, hO1⟩, b1⟩
    replace hO1 := hO1.low lb
    clear lb
    replace bA := nT bA b1
    clear b1 E1
    have bD := below_one u2 (.cells #[.bool P1.1, .slice a1 n1 c1, .int .i64 P1.2.2] 27)
    replace bA := nT bA bD
    replace hO1 := hO1.keep bD
    have s0 : (u2.alloc (.cells #[.bool P1.1, .slice a1 n1 c1, .int .i64 P1.2.2] 27)).cell? ⟨u2.heap.size, 0, none⟩ = some (.bool P1.1) := by go_simp
    have s1 : (u2.alloc (.cells #[.bool P1.1, .slice a1 n1 c1, .int .i64 P1.2.2] 27)).cell? ⟨u2.heap.size, 1, none⟩ = some (.slice a1 n1 c1) := by go_simp
    have s2 : (u2.alloc (.cells #[.bool P1.1, .slice a1 n1 c1, .int .i64 P1.2.2] 27)).cell? ⟨u2.heap.size, 2, none⟩ = some (.int .i64 P1.2.2) := by go_simp
    clear bD
    go_upto_region 4 with fail
    generalize u2.alloc (.cells #[.bool P1.1, .slice a1 n1 c1, .int .i64 P1.2.2] 27) = u3 at *
    generalize u2.heap.size = B1 at *
    go_wp2_with fail
    refine Calls.mono (E2.out _ bA) ?_
    have lb := bA.size
    rintro q u4 ⟨_, rfl, ⟨a2, n2, c2, rfl, HN2, hn2, hO2⟩, b1⟩
    replace hO2 := hO2.low lb
    clear lb
    replace bA := nT bA b1
    replace hO1 := hO1.keep b1
    replace s0 := kC b1 s0
    replace s1 := kC b1 s1
    replace s2 := kC b1 s2
    clear b1 E2
    have bD := below_one u4 (.cells #[.bool P2.1, .slice a2 n2 c2, .int .i64 P2.2.2] 27)
    replace bA := nT bA bD
    replace hO1 := hO1.keep bD
    replace s0 := kC bD s0
    replace s1 := kC bD s1
    replace s2 := kC bD s2
    replace hO2 := hO2.keep bD
    have t0 : (u4.alloc (.cells #[.bool P2.1, .slice a2 n2 c2, .int .i64 P2.2.2] 27)).cell? ⟨u4.heap.size, 0, none⟩ = some (.bool P2.1) := by go_simp
    have t1 : (u4.alloc (.cells #[.bool P2.1, .slice a2 n2 c2, .int .i64 P2.2.2] 27)).cell? ⟨u4.heap.size, 1, none⟩ = some (.slice a2 n2 c2) := by go_simp
    have t2 : (u4.alloc (.cells #[.bool P2.1, .slice a2 n2 c2, .int .i64 P2.2.2] 27)).cell? ⟨u4.heap.size, 2, none⟩ = some (.int .i64 P2.2.2) := by go_simp
    clear bD
    go_upto_region 5 with fail
    generalize u4.alloc (.cells #[.bool P2.1, .slice a2 n2 c2, .int .i64 P2.2.2] 27) = u5 at *
    generalize u4.heap.size = B2 at *
    go_wp2_with fail
    refine Calls.mono (Z1.out _ _ _ _ hO1.1 hn1) ?_
    rintro q x1 ⟨rfl, b1⟩
    replace bA := nT bA b1
    replace hO1 := hO1.keep b1
    replace s0 := kC b1 s0
    replace s1 := kC b1 s1
    replace s2 := kC b1 s2
    replace hO2 := hO2.keep b1
    replace t0 := kC b1 t0
    replace t1 := kC b1 t1
    replace t2 := kC b1 t2
    clear b1
    go_wp2_with fail
    go_ret
    exact ⟨rfl, bA⟩
  ·
    go_enter Tryz.func5, Tryz.ntmps5
    go_wp2_with fail
    refine Calls.mono LC.out ?_
    rintro q u1 ⟨rfl, b1⟩
    replace bA := nT bA b1
    clear b1 LC
    go_wp2_with fail
    refine Calls.mono (E1.out _ bA) ?_
    have lb := bA.size
    rintro q u2 ⟨_, rfl, ⟨a1, n1, c1, rfl, HN1, hn1, hO1⟩, b1⟩
    replace hO1 := hO1.low lb
    clear lb
    replace bA := nT bA b1
    clear b1 E1
    have bD := below_one u2 (.cells #[.bool P1.1, .slice a1 n1 c1, .int .i64 P1.2.2] 27)
    replace bA := nT bA bD
    replace hO1 := hO1.keep bD
    have s0 : (u2.alloc (.cells #[.bool P1.1, .slice a1 n1 c1, .int .i64 P1.2.2] 27)).cell? ⟨u2.heap.size, 0, none⟩ = some (.bool P1.1) := by go_simp
    have s1 : (u2.alloc (.cells #[.bool P1.1, .slice a1 n1 c1, .int .i64 P1.2.2] 27)).cell? ⟨u2.heap.size, 1, none⟩ = some (.slice a1 n1 c1) := by go_simp
    have s2 : (u2.alloc (.cells #[.bool P1.1, .slice a1 n1 c1, .int .i64 P1.2.2] 27)).cell? ⟨u2.heap.size, 2, none⟩ = some (.int .i64 P1.2.2) := by go_simp
    clear bD
    go_upto_region 4 with fail
    generalize u2.alloc (.cells #[.bool P1.1, .slice a1 n1 c1, .int .i64 P1.2.2] 27) = u3 at *
    generalize u2.heap.size = B1 at *
    go_wp2_with fail
    refine Calls.mono (E2.out _ bA) ?_
    have lb := bA.size
    rintro q u4 ⟨_, rfl, ⟨a2, n2, c2, rfl, HN2, hn2, hO2⟩, b1⟩
    replace hO2 := hO2.low lb
    clear lb
    replace bA := nT bA b1
    replace hO1 := hO1.keep b1
    replace s0 := kC b1 s0
    replace s1 := kC b1 s1
    replace s2 := kC b1 s2
    clear b1 E2
    have bD := below_one u4 (.cells #[.bool P2.1, .slice a2 n2 c2, .int .i64 P2.2.2] 27)
    replace bA := nT bA bD
    replace hO1 := hO1.keep bD
    replace s0 := kC bD s0
    replace s1 := kC bD s1
    replace s2 := kC bD s2
    replace hO2 := hO2.keep bD
    have t0 : (u4.alloc (.cells #[.bool P2.1, .slice a2 n2 c2, .int .i64 P2.2.2] 27)).cell? ⟨u4.heap.size, 0, none⟩ = some (.bool P2.1) := by go_simp
    have t1 : (u4.alloc (.cells #[.bool P2.1, .slice a2 n2 c2, .int .i64 P2.2.2] 27)).cell? ⟨u4.heap.size, 1, none⟩ = some (.slice a2 n2 c2) := by go_simp
    have t2 : (u4.alloc (.cells #[.bool P2.1, .slice a2 n2 c2, .int .i64 P2.2.2] 27)).cell? ⟨u4.heap.size, 2, none⟩ = some (.int .i64 P2.2.2) := by go_simp
    clear bD
    go_upto_region 5 with fail
    generalize u4.alloc (.cells #[.bool P2.1, .slice a2 n2 c2, .int .i64 P2.2.2] 27) = u5 at *
    generalize u4.heap.size = B2 at *
    go_wp2_with fail
    refine Calls.mono (Z1.out _ _ _ _ hO1.1 hn1) ?_
    rintro q x1 ⟨rfl, b1⟩
    replace bA := nT bA b1
    replace hO1 := hO1.keep b1
    replace s0 := kC b1 s0
    replace s1 := kC b1 s1
    replace s2 := kC b1 s2
    replace hO2 := hO2.keep b1
    replace t0 := kC b1 t0
    replace t1 := kC b1 t1
    replace t2 := kC b1 t2
    clear b1
    go_wp2_with fail
    go_ret
    exact ⟨rfl, bA⟩
  ·
    go_enter Tryz.func5, Tryz.ntmps5
    go_wp2_with fail
    refine Calls.mono LC.out ?_
    rintro q u1 ⟨rfl, b1⟩
    replace bA := nT bA b1
    clear b1 LC
    go_wp2_with fail
    refine Calls.mono (E1.out _ bA) ?_
    have lb := bA.size
    rintro q u2 ⟨_, rfl, ⟨a1, n1, c1, rfl, HN1, hn1, hO1⟩, b1⟩
    replace hO1 := hO1.low lb
    clear lb
    replace bA := nT bA b1
    clear b1 E1
    have bD := below_one u2 (.cells #[.bool P1.1, .slice a1 n1 c1, .int .i64 P1.2.2] 27)
    replace bA := nT bA bD
    replace hO1 := hO1.keep bD
    have s0 : (u2.alloc (.cells #[.bool P1.1, .slice a1 n1 c1, .int .i64 P1.2.2] 27)).cell? ⟨u2.heap.size, 0, none⟩ = some (.bool P1.1) := by go_simp
    have s1 : (u2.alloc (.cells #[.bool P1.1, .slice a1 n1 c1, .int .i64 P1.2.2] 27)).cell? ⟨u2.heap.size, 1, none⟩ = some (.slice a1 n1 c1) := by go_simp
    have s2 : (u2.alloc (.cells #[.bool P1.1, .slice a1 n1 c1, .int .i64 P1.2.2] 27)).cell? ⟨u2.heap.size, 2, none⟩ = some (.int .i64 P1.2.2) := by go_simp
    clear bD
    go_upto_region 4 with fail
    generalize u2.alloc (.cells #[.bool P1.1, .slice a1 n1 c1, .int .i64 P1.2.2] 27) = u3 at *
    generalize u2.heap.size = B1 at *
    go_wp2_with fail
    refine Calls.mono (E2.out _ bA) ?_
    have lb := bA.size
    rintro q u4 ⟨_, rfl, ⟨a2, n2, c2, rfl, HN2, hn2, hO2⟩, b1⟩
    replace hO2 := hO2.low lb
    clear lb
    replace bA := nT bA b1
    replace hO1 := hO1.keep b1
    replace s0 := kC b1 s0
    replace s1 := kC b1 s1
    replace s2 := kC b1 s2
    clear b1 E2
    have bD := below_one u4 (.cells #[.bool P2.1, .slice a2 n2 c2, .int .i64 P2.2.2] 27)
    replace bA := nT bA bD
    replace hO1 := hO1.keep bD
    replace s0 := kC bD s0
    replace s1 := kC bD s1
    replace s2 := kC bD s2
    replace hO2 := hO2.keep bD
    have t0 : (u4.alloc (.cells #[.bool P2.1, .slice a2 n2 c2, .int .i64 P2.2.2] 27)).cell? ⟨u4.heap.size, 0, none⟩ = some (.bool P2.1) := by go_simp
    have t1 : (u4.alloc (.cells #[.bool P2.1, .slice a2 n2 c2, .int .i64 P2.2.2] 27)).cell? ⟨u4.heap.size, 1, none⟩ = some (.slice a2 n2 c2) := by go_simp
    have t2 : (u4.alloc (.cells #[.bool P2.1, .slice a2 n2 c2, .int .i64 P2.2.2] 27)).cell? ⟨u4.heap.size, 2, none⟩ = some (.int .i64 P2.2.2) := by go_simp
    clear bD
    go_upto_region 5 with fail
    generalize u4.alloc (.cells #[.bool P2.1, .slice a2 n2 c2, .int .i64 P2.2.2] 27) = u5 at *
    generalize u4.heap.size = B2 at *
    go_wp2_with fail
    refine Calls.mono (Z1.out _ _ _ _ hO1.1 hn1) ?_
    rintro q x1 ⟨rfl, b1⟩
    replace bA := nT bA b1
    replace hO1 := hO1.keep b1
    replace s0 := kC b1 s0
    replace s1 := kC b1 s1
    replace s2 := kC b1 s2
    replace hO2 := hO2.keep b1
    replace t0 := kC b1 t0
    replace t1 := kC b1 t1
    replace t2 := kC b1 t2
    clear b1
    go_wp2_with fail
    refine Calls.mono (G1.out _ _ _ _ hO1.1 hn1) ?_
    rintro q y1 ⟨rfl, b1⟩
    replace bA := nT bA b1
    replace hO1 := hO1.keep b1
    replace s0 := kC b1 s0
    replace s1 := kC b1 s1
    replace s2 := kC b1 s2
    replace hO2 := hO2.keep b1
    replace t0 := kC b1 t0
    replace t1 := kC b1 t1
    replace t2 := kC b1 t2
    clear b1
    go_wp2_with fail
    refine Calls.mono (Z2.out _ _ _ _ hO2.1 hn2) ?_
    rintro q x2 ⟨rfl, b1⟩
    replace bA := nT bA b1
    replace hO1 := hO1.keep b1
    replace s0 := kC b1 s0
    replace s1 := kC b1 s1
    replace s2 := kC b1 s2
    replace hO2 := hO2.keep b1
    replace t0 := kC b1 t0
    replace t1 := kC b1 t1
    replace t2 := kC b1 t2
    clear b1
    go_wp2_with fail
    refine Calls.mono (G2.out _ _ _ _ hO2.1 hn2) ?_
    rintro q y2 ⟨rfl, b1⟩
    replace bA := nT bA b1
    replace hO1 := hO1.keep b1
    replace s0 := kC b1 s0
    replace s1 := kC b1 s1
    replace s2 := kC b1 s2
    replace hO2 := hO2.keep b1
    replace t0 := kC b1 t0
    replace t1 := kC b1 t1
    replace t2 := kC b1 t2
    clear b1
    go_wp2_with fail
    go_ret
    exact ⟨rfl, bA⟩
  ·
    go_enter Tryz.func5, Tryz.ntmps5
    go_wp2_with fail
    refine Calls.mono LC.out ?_
    rintro q u1 ⟨rfl, b1⟩
    replace bA := nT bA b1
    clear b1 LC
    go_wp2_with fail
    refine Calls.mono (E1.out _ bA) ?_
    have lb := bA.size
    rintro q u2 ⟨_, rfl, ⟨a1, n1, c1, rfl, HN1, hn1, hO1⟩, b1⟩
    replace hO1 := hO1.low lb
    clear lb
    replace bA := nT bA b1
    clear b1 E1
    have bD := below_one u2 (.cells #[.bool P1.1, .slice a1 n1 c1, .int .i64 P1.2.2] 27)
    replace bA := nT bA bD
    replace hO1 := hO1.keep bD
    have s0 : (u2.alloc (.cells #[.bool P1.1, .slice a1 n1 c1, .int .i64 P1.2.2] 27)).cell? ⟨u2.heap.size, 0, none⟩ = some (.bool P1.1) := by go_simp
    have s1 : (u2.alloc (.cells #[.bool P1.1, .slice a1 n1 c1, .int .i64 P1.2.2] 27)).cell? ⟨u2.heap.size, 1, none⟩ = some (.slice a1 n1 c1) := by go_simp
    have s2 : (u2.alloc (.cells #[.bool P1.1, .slice a1 n1 c1, .int .i64 P1.2.2] 27)).cell? ⟨u2.heap.size, 2, none⟩ = some (.int .i64 P1.2.2) := by go_simp
    clear bD
    go_upto_region 4 with fail
    generalize u2.alloc (.cells #[.bool P1.1, .slice a1 n1 c1, .int .i64 P1.2.2] 27) = u3 at *
    generalize u2.heap.size = B1 at *
    go_wp2_with fail
    refine Calls.mono (E2.out _ bA) ?_
    have lb := bA.size
    rintro q u4 ⟨_, rfl, ⟨a2, n2, c2, rfl, HN2, hn2, hO2⟩, b1⟩
    replace hO2 := hO2.low lb
    clear lb
    replace bA := nT bA b1
    replace hO1 := hO1.keep b1
    replace s0 := kC b1 s0
    replace s1 := kC b1 s1
    replace s2 := kC b1 s2
    clear b1 E2
    have bD := below_one u4 (.cells #[.bool P2.1, .slice a2 n2 c2, .int .i64 P2.2.2] 27)
    replace bA := nT bA bD
    replace hO1 := hO1.keep bD
    replace s0 := kC bD s0
    replace s1 := kC bD s1
    replace s2 := kC bD s2
    replace hO2 := hO2.keep bD
    have t0 : (u4.alloc (.cells #[.bool P2.1, .slice a2 n2 c2, .int .i64 P2.2.2] 27)).cell? ⟨u4.heap.size, 0, none⟩ = some (.bool P2.1) := by go_simp
    have t1 : (u4.alloc (.cells #[.bool P2.1, .slice a2 n2 c2, .int .i64 P2.2.2] 27)).cell? ⟨u4.heap.size, 1, none⟩ = some (.slice a2 n2 c2) := by go_simp
    have t2 : (u4.alloc (.cells #[.bool P2.1, .slice a2 n2 c2, .int .i64 P2.2.2] 27)).cell? ⟨u4.heap.size, 2, none⟩ = some (.int .i64 P2.2.2) := by go_simp
    clear bD
    go_upto_region 5 with fail
    generalize u4.alloc (.cells #[.bool P2.1, .slice a2 n2 c2, .int .i64 P2.2.2] 27) = u5 at *
    generalize u4.heap.size = B2 at *
    go_wp2_with fail
    refine Calls.mono (Z1.out _ _ _ _ hO1.1 hn1) ?_
    rintro q x1 ⟨rfl, b1⟩
    replace bA := nT bA b1
    replace hO1 := hO1.keep b1
    replace s0 := kC b1 s0
    replace s1 := kC b1 s1
    replace s2 := kC b1 s2
    replace hO2 := hO2.keep b1
    replace t0 := kC b1 t0
    replace t1 := kC b1 t1
    replace t2 := kC b1 t2
    clear b1
    go_wp2_with fail
    refine Calls.mono (G1.out _ _ _ _ hO1.1 hn1) ?_
    rintro q y1 ⟨rfl, b1⟩
    replace bA := nT bA b1
    replace hO1 := hO1.keep b1
    replace s0 := kC b1 s0
    replace s1 := kC b1 s1
    replace s2 := kC b1 s2
    replace hO2 := hO2.keep b1
    replace t0 := kC b1 t0
    replace t1 := kC b1 t1
    replace t2 := kC b1 t2
    clear b1
    go_wp2_with fail
    refine Calls.mono (Z2.out _ _ _ _ hO2.1 hn2) ?_
    rintro q x2 ⟨rfl, b1⟩
    replace bA := nT bA b1
    replace hO1 := hO1.keep b1
    replace s0 := kC b1 s0
    replace s1 := kC b1 s1
    replace s2 := kC b1 s2
    replace hO2 := hO2.keep b1
    replace t0 := kC b1 t0
    replace t1 := kC b1 t1
    replace t2 := kC b1 t2
    clear b1
    go_wp2_with fail
    go_ret
    exact ⟨rfl, bA⟩
  ·
    go_enter Tryz.func5, Tryz.ntmps5
    go_wp2_with fail
    refine Calls.mono LC.out ?_
    rintro q u1 ⟨rfl, b1⟩
    replace bA := nT bA b1
    clear b1 LC
    go_wp2_with fail
    refine Calls.mono (E1.out _ bA) ?_
    have lb := bA.size
    rintro q u2 ⟨_, rfl, ⟨a1, n1, c1, rfl, HN1, hn1, hO1⟩, b1⟩
    replace hO1 := hO1.low lb
    clear lb
    replace bA := nT bA b1
    clear b1 E1
    have bD := below_one u2 (.cells #[.bool P1.1, .slice a1 n1 c1, .int .i64 P1.2.2] 27)
    replace bA := nT bA bD
    replace hO1 := hO1.keep bD
    have s0 : (u2.alloc (.cells #[.bool P1.1, .slice a1 n1 c1, .int .i64 P1.2.2] 27)).cell? ⟨u2.heap.size, 0, none⟩ = some (.bool P1.1) := by go_simp
    have s1 : (u2.alloc (.cells #[.bool P1.1, .slice a1 n1 c1, .int .i64 P1.2.2] 27)).cell? ⟨u2.heap.size, 1, none⟩ = some (.slice a1 n1 c1) := by go_simp
    have s2 : (u2.alloc (.cells #[.bool P1.1, .slice a1 n1 c1, .int .i64 P1.2.2] 27)).cell? ⟨u2.heap.size, 2, none⟩ = some (.int .i64 P1.2.2) := by go_simp
    clear bD
    go_upto_region 4 with fail
    generalize u2.alloc (.cells #[.bool P1.1, .slice a1 n1 c1, .int .i64 P1.2.2] 27) = u3 at *
    generalize u2.heap.size = B1 at *
    go_wp2_with fail
    refine Calls.mono (E2.out _ bA) ?_
    have lb := bA.size
    rintro q u4 ⟨_, rfl, ⟨a2, n2, c2, rfl, HN2, hn2, hO2⟩, b1⟩
    replace hO2 := hO2.low lb
    clear lb
    replace bA := nT bA b1
    replace hO1 := hO1.keep b1
    replace s0 := kC b1 s0
    replace s1 := kC b1 s1
    replace s2 := kC b1 s2
    clear b1 E2
    have bD := below_one u4 (.cells #[.bool P2.1, .slice a2 n2 c2, .int .i64 P2.2.2] 27)
    replace bA := nT bA bD
    replace hO1 := hO1.keep bD
    replace s0 := kC bD s0
    replace s1 := kC bD s1
    replace s2 := kC bD s2
    replace hO2 := hO2.keep bD
    have t0 : (u4.alloc (.cells #[.bool P2.1, .slice a2 n2 c2, .int .i64 P2.2.2] 27)).cell? ⟨u4.heap.size, 0, none⟩ = some (.bool P2.1) := by go_simp
    have t1 : (u4.alloc (.cells #[.bool P2.1, .slice a2 n2 c2, .int .i64 P2.2.2] 27)).cell? ⟨u4.heap.size, 1, none⟩ = some (.slice a2 n2 c2) := by go_simp
    have t2 : (u4.alloc (.cells #[.bool P2.1, .slice a2 n2 c2, .int .i64 P2.2.2] 27)).cell? ⟨u4.heap.size, 2, none⟩ = some (.int .i64 P2.2.2) := by go_simp
    clear bD
    go_upto_region 5 with fail
    generalize u4.alloc (.cells #[.bool P2.1, .slice a2 n2 c2, .int .i64 P2.2.2] 27) = u5 at *
    generalize u4.heap.size = B2 at *
    go_wp2_with fail
    refine Calls.mono (Z1.out _ _ _ _ hO1.1 hn1) ?_
    rintro q x1 ⟨rfl, b1⟩
    replace bA := nT bA b1
    replace hO1 := hO1.keep b1
    replace s0 := kC b1 s0
    replace s1 := kC b1 s1
    replace s2 := kC b1 s2
    replace hO2 := hO2.keep b1
    replace t0 := kC b1 t0
    replace t1 := kC b1 t1
    replace t2 := kC b1 t2
    clear b1
    go_wp2_with fail
    refine Calls.mono (Z2.out _ _ _ _ hO2.1 hn2) ?_
    rintro q x2 ⟨rfl, b1⟩
    replace bA := nT bA b1
    replace hO1 := hO1.keep b1
    replace s0 := kC b1 s0
    replace s1 := kC b1 s1
    replace s2 := kC b1 s2
    replace hO2 := hO2.keep b1
    replace t0 := kC b1 t0
    replace t1 := kC b1 t1
    replace t2 := kC b1 t2
    clear b1
    go_wp2_with fail
    refine Calls.mono (G2.out _ _ _ _ hO2.1 hn2) ?_
    rintro q y2 ⟨rfl, b1⟩
    replace bA := nT bA b1
    replace hO1 := hO1.keep b1
    replace s0 := kC b1 s0
    replace s1 := kC b1 s1
    replace s2 := kC b1 s2
    replace hO2 := hO2.keep b1
    replace t0 := kC b1 t0
    replace t1 := kC b1 t1
    replace t2 := kC b1 t2
    clear b1
    go_wp2_with fail
    go_ret
    exact ⟨rfl, bA⟩
  ·
    go_enter Tryz.func5, Tryz.ntmps5
    go_wp2_with fail
    refine Calls.mono LC.out ?_
    rintro q u1 ⟨rfl, b1⟩
    replace bA := nT bA b1
    clear b1 LC
    go_wp2_with fail
    refine Calls.mono (E1.out _ bA) ?_
    have lb := bA.size
    rintro q u2 ⟨_, rfl, ⟨a1, n1, c1, rfl, HN1, hn1, hO1⟩, b1⟩
    replace hO1 := hO1.low lb
    clear lb
    replace bA := nT bA b1
    clear b1 E1
    have bD := below_one u2 (.cells #[.bool P1.1, .slice a1 n1 c1, .int .i64 P1.2.2] 27)
    replace bA := nT bA bD
    replace hO1 := hO1.keep bD
    have s0 : (u2.alloc (.cells #[.bool P1.1, .slice a1 n1 c1, .int .i64 P1.2.2] 27)).cell? ⟨u2.heap.size, 0, none⟩ = some (.bool P1.1) := by go_simp
    have s1 : (u2.alloc (.cells #[.bool P1.1, .slice a1 n1 c1, .int .i64 P1.2.2] 27)).cell? ⟨u2.heap.size, 1, none⟩ = some (.slice a1 n1 c1) := by go_simp
    have s2 : (u2.alloc (.cells #[.bool P1.1, .slice a1 n1 c1, .int .i64 P1.2.2] 27)).cell? ⟨u2.heap.size, 2, none⟩ = some (.int .i64 P1.2.2) := by go_simp
    clear bD
    go_upto_region 4 with fail
    generalize u2.alloc (.cells #[.bool P1.1, .slice a1 n1 c1, .int .i64 P1.2.2] 27) = u3 at *
    generalize u2.heap.size = B1 at *
    go_wp2_with fail
    refine Calls.mono (E2.out _ bA) ?_
    have lb := bA.size
    rintro q u4 ⟨_, rfl, ⟨a2, n2, c2, rfl, HN2, hn2, hO2⟩, b1⟩
    replace hO2 := hO2.low lb
    clear lb
    replace bA := nT bA b1
    replace hO1 := hO1.keep b1
    replace s0 := kC b1 s0
    replace s1 := kC b1 s1
    replace s2 := kC b1 s2
    clear b1 E2
    have bD := below_one u4 (.cells #[.bool P2.1, .slice a2 n2 c2, .int .i64 P2.2.2] 27)
    replace bA := nT bA bD
    replace hO1 := hO1.keep bD
    replace s0 := kC bD s0
    replace s1 := kC bD s1
    replace s2 := kC bD s2
    replace hO2 := hO2.keep bD
    have t0 : (u4.alloc (.cells #[.bool P2.1, .slice a2 n2 c2, .int .i64 P2.2.2] 27)).cell? ⟨u4.heap.size, 0, none⟩ = some (.bool P2.1) := by go_simp
    have t1 : (u4.alloc (.cells #[.bool P2.1, .slice a2 n2 c2, .int .i64 P2.2.2] 27)).cell? ⟨u4.heap.size, 1, none⟩ = some (.slice a2 n2 c2) := by go_simp
    have t2 : (u4.alloc (.cells #[.bool P2.1, .slice a2 n2 c2, .int .i64 P2.2.2] 27)).cell? ⟨u4.heap.size, 2, none⟩ = some (.int .i64 P2.2.2) := by go_simp
    clear bD
    go_upto_region 5 with fail
    generalize u4.alloc (.cells #[.bool P2.1, .slice a2 n2 c2, .int .i64 P2.2.2] 27) = u5 at *
    generalize u4.heap.size = B2 at *
    go_wp2_with fail
    refine Calls.mono (Z1.out _ _ _ _ hO1.1 hn1) ?_
    rintro q x1 ⟨rfl, b1⟩
    replace bA := nT bA b1
    replace hO1 := hO1.keep b1
    replace s0 := kC b1 s0
    replace s1 := kC b1 s1
    replace s2 := kC b1 s2
    replace hO2 := hO2.keep b1
    replace t0 := kC b1 t0
    replace t1 := kC b1 t1
    replace t2 := kC b1 t2
    clear b1
    go_wp2_with fail
    refine Calls.mono (Z2.out _ _ _ _ hO2.1 hn2) ?_
    rintro q x2 ⟨rfl, b1⟩
    replace bA := nT bA b1
    replace hO1 := hO1.keep b1
    replace s0 := kC b1 s0
    replace s1 := kC b1 s1
    replace s2 := kC b1 s2
    replace hO2 := hO2.keep b1
    replace t0 := kC b1 t0
    replace t1 := kC b1 t1
    replace t2 := kC b1 t2
    clear b1
    go_wp2_with fail
    go_ret
    exact ⟨rfl, bA⟩

end Go.Proofs.YtoefhlapfnjbjaaGreatDoor
