/- What the document gives of exact: the statements' first question. -/
import Derived.Test.YtiijfnaaekmpbaaGreatDoorALX
import Derived.Test.YtiijfnaaekmpbaaGreatDoorCR
import Derived.Test.YtiijfnaaekmpbaaGreatDoorECH
import Derived.Test.YtiijfnaaekmpbaaGreatDoorTMH
import Derived.Test.YtiijfnaaekmpbaaGreatDoorTMS
import Derived.Test.YtiijfnaaekmpbaaGreatDoorFX
namespace Go.Proofs.YtiijfnaaekmpbaaGreatDoor
open Go.RowKit
theorem lv_1 : exV 9 4652007308841189376 = (intD 3, true) ∧ exE 9 4652007308841189376 = 0 := by decide +kernel
theorem lv_2 : exV 18 4598175219545276416 = (intD 1, true) ∧ exE 18 4598175219545276416 = 0 := by decide +kernel
theorem lv_3 : exE 18 4602678819172646912 = 5 := by decide +kernel
theorem lv_4 : e2V 34 4607182418800017408 13830554455654793216 = (inQ 3, true) ∧ e2E 34 4607182418800017408 13830554455654793216 = 0 := by decide +kernel
theorem lv_5 : exD 7 4607182418800017408 = true := by decide +kernel
theorem lv_q : inQ 3 = (false, 3, -2) := by decide +kernel
theorem lv_w : wO 3 = [3] := by decide +kernel
theorem isW_oneE {w : World} {b : Nat} {x : Int} (h : w.cell? ⟨b, 0, none⟩ = some (.int .u64 x)) (hx : 0 ≤ x ∧ x ≤ 18446744073709551615) : IsW w (some ⟨b, 0, none⟩) 1 1 [x] := by
 refine ⟨rfl, ?_, ⟨Nat.le_refl _, fun e => by cases e⟩, fun i hi => ?_⟩
 ·intro y hy
  simp at hy
  rw [hy]; exact hx
 ·obtain rfl : i = 0 := by omega
  exact ⟨b, 0, rfl, World.block_lt_of_cell? _ _ h, h⟩
theorem sameE (p q : E3) (a : Option Addr) (n c : Nat) (b : Option Addr) (m d : Nat) (w : World) (h : IsW w a n c (wO p.2.1)) (hn : n ≤ 17592186044416) (k : IsW w b m d (wO q.2.1)) (hm : m ≤ 17592186044416) :
  Calls Tryz.prog 9 #[dyV p.1 a n c p.2.2, dyV q.1 b m d q.2.2] w fun r w' => r = .returned (.bool (sameB p.1 p.2.2 (wO p.2.1) q.1 q.2.2 (wO q.2.1))) ∧ Below w.heap.size w w' := qSame_calls p.1 a n c (wO p.2.1) p.2.2 q.1 b m d (wO q.2.1) q.2.2 w h hn k hm
set_option maxRecDepth 100000 in
set_option maxHeartbeats 4000000 in
theorem exLives_calls (w : World) (hT : TabE w) :
  Calls Tryz.prog 8 #[] w fun q w' => q = .returned (.bool true) ∧ Below w.heap.size w w' := by
 have bA : Below w.heap.size w w := Below.refl _ _
 have C1 : Hid _ := exact_calls 9 4652007308841189376 w ⟨by decide, by decide⟩ hT
 have C2 : Hid _ := fun W (b : Below w.heap.size w W) => exact_calls 18 4598175219545276416 W ⟨by decide, by decide⟩ (hT.kept b)
 have C3 : Hid _ := fun W (b : Below w.heap.size w W) => exact_calls 18 4602678819172646912 W ⟨by decide, by decide⟩ (hT.kept b)
 have C4 : Hid _ := fun W (b : Below w.heap.size w W) => exact2_calls 34 4607182418800017408 13830554455654793216 W ⟨by decide, by decide⟩ ⟨by decide, by decide⟩ (hT.kept b)
 have C5 : Hid _ := fun W (b : Below w.heap.size w W) => domain_calls 7 4607182418800017408 W ⟨by decide, by decide⟩ (hT.kept b)
 rw [lv_1.1, lv_1.2] at C1
 simp only [lv_2.1, lv_2.2] at C2
 simp only [lv_3] at C3
 simp only [lv_4.1, lv_4.2] at C4
 simp only [lv_5] at C5
 have I3 : Hid _ := fun W => qint_calls 3 ⟨by decide, by decide⟩ W
 have I1 : Hid _ := fun W => qint_calls 1 ⟨by decide, by decide⟩ W
 have HL3 : Hid ((wO (intD 3).2.1).length ≤ 1024) := by show _ ≤ _; decide +kernel
 have HL1 : Hid ((wO (intD 1).2.1).length ≤ 1024) := by show _ ≤ _; decide +kernel
 have HQ : Hid (inQ 3 = (false, 3, -2)) := lv_q
 generalize exV 18 4602678819172646912 = V3 at *
 obtain ⟨P3, B3⟩ := V3
 simp only at C1 C2 C3 C4
 generalize intD 3 = P1 at *
 generalize intD 1 = P2 at *
 generalize inQ 3 = P4 at *
 clear hT
 go_enter Tryz.func8, Tryz.ntmps8
 go_wp2_with fail
 refine cM C1.out ?_
 have lb := bA.size
 rintro q w1 ⟨_, rfl, ⟨a1, n1, c1, rfl, HN1, hn1, hO1⟩, b1⟩
 replace hO1 := hO1.low lb
 clear lb
 replace bA := nT bA b1
 clear b1 C1
 have bD := below_one w1 (.cells #[.bool P1.1, .slice a1 n1 c1, .int .i64 P1.2.2] 27)
 replace bA := nT bA bD
 replace hO1 := hO1.keep bD
 obtain ⟨t10, t11, t12⟩ := fX3 w1 P1 a1 n1 c1 _ rfl
 clear bD
 go_upto_region 2 with fail
 generalize w1.alloc (.cells #[.bool P1.1, .slice a1 n1 c1, .int .i64 P1.2.2] 27) = v1 at *
 generalize w1.heap.size = B1 at *
 go_wp2_with fail
 refine cM (C2.out _ bA) ?_
 have lb := bA.size
 rintro q w2 ⟨_, rfl, ⟨a2, n2, c2, rfl, HN2, hn2, hO2⟩, b1⟩
 replace hO2 := hO2.low lb
 clear lb
 obtain ⟨bA, hO1, t10, t11, t12⟩ := jkAOC3 b1 bA hO1 t10 t11 t12
 clear b1 C2
 have bD := below_one w2 (.cells #[.bool P2.1, .slice a2 n2 c2, .int .i64 P2.2.2] 27)
 replace bA := nT bA bD
 replace hO1 := hO1.keep bD
 obtain ⟨t10, t11, t12⟩ := jkc bD t10 t11 t12
 replace hO2 := hO2.keep bD
 obtain ⟨t20, t21, t22⟩ := fX3 w2 P2 a2 n2 c2 _ rfl
 clear bD
 go_upto_region 3 with fail
 generalize w2.alloc (.cells #[.bool P2.1, .slice a2 n2 c2, .int .i64 P2.2.2] 27) = v2 at *
 generalize w2.heap.size = B2 at *
 go_wp2_with fail
 refine cM (C3.out _ bA) ?_
 have lb := bA.size
 rintro q w3 ⟨_, rfl, ⟨a3, n3, c3, rfl, HN3, hn3, hO3⟩, b1⟩
 replace hO3 := hO3.low lb
 clear lb
 replace bA := nT bA b1
 replace hO1 := hO1.keep b1
 obtain ⟨t10, t11, t12⟩ := jkc b1 t10 t11 t12
 replace hO2 := hO2.keep b1
 obtain ⟨t20, t21, t22⟩ := jkc b1 t20 t21 t22
 clear b1 C3
 have bD := below_one w3 (.cells #[.bool P3.1, .slice a3 n3 c3, .int .i64 P3.2.2] 27)
 replace bA := nT bA bD
 replace hO1 := hO1.keep bD
 obtain ⟨t10, t11, t12⟩ := jkc bD t10 t11 t12
 replace hO2 := hO2.keep bD
 obtain ⟨t20, t21, t22⟩ := jkc bD t20 t21 t22
 replace hO3 := hO3.keep bD
 obtain ⟨t30, t31, t32⟩ := fX3 w3 P3 a3 n3 c3 _ rfl
 clear bD
 go_upto_region 4 with fail
 generalize w3.alloc (.cells #[.bool P3.1, .slice a3 n3 c3, .int .i64 P3.2.2] 27) = v3 at *
 generalize w3.heap.size = B3 at *
 go_wp2_with fail
 refine cM (C4.out _ bA) ?_
 have lb := bA.size
 rintro q w4 ⟨_, rfl, ⟨a4, n4, c4, rfl, HN4, hn4, hO4⟩, b1⟩
 replace hO4 := hO4.low lb
 clear lb
 replace bA := nT bA b1
 replace hO1 := hO1.keep b1
 obtain ⟨t10, t11, t12⟩ := jkc b1 t10 t11 t12
 replace hO2 := hO2.keep b1
 obtain ⟨t20, t21, t22⟩ := jkc b1 t20 t21 t22
 replace hO3 := hO3.keep b1
 obtain ⟨t30, t31, t32⟩ := jkc b1 t30 t31 t32
 clear b1 C4
 have bD := below_one w4 (.cells #[.bool P4.1, .slice a4 n4 c4, .int .i64 P4.2.2] 27)
 replace bA := nT bA bD
 replace hO1 := hO1.keep bD
 obtain ⟨t10, t11, t12⟩ := jkc bD t10 t11 t12
 replace hO2 := hO2.keep bD
 obtain ⟨t20, t21, t22⟩ := jkc bD t20 t21 t22
 replace hO3 := hO3.keep bD
 obtain ⟨t30, t31, t32⟩ := jkc bD t30 t31 t32
 replace hO4 := hO4.keep bD
 obtain ⟨t40, t41, t42⟩ := fX3 w4 P4 a4 n4 c4 _ rfl
 clear bD
 go_upto_region 5 with fail
 generalize w4.alloc (.cells #[.bool P4.1, .slice a4 n4 c4, .int .i64 P4.2.2] 27) = v4 at *
 generalize w4.heap.size = B4 at *
 clear t30 t31 t32 hO3 HN3 hn3
 have bw : Below v4.heap.size v4 v4.drew := (Below.refl _ _).drew
 refine wp_region_held (S := fun w' => Below v4.heap.size v4 w') (by kernel_rfl) ?_
 change wpAnyH _ _ _ _ _ _ _ _ (World.drew v4)
 generalize World.drew v4 = wd at bw ⊢
 refine rd1 0 (by kernel_rfl) rfl fun K hK => ?_
 go_simp
 refine hK.out _ _ bw (fun _ => ?_)
 clear hK K
 try simp only [Act.put, sA, sZ, sS]
 refine rd1 1 (by kernel_rfl) rfl fun K hK => ?_
 go_simp
 refine hK.out _ _ bw (fun _ => ?_)
 clear hK K
 try simp only [Act.put, sA, sZ, sS]
 refine rd1 2 (by kernel_rfl) rfl fun K hK => ?_
 go_simp
 refine hK.out _ _ bw (fun _ => ?_)
 clear hK K
 try simp only [Act.put, sA, sZ, sS]
 refine rd1 3 (by kernel_rfl) rfl fun K hK => ?_
 go_simp
 refine hK.out _ _ bw (fun _ => ?_)
 clear hK K
 try simp only [Act.put, sA, sZ, sS]
 refine rd1 4 (by kernel_rfl) rfl fun K hK => ?_
 go_simp
 refine hK.out _ _ bw (fun _ => ?_)
 clear hK K
 try simp only [Act.put, sA, sZ, sS]
 refine rd1 5 (by kernel_rfl) rfl fun K hK => ?_
 go_simp
 refine hK.out _ _ bw (fun _ => ?_)
 clear hK K
 try simp only [Act.put, sA, sZ, sS]
 refine tk 6 (dyV P1.1 a1 n1 c1 P1.2.2) rfl (by kernel_rfl) (fun _ _ _ h => h) (by rfl) ?y1 bw ?r1
 case y1 =>
  intro ww hS
  have q0 := kC hS t10
  have q1 := kC hS t11
  have q2 := kC hS t12
  clear hS
  go_simp
  try first | (with_reducible rfl) | rfl
 try simp only [Act.put, sA]
 refine rd1 7 (by kernel_rfl) rfl fun K hK => ?_
 go_simp
 refine cM (I3.out _) ?_
 rintro q wn ⟨_, rfl, ⟨a7, n7, c7, rfl, HN7, hO7⟩, bN⟩
 refine hK.out _ _ (nT bw bN) (fun _ => ?_)
 clear hK K
 replace bw := nT bw bN
 clear bN
 try simp only [Act.put, sA, sZ, sS]
 rename World => wd
 have hn7 : n7 ≤ 17592186044416 := by have := HN7.out; have := HL3.out; omega
 refine rd1 8 (by kernel_rfl) rfl fun K hK => ?_
 go_simp
 refine cM (sameE P1 P1 _ _ _ _ _ _ _ (hO1.keep bw).1 (by omega) hO7.1 hn7) ?_
 rintro q wn ⟨rfl, bN⟩
 refine hK.out _ _ (nT bw bN) (fun _ => ?_)
 clear hK K
 replace bw := nT bw bN
 clear bN
 try simp only [Act.put, sA, sZ, sS]
 rename World => wd
 rw [sameB_self]
 refine rd1 9 (by kernel_rfl) rfl fun K hK => ?_
 go_simp
 refine hK.out _ _ bw (fun _ => ?_)
 clear hK K
 try simp only [Act.put, sA, sZ, sS]
 refine rd1 10 (by kernel_rfl) rfl fun K hK => ?_
 go_simp
 refine hK.out _ _ bw (fun _ => ?_)
 clear hK K
 try simp only [Act.put, sA, sZ, sS]
 refine rd1 11 (by kernel_rfl) rfl fun K hK => ?_
 go_simp
 refine hK.out _ _ bw (fun _ => ?_)
 clear hK K
 try simp only [Act.put, sA, sZ, sS]
 refine rd1 12 (by kernel_rfl) rfl fun K hK => ?_
 go_simp
 refine hK.out _ _ bw (fun _ => ?_)
 clear hK K
 try simp only [Act.put, sA, sZ, sS]
 refine rd1 13 (by kernel_rfl) rfl fun K hK => ?_
 go_simp
 refine hK.out _ _ bw (fun _ => ?_)
 clear hK K
 try simp only [Act.put, sA, sZ, sS]
 refine rd1 14 (by kernel_rfl) rfl fun K hK => ?_
 go_simp
 refine hK.out _ _ bw (fun _ => ?_)
 clear hK K
 try simp only [Act.put, sA, sZ, sS]
 refine rd1 15 (by kernel_rfl) rfl fun K hK => ?_
 go_simp
 refine hK.out _ _ bw (fun _ => ?_)
 clear hK K
 try simp only [Act.put, sA, sZ, sS]
 refine rd1 16 (by kernel_rfl) rfl fun K hK => ?_
 go_simp
 refine hK.out _ _ bw (fun _ => ?_)
 clear hK K
 try simp only [Act.put, sA, sZ, sS]
 refine rd1 17 (by kernel_rfl) rfl fun K hK => ?_
 go_simp
 refine hK.out _ _ bw (fun _ => ?_)
 clear hK K
 try simp only [Act.put, sA, sZ, sS]
 refine tk 18 (dyV P2.1 a2 n2 c2 P2.2.2) rfl (by kernel_rfl) (fun _ _ _ h => h) (by rfl) ?y2 bw ?r2
 case y2 =>
  intro ww hS
  have q0 := kC hS t20
  have q1 := kC hS t21
  have q2 := kC hS t22
  clear hS
  go_simp
  try first | (with_reducible rfl) | rfl
 try simp only [Act.put, sA]
 refine rd1 19 (by kernel_rfl) rfl fun K hK => ?_
 go_simp
 refine cM (I1.out _) ?_
 rintro q wn ⟨_, rfl, ⟨a8, n8, c8, rfl, HN8, hO8⟩, bN⟩
 refine hK.out _ _ (nT bw bN) (fun _ => ?_)
 clear hK K
 replace bw := nT bw bN
 clear bN
 try simp only [Act.put, sA, sZ, sS]
 rename World => wd
 have hn8 : n8 ≤ 17592186044416 := by have := HN8.out; have := HL1.out; omega
 refine rd1 20 (by kernel_rfl) rfl fun K hK => ?_
 go_simp
 refine cM (sameE P2 P2 _ _ _ _ _ _ _ (hO2.keep bw).1 (by omega) hO8.1 hn8) ?_
 rintro q wn ⟨rfl, bN⟩
 refine hK.out _ _ (nT bw bN) (fun _ => ?_)
 clear hK K
 replace bw := nT bw bN
 clear bN
 try simp only [Act.put, sA, sZ, sS]
 rename World => wd
 rw [sameB_self]
 refine rd1 21 (by kernel_rfl) rfl fun K hK => ?_
 go_simp
 refine hK.out _ _ bw (fun _ => ?_)
 clear hK K
 try simp only [Act.put, sA, sZ, sS]
 refine rd1 22 (by kernel_rfl) rfl fun K hK => ?_
 go_simp
 refine hK.out _ _ bw (fun _ => ?_)
 clear hK K
 try simp only [Act.put, sA, sZ, sS]
 refine rd1 23 (by kernel_rfl) rfl fun K hK => ?_
 go_simp
 refine hK.out _ _ bw (fun _ => ?_)
 clear hK K
 try simp only [Act.put, sA, sZ, sS]
 refine rd1 24 (by kernel_rfl) rfl fun K hK => ?_
 go_simp
 refine hK.out _ _ bw (fun _ => ?_)
 clear hK K
 try simp only [Act.put, sA, sZ, sS]
 refine rd1 25 (by kernel_rfl) rfl fun K hK => ?_
 go_simp
 refine hK.out _ _ bw (fun _ => ?_)
 clear hK K
 try simp only [Act.put, sA, sZ, sS]
 refine rd1 26 (by kernel_rfl) rfl fun K hK => ?_
 go_simp
 refine hK.out _ _ bw (fun _ => ?_)
 clear hK K
 try simp only [Act.put, sA, sZ, sS]
 refine rd1 27 (by kernel_rfl) rfl fun K hK => ?_
 go_simp
 refine hK.out _ _ bw (fun _ => ?_)
 clear hK K
 try simp only [Act.put, sA, sZ, sS]
 refine rd1 28 (by kernel_rfl) rfl fun K hK => ?_
 go_simp
 refine hK.out _ _ bw (fun _ => ?_)
 clear hK K
 try simp only [Act.put, sA, sZ, sS]
 refine rd1 29 (by kernel_rfl) rfl fun K hK => ?_
 go_simp
 refine hK.out _ _ bw (fun _ => ?_)
 clear hK K
 try simp only [Act.put, sA, sZ, sS]
 refine rd1 30 (by kernel_rfl) rfl fun K hK => ?_
 go_simp
 refine hK.out _ _ bw (fun _ => ?_)
 clear hK K
 try simp only [Act.put, sA, sZ, sS]
 refine rd1 31 (by kernel_rfl) rfl fun K hK => ?_
 go_simp
 refine hK.out _ _ bw (fun _ => ?_)
 clear hK K
 try simp only [Act.put, sA, sZ, sS]
 refine rd1 32 (by kernel_rfl) rfl fun K hK => ?_
 go_simp
 refine hK.out _ _ bw (fun _ => ?_)
 clear hK K
 try simp only [Act.put, sA, sZ, sS]
 refine rd1 33 (by kernel_rfl) rfl fun K hK => ?_
 go_simp
 refine hK.out _ _ bw (fun _ => ?_)
 clear hK K
 try simp only [Act.put, sA, sZ, sS]
 refine tk 34 (dyV P4.1 a4 n4 c4 P4.2.2) rfl (by kernel_rfl) (fun _ _ _ h => h) (by rfl) ?y3 bw ?r3
 case y3 =>
  intro ww hS
  have q0 := kC hS t40
  have q1 := kC hS t41
  have q2 := kC hS t42
  clear hS
  go_simp
  try first | (with_reducible rfl) | rfl
 try simp only [Act.put, sA]
 refine rd1 35 (by kernel_rfl) rfl fun K hK => ?_
 go_simp
 refine hK.out _ _ (bl_alloc bw _) (fun _ => ?_)
 clear hK K
 have bN := below_one wd (.cells #[.int .u64 3] 23)
 have cs : (wd.alloc (.cells #[.int .u64 3] 23)).cell? ⟨wd.heap.size, 0, none⟩ = some (.int .u64 3) := by go_simp
 replace bw := nT bw bN
 clear bN
 try simp only [Act.put, sA, sZ, sS]
 generalize wd.alloc (.cells #[.int .u64 3] 23) = wn at *
 generalize wd.heap.size = BS at *
 rename World => wd
 refine rd1 36 (by kernel_rfl) rfl fun K hK => ?_
 go_simp
 refine hK.out _ _ bw (fun _ => ?_)
 clear hK K
 try simp only [Act.put, sA, sZ, sS]
 refine rd1 37 (by kernel_rfl) rfl fun K hK => ?_
 go_simp
 have eq4 := HQ.out
 subst eq4
 have hW : IsW wd (some ⟨BS, 0, none⟩) 1 1 (wO 3) := by rw [lv_w]; exact isW_oneE cs ⟨by decide, by decide⟩
 refine cM (sameE (false, 3, -2) (false, 3, -2) _ _ _ _ _ _ _ (hO4.keep bw).1 (by omega) hW (by omega)) ?_
 rintro q wn ⟨rfl, bN⟩
 refine hK.out _ _ (nT bw bN) (fun _ => ?_)
 clear hK K
 replace bw := nT bw bN
 clear bN
 try simp only []
 rename World => wd
 rw [sameB_self]
 refine rd1 38 (by kernel_rfl) rfl fun K hK => ?_
 go_simp
 refine hK.out _ _ bw (fun _ => ?_)
 clear hK K
 try simp only [Act.put, sA, sZ, sS]
 refine rd1 39 (by kernel_rfl) rfl fun K hK => ?_
 go_simp
 refine hK.out _ _ bw (fun _ => ?_)
 clear hK K
 try simp only [Act.put, sA, sZ, sS]
 refine rd1 40 (by kernel_rfl) rfl fun K hK => ?_
 go_simp
 refine cM (C5.out _ (nT bA bw)) ?_
 rintro q wn ⟨rfl, bN⟩
 refine hK.out _ _ (nT bw bN) (fun _ => ?_)
 clear hK K
 replace bw := nT bw bN
 clear bN
 try simp only [Act.put, sA, sZ, sS]
 rename World => wd
 refine rd1 41 (by kernel_rfl) rfl fun K hK => ?_
 go_simp
 refine hK.out _ _ bw (fun _ => ?_)
 clear hK K
 try simp only [Act.put, sA, sZ, sS]
 refine rd1 42 (by kernel_rfl) rfl fun K hK => ?_
 go_simp
 refine hK.out _ _ bw (fun _ => ?_)
 clear hK K
 try simp only [Act.put, sA, sZ, sS]
 refine wpAnyH_done (by kernel_rfl) ?_ _
 go_wp2_with fail
 go_ret
 exact ⟨rfl, nT bA bw⟩
end Go.Proofs.YtiijfnaaekmpbaaGreatDoor
