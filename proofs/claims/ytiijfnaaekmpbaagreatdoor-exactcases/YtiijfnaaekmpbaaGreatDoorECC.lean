/- Package exact: tangents; cases of functions of half turns. -/
import Derived.Test.YtiijfnaaekmpbaaGreatDoorALX
import Derived.Test.YtiijfnaaekmpbaaGreatDoorCR
import Derived.Test.YtiijfnaaekmpbaaGreatDoorECB
import Derived.LoopN
import Derived.Test.YtiijfnaaekmpbaaGreatDoorFX
namespace Go.Proofs.YtiijfnaaekmpbaaGreatDoor
open Go.RowKit
set_option maxHeartbeats 4000000
set_option maxRecDepth 100000
theorem inQ_ok (q : Int) (h : -8 ≤ q ∧ q ≤ 8) : OkE (inQ q) := by
 refine ⟨form_can _ _ _, ?_⟩
 have : q = -8 ∨ q = -7 ∨ q = -6 ∨ q = -5 ∨ q = -4 ∨ q = -3 ∨ q = -2 ∨ q = -1 ∨ q = 0 ∨ q = 1 ∨ q = 2 ∨ q = 3 ∨ q = 4 ∨ q = 5 ∨ q = 6 ∨ q = 7 ∨ q = 8 := by omega
 rcases this with rfl | rfl | rfl | rfl | rfl | rfl | rfl | rfl | rfl | rfl | rfl | rfl | rfl | rfl | rfl | rfl | rfl <;> decide +kernel
def tanJ (r : E3) : Int := if r.2.1 = 0 then 0 else if cmpD r (inQ 1) = 0 then 1 else if cmpD r (inQ (-1)) = 0 then -1 else 0
def tanB (r : E3) : Bool := decide (r.2.1 = 0) || decide (cmpD r (inQ 1) = 0) || decide (cmpD r (inQ (-1)) = 0)
theorem tangent_calls (r : E3) (N : Int) (a : Option Addr) (n c : Nat) (w : World) (h : IsW w a n c (wO r.2.1)) (hn : n ≤ 1024) (hr : OkE r) (hT : TabE w) :
  Calls Tryz.prog 44 #[.agg #[.int .i64 N, .bool r.1, .slice a n c, .int .i64 r.2.2]] w fun q w' => q = .returned (.tuple #[.int .i64 (tanJ r), .bool (tanB r)]) ∧ Below w.heap.size w w' := by
 have bA := below_one w (.cells #[.int .i64 N, .bool r.1, .slice a n c, .int .i64 r.2.2] 75)
 obtain ⟨t0, t1, t2, t3⟩ := fX10 w N r a n c _ rfl
 have ZC : Hid _ := zeroE r a n c _ (h.keep bA) hn hr (hT.1.kept bA)
 have Q1 : Hid _ := fun W (t : Tab W) => inQuarters_calls 1 ⟨by decide, by decide⟩ W t
 have C1 : Hid _ := fun (W : World) (b : Below w.heap.size w W) (a1 : Option Addr) (n1 c1 : Nat) (g : IsW W a1 n1 c1 (wO (inQ 1).2.1)) (h1 : n1 ≤ 1024) => cmpE r (inQ 1) a n c a1 n1 c1 W (h.keep b) hn g h1 hr (inQ_ok 1 ⟨by decide, by decide⟩) (hT.1.kept b)
 have Q2 : Hid _ := fun W (t : Tab W) => inQuarters_calls (-1) ⟨by decide, by decide⟩ W t
 have C2 : Hid _ := fun (W : World) (b : Below w.heap.size w W) (a1 : Option Addr) (n1 c1 : Nat) (g : IsW W a1 n1 c1 (wO (inQ (-1)).2.1)) (h1 : n1 ≤ 1024) => cmpE r (inQ (-1)) a n c a1 n1 c1 W (h.keep b) hn g h1 hr (inQ_ok (-1) ⟨by decide, by decide⟩) (hT.1.kept b)
 have hT0 := hT.1.kept bA
 unfold tanJ tanB
 generalize cmpD r (inQ 1) = J1 at *
 generalize cmpD r (inQ (-1)) = J2 at *
 generalize inQ 1 = I1 at *
 generalize inQ (-1) = I2 at *
 clear h hr hT
 by_cases hz : r.2.1 = 0
 ·rw [decide_eq_true hz, if_pos hz, Bool.true_or, Bool.true_or]
  rw [decide_eq_true hz] at ZC
  clear hz
  go_enter Tryz.func44, Tryz.ntmps44
  go_wp2_with fail
  generalize w.alloc (.cells #[.int .i64 N, .bool r.1, .slice a n c, .int .i64 r.2.2] 75) = w0 at *
  refine cM ZC.out ?_
  rintro q w1 ⟨rfl, b1⟩
  obtain ⟨bA, t0, t1, t2, t3⟩ := jkAC4 b1 bA t0 t1 t2 t3
  replace hT0 := hT0.kept b1
  clear b1 ZC
  go_wp2_with fail
  go_ret2
  exact ⟨rfl, bA⟩
 ·rw [decide_eq_false hz, if_neg hz, Bool.false_or]
  rw [decide_eq_false hz] at ZC
  clear hz
  by_cases h1 : J1 = 0
  ·rw [decide_eq_true h1, if_pos h1, Bool.true_or]
   go_enter Tryz.func44, Tryz.ntmps44
   go_wp2_with fail
   generalize w.alloc (.cells #[.int .i64 N, .bool r.1, .slice a n c, .int .i64 r.2.2] 75) = w0 at *
   refine cM ZC.out ?_
   rintro q w1 ⟨rfl, b1⟩
   obtain ⟨bA, t0, t1, t2, t3⟩ := jkAC4 b1 bA t0 t1 t2 t3
   replace hT0 := hT0.kept b1
   clear b1 ZC
   go_wp2_with fail
   have bD := below_one w1 (.cells #[.int .i64 1, .int .i64 (-1)] 2)
   obtain ⟨bA, t0, t1, t2, t3⟩ := jkAC4 bD bA t0 t1 t2 t3
   replace hT0 := hT0.kept bD
   obtain ⟨s0, s1⟩ := fX15 w1 _ rfl
   clear bD
   generalize w1.alloc (.cells #[.int .i64 1, .int .i64 (-1)] 2) = w2 at *
   generalize w1.heap.size = BS at *
   refine wp_loop_rounds 3 ?_
   rw [rounds_succ]
   go_upto_region 6 with fail
   have bw : Below w2.heap.size w2 w2.drew := (Below.refl _ _).drew
   refine wp_region_held (S := fun w' => Below w2.heap.size w2 w') (by kernel_rfl) ?_
   change wpAnyH _ _ _ _ _ _ _ _ (World.drew w2)
   generalize World.drew w2 = wd at bw ⊢
   refine tk 0 (.pointer (some ⟨w.heap.size, 1, none⟩)) rfl (by kernel_rfl) (fun _ _ _ h => h) (by rfl) ?y57 bw ?r57
   case y57 =>
    intro ww hS
    clear hS
    go_simp
    try first | (with_reducible rfl) | rfl | decide
   try simp only [Act.put, sA]
   refine tk 1 (dyV r.1 a n c r.2.2) rfl (by kernel_rfl) (fun _ _ _ h => h) (by rfl) ?y58 bw ?r58
   case y58 =>
    intro ww hS
    have q0 := kC hS t0
    have q1 := kC hS t1
    have q2 := kC hS t2
    have q3 := kC hS t3
    clear hS
    go_simp
    try first | (with_reducible rfl) | rfl | decide
   try simp only [Act.put]
   refine tk 2 (.int .i64 1) rfl (by kernel_rfl) (fun _ _ _ h => h) (by rfl) ?y59 bw ?r59
   case y59 =>
    intro ww hS
    clear hS
    go_simp
    try first | (with_reducible rfl) | rfl | decide
   try simp only [Act.put]
   refine rd1 3 (by kernel_rfl) rfl fun K hK => ?_
   go_simp
   refine cM (Q1.out _ (hT0.kept bw)) ?_
   rintro q wn0 ⟨_, rfl, ⟨a1, n1, c1, rfl, HN1, hn1, hO1⟩, bN⟩
   refine hK.out _ _ (nT bw bN) (fun _ => ?_)
   clear hK K
   replace bw := nT bw bN
   clear bN
   try simp only [Act.put, sA, sZ, sS]
   refine rd1 4 (by kernel_rfl) rfl fun K hK => ?_
   go_simp
   refine cM (C1.out _ (nT bA bw) _ _ _ hO1.1 hn1) ?_
   rintro q wm0 ⟨rfl, bN⟩
   refine hK.out _ _ (nT bw bN) (fun _ => ?_)
   clear hK K
   replace bw := nT bw bN
   clear bN Q1 C1 HN1 hn1 hO1
   try simp only [Act.put, sA, sZ, sS]
   refine tk 5 (.tuple #[.int .i64 J1, .int .i64 0]) rfl (by kernel_rfl) (fun _ _ _ h => h) (by rfl) ?y60 bw ?r60
   case y60 =>
    intro ww hS
    clear hS
    go_simp
    try first | (with_reducible rfl) | rfl | decide
   try simp only [Act.put, sA]
   refine tk 6 (.int .i64 J1) rfl (by kernel_rfl) (fun _ _ _ h => h) (by rfl) ?y61 bw ?r61
   case y61 =>
    intro ww hS
    clear hS
    go_simp
    try first | (with_reducible rfl) | rfl | decide
   try simp only [Act.put]
   refine tk 7 (.int .i64 0) rfl (by kernel_rfl) (fun _ _ _ h => h) (by rfl) ?y62 bw ?r62
   case y62 =>
    intro ww hS
    clear hS
    go_simp
    try first | (with_reducible rfl) | rfl | decide
   try simp only [Act.put]
   refine rd1 8 (by kernel_rfl) rfl fun K hK => ?_
   go_simp
   refine hK.out _ _ bw (fun _ => ?_)
   clear hK K
   try simp only [Act.put, sA, sZ, sS]
   refine rd1 9 (by kernel_rfl) rfl fun K hK => ?_
   go_simp
   refine hK.out _ _ bw (fun _ => ?_)
   clear hK K
   try simp only [Act.put, sA, sZ, sS]
   refine wpAnyH_done (by kernel_rfl) ?_ _
   obtain ⟨bA, t0, t1, t2, t3⟩ := jkAC4 bw bA t0 t1 t2 t3
   replace hT0 := hT0.kept bw
   replace s0 := kC bw s0
   replace s1 := kC bw s1
   clear bw
   go_wp2_with fail
   go_ret2
   exact ⟨rfl, bA⟩
  ·rw [decide_eq_false h1, if_neg h1, Bool.false_or]
   by_cases h2 : J2 = 0
   ·rw [decide_eq_true h2, if_pos h2]
    go_enter Tryz.func44, Tryz.ntmps44
    go_wp2_with fail
    generalize w.alloc (.cells #[.int .i64 N, .bool r.1, .slice a n c, .int .i64 r.2.2] 75) = w0 at *
    refine cM ZC.out ?_
    rintro q w1 ⟨rfl, b1⟩
    obtain ⟨bA, t0, t1, t2, t3⟩ := jkAC4 b1 bA t0 t1 t2 t3
    replace hT0 := hT0.kept b1
    clear b1 ZC
    go_wp2_with fail
    have bD := below_one w1 (.cells #[.int .i64 1, .int .i64 (-1)] 2)
    obtain ⟨bA, t0, t1, t2, t3⟩ := jkAC4 bD bA t0 t1 t2 t3
    replace hT0 := hT0.kept bD
    obtain ⟨s0, s1⟩ := fX15 w1 _ rfl
    clear bD
    generalize w1.alloc (.cells #[.int .i64 1, .int .i64 (-1)] 2) = w2 at *
    generalize w1.heap.size = BS at *
    refine wp_loop_rounds 3 ?_
    rw [rounds_succ]
    go_upto_region 6 with fail
    have bw : Below w2.heap.size w2 w2.drew := (Below.refl _ _).drew
    refine wp_region_held (S := fun w' => Below w2.heap.size w2 w') (by kernel_rfl) ?_
    change wpAnyH _ _ _ _ _ _ _ _ (World.drew w2)
    generalize World.drew w2 = wd at bw ⊢
    refine tk 0 (.pointer (some ⟨w.heap.size, 1, none⟩)) rfl (by kernel_rfl) (fun _ _ _ h => h) (by rfl) ?y63 bw ?r63
    case y63 =>
     intro ww hS
     clear hS
     go_simp
     try first | (with_reducible rfl) | rfl | decide
    try simp only [Act.put, sA]
    refine tk 1 (dyV r.1 a n c r.2.2) rfl (by kernel_rfl) (fun _ _ _ h => h) (by rfl) ?y64 bw ?r64
    case y64 =>
     intro ww hS
     have q0 := kC hS t0
     have q1 := kC hS t1
     have q2 := kC hS t2
     have q3 := kC hS t3
     clear hS
     go_simp
     try first | (with_reducible rfl) | rfl | decide
    try simp only [Act.put]
    refine tk 2 (.int .i64 1) rfl (by kernel_rfl) (fun _ _ _ h => h) (by rfl) ?y65 bw ?r65
    case y65 =>
     intro ww hS
     clear hS
     go_simp
     try first | (with_reducible rfl) | rfl | decide
    try simp only [Act.put]
    refine rd1 3 (by kernel_rfl) rfl fun K hK => ?_
    go_simp
    refine cM (Q1.out _ (hT0.kept bw)) ?_
    rintro q wn0 ⟨_, rfl, ⟨a1, n1, c1, rfl, HN1, hn1, hO1⟩, bN⟩
    refine hK.out _ _ (nT bw bN) (fun _ => ?_)
    clear hK K
    replace bw := nT bw bN
    clear bN
    try simp only [Act.put, sA, sZ, sS]
    refine rd1 4 (by kernel_rfl) rfl fun K hK => ?_
    go_simp
    refine cM (C1.out _ (nT bA bw) _ _ _ hO1.1 hn1) ?_
    rintro q wm0 ⟨rfl, bN⟩
    refine hK.out _ _ (nT bw bN) (fun _ => ?_)
    clear hK K
    replace bw := nT bw bN
    clear bN Q1 C1 HN1 hn1 hO1
    try simp only [Act.put, sA, sZ, sS]
    refine tk 5 (.tuple #[.int .i64 J1, .int .i64 0]) rfl (by kernel_rfl) (fun _ _ _ h => h) (by rfl) ?y66 bw ?r66
    case y66 =>
     intro ww hS
     clear hS
     go_simp
     try first | (with_reducible rfl) | rfl | decide
    try simp only [Act.put, sA]
    refine tk 6 (.int .i64 J1) rfl (by kernel_rfl) (fun _ _ _ h => h) (by rfl) ?y67 bw ?r67
    case y67 =>
     intro ww hS
     clear hS
     go_simp
     try first | (with_reducible rfl) | rfl | decide
    try simp only [Act.put]
    refine tk 7 (.int .i64 0) rfl (by kernel_rfl) (fun _ _ _ h => h) (by rfl) ?y68 bw ?r68
    case y68 =>
     intro ww hS
     clear hS
     go_simp
     try first | (with_reducible rfl) | rfl | decide
    try simp only [Act.put]
    refine rd1 8 (by kernel_rfl) rfl fun K hK => ?_
    go_simp
    refine hK.out _ _ bw (fun _ => ?_)
    clear hK K
    try simp only [Act.put, sA, sZ, sS]
    refine rd1 9 (by kernel_rfl) rfl fun K hK => ?_
    go_simp
    refine hK.out _ _ bw (fun _ => ?_)
    clear hK K
    try simp only [Act.put, sA, sZ, sS]
    refine wpAnyH_done (by kernel_rfl) ?_ _
    obtain ⟨bA, t0, t1, t2, t3⟩ := jkAC4 bw bA t0 t1 t2 t3
    replace hT0 := hT0.kept bw
    replace s0 := kC bw s0
    replace s1 := kC bw s1
    clear bw
    go_wp2_with fail
    rw [rounds_succ]
    go_upto_region 6 with fail
    have bw : Below wm0.heap.size wm0 wm0.drew := (Below.refl _ _).drew
    refine wp_region_held (S := fun w' => Below wm0.heap.size wm0 w') (by kernel_rfl) ?_
    change wpAnyH _ _ _ _ _ _ _ _ (World.drew wm0)
    generalize World.drew wm0 = wd at bw ⊢
    refine tk 0 (.pointer (some ⟨w.heap.size, 1, none⟩)) rfl (by kernel_rfl) (fun _ _ _ h => h) (by rfl) ?y69 bw ?r69
    case y69 =>
     intro ww hS
     clear hS
     go_simp
     try first | (with_reducible rfl) | rfl | decide
    try simp only [Act.put, sA]
    refine tk 1 (dyV r.1 a n c r.2.2) rfl (by kernel_rfl) (fun _ _ _ h => h) (by rfl) ?y70 bw ?r70
    case y70 =>
     intro ww hS
     have q0 := kC hS t0
     have q1 := kC hS t1
     have q2 := kC hS t2
     have q3 := kC hS t3
     clear hS
     go_simp
     try first | (with_reducible rfl) | rfl | decide
    try simp only [Act.put]
    refine tk 2 (.int .i64 (-1)) rfl (by kernel_rfl) (fun _ _ _ h => h) (by rfl) ?y71 bw ?r71
    case y71 =>
     intro ww hS
     clear hS
     go_simp
     try first | (with_reducible rfl) | rfl | decide
    try simp only [Act.put]
    refine rd1 3 (by kernel_rfl) rfl fun K hK => ?_
    go_simp
    refine cM (Q2.out _ (hT0.kept bw)) ?_
    rintro q wn1 ⟨_, rfl, ⟨a1, n1, c1, rfl, HN1, hn1, hO1⟩, bN⟩
    refine hK.out _ _ (nT bw bN) (fun _ => ?_)
    clear hK K
    replace bw := nT bw bN
    clear bN
    try simp only [Act.put, sA, sZ, sS]
    refine rd1 4 (by kernel_rfl) rfl fun K hK => ?_
    go_simp
    refine cM (C2.out _ (nT bA bw) _ _ _ hO1.1 hn1) ?_
    rintro q wm1 ⟨rfl, bN⟩
    refine hK.out _ _ (nT bw bN) (fun _ => ?_)
    clear hK K
    replace bw := nT bw bN
    clear bN Q2 C2 HN1 hn1 hO1
    try simp only [Act.put, sA, sZ, sS]
    refine tk 5 (.tuple #[.int .i64 J2, .int .i64 0]) rfl (by kernel_rfl) (fun _ _ _ h => h) (by rfl) ?y72 bw ?r72
    case y72 =>
     intro ww hS
     clear hS
     go_simp
     try first | (with_reducible rfl) | rfl | decide
    try simp only [Act.put, sA]
    refine tk 6 (.int .i64 J2) rfl (by kernel_rfl) (fun _ _ _ h => h) (by rfl) ?y73 bw ?r73
    case y73 =>
     intro ww hS
     clear hS
     go_simp
     try first | (with_reducible rfl) | rfl | decide
    try simp only [Act.put]
    refine tk 7 (.int .i64 0) rfl (by kernel_rfl) (fun _ _ _ h => h) (by rfl) ?y74 bw ?r74
    case y74 =>
     intro ww hS
     clear hS
     go_simp
     try first | (with_reducible rfl) | rfl | decide
    try simp only [Act.put]
    refine rd1 8 (by kernel_rfl) rfl fun K hK => ?_
    go_simp
    refine hK.out _ _ bw (fun _ => ?_)
    clear hK K
    try simp only [Act.put, sA, sZ, sS]
    refine rd1 9 (by kernel_rfl) rfl fun K hK => ?_
    go_simp
    refine hK.out _ _ bw (fun _ => ?_)
    clear hK K
    try simp only [Act.put, sA, sZ, sS]
    refine wpAnyH_done (by kernel_rfl) ?_ _
    obtain ⟨bA, t0, t1, t2, t3⟩ := jkAC4 bw bA t0 t1 t2 t3
    replace hT0 := hT0.kept bw
    replace s0 := kC bw s0
    replace s1 := kC bw s1
    clear bw
    go_wp2_with fail
    go_ret2
    exact ⟨rfl, bA⟩
   ·rw [decide_eq_false h2, if_neg h2]
    go_enter Tryz.func44, Tryz.ntmps44
    go_wp2_with fail
    generalize w.alloc (.cells #[.int .i64 N, .bool r.1, .slice a n c, .int .i64 r.2.2] 75) = w0 at *
    refine cM ZC.out ?_
    rintro q w1 ⟨rfl, b1⟩
    obtain ⟨bA, t0, t1, t2, t3⟩ := jkAC4 b1 bA t0 t1 t2 t3
    replace hT0 := hT0.kept b1
    clear b1 ZC
    go_wp2_with fail
    have bD := below_one w1 (.cells #[.int .i64 1, .int .i64 (-1)] 2)
    obtain ⟨bA, t0, t1, t2, t3⟩ := jkAC4 bD bA t0 t1 t2 t3
    replace hT0 := hT0.kept bD
    obtain ⟨s0, s1⟩ := fX15 w1 _ rfl
    clear bD
    generalize w1.alloc (.cells #[.int .i64 1, .int .i64 (-1)] 2) = w2 at *
    generalize w1.heap.size = BS at *
    refine wp_loop_rounds 3 ?_
    rw [rounds_succ]
    go_upto_region 6 with fail
    have bw : Below w2.heap.size w2 w2.drew := (Below.refl _ _).drew
    refine wp_region_held (S := fun w' => Below w2.heap.size w2 w') (by kernel_rfl) ?_
    change wpAnyH _ _ _ _ _ _ _ _ (World.drew w2)
    generalize World.drew w2 = wd at bw ⊢
    refine tk 0 (.pointer (some ⟨w.heap.size, 1, none⟩)) rfl (by kernel_rfl) (fun _ _ _ h => h) (by rfl) ?y75 bw ?r75
    case y75 =>
     intro ww hS
     clear hS
     go_simp
     try first | (with_reducible rfl) | rfl | decide
    try simp only [Act.put, sA]
    refine tk 1 (dyV r.1 a n c r.2.2) rfl (by kernel_rfl) (fun _ _ _ h => h) (by rfl) ?y76 bw ?r76
    case y76 =>
     intro ww hS
     have q0 := kC hS t0
     have q1 := kC hS t1
     have q2 := kC hS t2
     have q3 := kC hS t3
     clear hS
     go_simp
     try first | (with_reducible rfl) | rfl | decide
    try simp only [Act.put]
    refine tk 2 (.int .i64 1) rfl (by kernel_rfl) (fun _ _ _ h => h) (by rfl) ?y77 bw ?r77
    case y77 =>
     intro ww hS
     clear hS
     go_simp
     try first | (with_reducible rfl) | rfl | decide
    try simp only [Act.put]
    refine rd1 3 (by kernel_rfl) rfl fun K hK => ?_
    go_simp
    refine cM (Q1.out _ (hT0.kept bw)) ?_
    rintro q wn0 ⟨_, rfl, ⟨a1, n1, c1, rfl, HN1, hn1, hO1⟩, bN⟩
    refine hK.out _ _ (nT bw bN) (fun _ => ?_)
    clear hK K
    replace bw := nT bw bN
    clear bN
    try simp only [Act.put, sA, sZ, sS]
    refine rd1 4 (by kernel_rfl) rfl fun K hK => ?_
    go_simp
    refine cM (C1.out _ (nT bA bw) _ _ _ hO1.1 hn1) ?_
    rintro q wm0 ⟨rfl, bN⟩
    refine hK.out _ _ (nT bw bN) (fun _ => ?_)
    clear hK K
    replace bw := nT bw bN
    clear bN Q1 C1 HN1 hn1 hO1
    try simp only [Act.put, sA, sZ, sS]
    refine tk 5 (.tuple #[.int .i64 J1, .int .i64 0]) rfl (by kernel_rfl) (fun _ _ _ h => h) (by rfl) ?y78 bw ?r78
    case y78 =>
     intro ww hS
     clear hS
     go_simp
     try first | (with_reducible rfl) | rfl | decide
    try simp only [Act.put, sA]
    refine tk 6 (.int .i64 J1) rfl (by kernel_rfl) (fun _ _ _ h => h) (by rfl) ?y79 bw ?r79
    case y79 =>
     intro ww hS
     clear hS
     go_simp
     try first | (with_reducible rfl) | rfl | decide
    try simp only [Act.put]
    refine tk 7 (.int .i64 0) rfl (by kernel_rfl) (fun _ _ _ h => h) (by rfl) ?y80 bw ?r80
    case y80 =>
     intro ww hS
     clear hS
     go_simp
     try first | (with_reducible rfl) | rfl | decide
    try simp only [Act.put]
    refine rd1 8 (by kernel_rfl) rfl fun K hK => ?_
    go_simp
    refine hK.out _ _ bw (fun _ => ?_)
    clear hK K
    try simp only [Act.put, sA, sZ, sS]
    refine rd1 9 (by kernel_rfl) rfl fun K hK => ?_
    go_simp
    refine hK.out _ _ bw (fun _ => ?_)
    clear hK K
    try simp only [Act.put, sA, sZ, sS]
    refine wpAnyH_done (by kernel_rfl) ?_ _
    obtain ⟨bA, t0, t1, t2, t3⟩ := jkAC4 bw bA t0 t1 t2 t3
    replace hT0 := hT0.kept bw
    replace s0 := kC bw s0
    replace s1 := kC bw s1
    clear bw
    go_wp2_with fail
    rw [rounds_succ]
    go_upto_region 6 with fail
    have bw : Below wm0.heap.size wm0 wm0.drew := (Below.refl _ _).drew
    refine wp_region_held (S := fun w' => Below wm0.heap.size wm0 w') (by kernel_rfl) ?_
    change wpAnyH _ _ _ _ _ _ _ _ (World.drew wm0)
    generalize World.drew wm0 = wd at bw ⊢
    refine tk 0 (.pointer (some ⟨w.heap.size, 1, none⟩)) rfl (by kernel_rfl) (fun _ _ _ h => h) (by rfl) ?y81 bw ?r81
    case y81 =>
     intro ww hS
     clear hS
     go_simp
     try first | (with_reducible rfl) | rfl | decide
    try simp only [Act.put, sA]
    refine tk 1 (dyV r.1 a n c r.2.2) rfl (by kernel_rfl) (fun _ _ _ h => h) (by rfl) ?y82 bw ?r82
    case y82 =>
     intro ww hS
     have q0 := kC hS t0
     have q1 := kC hS t1
     have q2 := kC hS t2
     have q3 := kC hS t3
     clear hS
     go_simp
     try first | (with_reducible rfl) | rfl | decide
    try simp only [Act.put]
    refine tk 2 (.int .i64 (-1)) rfl (by kernel_rfl) (fun _ _ _ h => h) (by rfl) ?y83 bw ?r83
    case y83 =>
     intro ww hS
     clear hS
     go_simp
     try first | (with_reducible rfl) | rfl | decide
    try simp only [Act.put]
    refine rd1 3 (by kernel_rfl) rfl fun K hK => ?_
    go_simp
    refine cM (Q2.out _ (hT0.kept bw)) ?_
    rintro q wn1 ⟨_, rfl, ⟨a1, n1, c1, rfl, HN1, hn1, hO1⟩, bN⟩
    refine hK.out _ _ (nT bw bN) (fun _ => ?_)
    clear hK K
    replace bw := nT bw bN
    clear bN
    try simp only [Act.put, sA, sZ, sS]
    refine rd1 4 (by kernel_rfl) rfl fun K hK => ?_
    go_simp
    refine cM (C2.out _ (nT bA bw) _ _ _ hO1.1 hn1) ?_
    rintro q wm1 ⟨rfl, bN⟩
    refine hK.out _ _ (nT bw bN) (fun _ => ?_)
    clear hK K
    replace bw := nT bw bN
    clear bN Q2 C2 HN1 hn1 hO1
    try simp only [Act.put, sA, sZ, sS]
    refine tk 5 (.tuple #[.int .i64 J2, .int .i64 0]) rfl (by kernel_rfl) (fun _ _ _ h => h) (by rfl) ?y84 bw ?r84
    case y84 =>
     intro ww hS
     clear hS
     go_simp
     try first | (with_reducible rfl) | rfl | decide
    try simp only [Act.put, sA]
    refine tk 6 (.int .i64 J2) rfl (by kernel_rfl) (fun _ _ _ h => h) (by rfl) ?y85 bw ?r85
    case y85 =>
     intro ww hS
     clear hS
     go_simp
     try first | (with_reducible rfl) | rfl | decide
    try simp only [Act.put]
    refine tk 7 (.int .i64 0) rfl (by kernel_rfl) (fun _ _ _ h => h) (by rfl) ?y86 bw ?r86
    case y86 =>
     intro ww hS
     clear hS
     go_simp
     try first | (with_reducible rfl) | rfl | decide
    try simp only [Act.put]
    refine rd1 8 (by kernel_rfl) rfl fun K hK => ?_
    go_simp
    refine hK.out _ _ bw (fun _ => ?_)
    clear hK K
    try simp only [Act.put, sA, sZ, sS]
    refine rd1 9 (by kernel_rfl) rfl fun K hK => ?_
    go_simp
    refine hK.out _ _ bw (fun _ => ?_)
    clear hK K
    try simp only [Act.put, sA, sZ, sS]
    refine wpAnyH_done (by kernel_rfl) ?_ _
    obtain ⟨bA, t0, t1, t2, t3⟩ := jkAC4 bw bA t0 t1 t2 t3
    replace hT0 := hT0.kept bw
    replace s0 := kC bw s0
    replace s1 := kC bw s1
    clear bw
    go_wp2_with fail
    rw [rounds_succ]
    go_wp2_with fail
    go_ret2
    exact ⟨rfl, bA⟩
theorem turned_calls (p : E3) (a : Option Addr) (n c : Nat) (X F : Nat) (J : Int) (Bo : Bool) (w : World) (h : IsW w a n c (wO p.2.1)) (hn : n ≤ 1024) (hp : OkE p) (hT : TabE w) (cX : w.cell? ⟨X, 0, none⟩ = some (.func (.func F) #[] #[])) (hB : Body F) (hJ : -9223372036854775808 ≤ J ∧ J ≤ 9223372036854775807)
  (hV : ∀ W, TabE W → ∀ (a1 : Option Addr) (n1 c1 : Nat), IsW W a1 n1 c1 (wO (tnR p).2.1) → n1 ≤ 1024 → Calls Tryz.prog F #[.agg #[.int .i64 (tnN p), .bool (tnR p).1, .slice a1 n1 c1, .int .i64 (tnR p).2.2]] W fun q w' => q = .returned (.tuple #[.int .i64 J, .bool Bo]) ∧ Below W.heap.size W w') :
  Calls Tryz.prog 82 #[dyV p.1 a n c p.2.2, .pointer (some ⟨X, 0, none⟩)] w fun q w' => ∃ v', q = .returned (.tuple #[v', .bool (if Bo = true then (intD J, true) else no3).2]) ∧ DyAt w.heap.size w' v' (if Bo = true then (intD J, true) else no3).1 ∧ Below w.heap.size w w' := by
 have bA : Below w.heap.size w ((w.alloc (.cells #[.bool p.1, .slice a n c, .int .i64 p.2.2] 27)).alloc (.cells #[.bool false, .slice none 0 0, .int .i64 0] 27)) := nT (below_one _ _) (below_one _ _)
 obtain ⟨x0, x1, x2, z0, f0, z1, f1, z2, f2⟩ := fX4 w p a n c _ rfl
 replace cX := kC bA cX
 have TC : Hid _ := fun W (b : Below w.heap.size w W) => turnOf_calls p a n c W (h.keep b) hn hp (hT.1.kept b)
 have VC : Hid _ := fun (W : World) (b : Below w.heap.size w W) (a1 : Option Addr) (n1 c1 : Nat) (g : IsW W a1 n1 c1 (wO (tnR p).2.1)) (h1 : n1 ≤ 1024) => hV W (hT.kept b) a1 n1 c1 g h1
 have hB' : ∀ (xs : Array Value) (w : World), Sem.run Tryz.prog (callFunc F xs) w = .ok (.enter F xs) w := hB
 have IC : Hid _ := fun W (t : Tab W) => dint_calls J hJ W t
 have hT0 := hT.1.kept bA
 generalize intD J = I at *
 generalize tnR p = R at *
 generalize tnN p = N at *
 clear h hp hT hB hV hJ
 cases Bo
 ·
  rw [if_neg (by decide)]
  unfold no3
  go_enter Tryz.func82, Tryz.ntmps82
  go_upto_region 1 with fail
  generalize ((w.alloc (.cells #[.bool p.1, .slice a n c, .int .i64 p.2.2] 27)).alloc (.cells #[.bool false, .slice none 0 0, .int .i64 0] 27)) = w0 at *
  have bw : Below w0.heap.size w0 w0.drew := (Below.refl _ _).drew
  refine wp_region_held (S := fun w' => Below w0.heap.size w0 w') (by kernel_rfl) ?_
  change wpAnyH _ _ _ _ _ _ _ _ (World.drew w0)
  generalize World.drew w0 = wd at bw ⊢
  refine tk 0 (.func (.func F) #[] #[]) rfl (by kernel_rfl) (fun _ _ _ h => h) (by rfl) ?y87 bw ?r87
  case y87 =>
   intro ww hS
   have q0 := kC hS cX
   clear hS
   go_simp
   try first | (with_reducible rfl) | rfl | decide
  try simp only [Act.put, sA]
  refine tk 1 (dyV p.1 a n c p.2.2) rfl (by kernel_rfl) (fun _ _ _ h => h) (by rfl) ?y88 bw ?r88
  case y88 =>
   intro ww hS
   have q0 := kC hS x0
   have q1 := kC hS x1
   have q2 := kC hS x2
   clear hS
   go_simp
   try first | (with_reducible rfl) | rfl | decide
  try simp only [Act.put]
  refine rd1 2 (by kernel_rfl) rfl fun K hK => ?_
  go_simp
  refine cM (TC.out _ (nT bA bw)) ?_
  rintro q wn ⟨a1, n1, c1, rfl, HN1, hn1, hO1, bN⟩
  refine hK.out _ _ (nT bw bN) (fun _ => ?_)
  clear hK K
  replace bw := nT bw bN
  clear bN TC
  try simp only [Act.put, sA, sZ, sS]
  refine rd1 3 (by kernel_rfl) rfl fun K hK => ?_
  go_simp
  refine cM (VC.out _ (nT bA bw) _ _ _ hO1.1 hn1) ?_
  rintro q wm ⟨rfl, bN⟩
  refine hK.out _ _ (nT bw bN) (fun _ => ?_)
  clear hK K
  replace bw := nT bw bN
  clear bN VC HN1 hn1 hO1
  try simp only [Act.put, sA, sZ, sS]
  refine tk 4 (.tuple #[.int .i64 J, .bool false]) rfl (by kernel_rfl) (fun _ _ _ h => h) (by rfl) ?y89 bw ?r89
  case y89 =>
   intro ww hS
   clear hS
   go_simp
   try first | (with_reducible rfl) | rfl | decide
  try simp only [Act.put, sA]
  refine tk 5 (.int .i64 J) rfl (by kernel_rfl) (fun _ _ _ h => h) (by rfl) ?y90 bw ?r90
  case y90 =>
   intro ww hS
   clear hS
   go_simp
   try first | (with_reducible rfl) | rfl | decide
  try simp only [Act.put]
  refine tk 6 (.bool false) rfl (by kernel_rfl) (fun _ _ _ h => h) (by rfl) ?y91 bw ?r91
  case y91 =>
   intro ww hS
   clear hS
   go_simp
   try first | (with_reducible rfl) | rfl | decide
  try simp only [Act.put]
  refine rd1 7 (by kernel_rfl) rfl fun K hK => ?_
  go_simp
  refine hK.out _ _ bw (fun _ => ?_)
  clear hK K
  try simp only [Act.put, sA, sZ, sS]
  refine rd1 8 (by kernel_rfl) rfl fun K hK => ?_
  go_simp
  refine hK.out _ _ bw (fun _ => ?_)
  clear hK K
  try simp only [Act.put, sA, sZ, sS]
  refine wpAnyH_done (by kernel_rfl) ?_ _
  clear x0 x1 x2 cX
  obtain ⟨bA, z0, f0, z1, f1, z2, f2⟩ := jkAF3 bw bA z0 f0 z1 f1 z2 f2
  replace hT0 := hT0.kept bw
  clear bw
  go_wp2_with fail
  exact bodyPost_ret (v := .tuple #[dyV false none 0 0 0, .bool false]) (by simp [results, Tryz.results82, go_sem, z0, z1, z2]) rfl ⟨_, rfl, dyAt_z3 _ _, by repeat (first | (with_reducible exact bA) | (with_reducible refine Below.setCell ?_ (by simp; try omega) _) | (with_reducible refine Below.alloc ?_ (by have := bA.size; simp; try omega) _))⟩
 ·
  rw [if_pos rfl]
  go_enter Tryz.func82, Tryz.ntmps82
  go_upto_region 1 with fail
  generalize ((w.alloc (.cells #[.bool p.1, .slice a n c, .int .i64 p.2.2] 27)).alloc (.cells #[.bool false, .slice none 0 0, .int .i64 0] 27)) = w0 at *
  have bw : Below w0.heap.size w0 w0.drew := (Below.refl _ _).drew
  refine wp_region_held (S := fun w' => Below w0.heap.size w0 w') (by kernel_rfl) ?_
  change wpAnyH _ _ _ _ _ _ _ _ (World.drew w0)
  generalize World.drew w0 = wd at bw ⊢
  refine tk 0 (.func (.func F) #[] #[]) rfl (by kernel_rfl) (fun _ _ _ h => h) (by rfl) ?y92 bw ?r92
  case y92 =>
   intro ww hS
   have q0 := kC hS cX
   clear hS
   go_simp
   try first | (with_reducible rfl) | rfl | decide
  try simp only [Act.put, sA]
  refine tk 1 (dyV p.1 a n c p.2.2) rfl (by kernel_rfl) (fun _ _ _ h => h) (by rfl) ?y93 bw ?r93
  case y93 =>
   intro ww hS
   have q0 := kC hS x0
   have q1 := kC hS x1
   have q2 := kC hS x2
   clear hS
   go_simp
   try first | (with_reducible rfl) | rfl | decide
  try simp only [Act.put]
  refine rd1 2 (by kernel_rfl) rfl fun K hK => ?_
  go_simp
  refine cM (TC.out _ (nT bA bw)) ?_
  rintro q wn ⟨a1, n1, c1, rfl, HN1, hn1, hO1, bN⟩
  refine hK.out _ _ (nT bw bN) (fun _ => ?_)
  clear hK K
  replace bw := nT bw bN
  clear bN TC
  try simp only [Act.put, sA, sZ, sS]
  refine rd1 3 (by kernel_rfl) rfl fun K hK => ?_
  go_simp
  refine cM (VC.out _ (nT bA bw) _ _ _ hO1.1 hn1) ?_
  rintro q wm ⟨rfl, bN⟩
  refine hK.out _ _ (nT bw bN) (fun _ => ?_)
  clear hK K
  replace bw := nT bw bN
  clear bN VC HN1 hn1 hO1
  try simp only [Act.put, sA, sZ, sS]
  refine tk 4 (.tuple #[.int .i64 J, .bool true]) rfl (by kernel_rfl) (fun _ _ _ h => h) (by rfl) ?y94 bw ?r94
  case y94 =>
   intro ww hS
   clear hS
   go_simp
   try first | (with_reducible rfl) | rfl | decide
  try simp only [Act.put, sA]
  refine tk 5 (.int .i64 J) rfl (by kernel_rfl) (fun _ _ _ h => h) (by rfl) ?y95 bw ?r95
  case y95 =>
   intro ww hS
   clear hS
   go_simp
   try first | (with_reducible rfl) | rfl | decide
  try simp only [Act.put]
  refine tk 6 (.bool true) rfl (by kernel_rfl) (fun _ _ _ h => h) (by rfl) ?y96 bw ?r96
  case y96 =>
   intro ww hS
   clear hS
   go_simp
   try first | (with_reducible rfl) | rfl | decide
  try simp only [Act.put]
  refine rd1 7 (by kernel_rfl) rfl fun K hK => ?_
  go_simp
  refine hK.out _ _ bw (fun _ => ?_)
  clear hK K
  try simp only [Act.put, sA, sZ, sS]
  refine rd1 8 (by kernel_rfl) rfl fun K hK => ?_
  go_simp
  refine hK.out _ _ bw (fun _ => ?_)
  clear hK K
  try simp only [Act.put, sA, sZ, sS]
  refine wpAnyH_done (by kernel_rfl) ?_ _
  clear x0 x1 x2 cX
  obtain ⟨bA, z0, f0, z1, f1, z2, f2⟩ := jkAF3 bw bA z0 f0 z1 f1 z2 f2
  replace hT0 := hT0.kept bw
  clear bw
  go_wp2_with fail
  have lb := bA.size
  refine cM (IC.out _ hT0) ?_
  rintro q w9 ⟨_, rfl, ⟨a4, n4, c4, rfl, HN4, hn4, hO4⟩, b1⟩
  obtain ⟨bA, z0, f0, z1, f1, z2, f2⟩ := jkAF3 b1 bA z0 f0 z1 f1 z2 f2
  replace hT0 := hT0.kept b1
  clear b1
  go_wp2_with fail
  exact bodyPost_ret (v := .tuple #[dyV I.1 a4 n4 c4 I.2.2, .bool true]) (by simp [results, Tryz.results82, go_sem, z0, z1, z2]) rfl ⟨_, rfl, ⟨a4, n4, c4, rfl, HN4, hn4, (hO4.low lb).set_dy (w.heap.size + 1) false none 0 0 0 _ _ _ z0 z1 z2⟩, by repeat (first | (with_reducible exact bA) | (with_reducible refine Below.setCell ?_ (by simp; try omega) _) | (with_reducible refine Below.alloc ?_ (by have := bA.size; simp; try omega) _))⟩
end Go.Proofs.YtiijfnaaekmpbaaGreatDoor
