/- Package exact: cases of a function less 1. -/
import Derived.Test.YtiijfnaaekmpbaaGreatDoorALX
import Derived.Test.YtiijfnaaekmpbaaGreatDoorCR
import Derived.Test.YtiijfnaaekmpbaaGreatDoorEC6
import Derived.Test.YtiijfnaaekmpbaaGreatDoorFX
namespace Go.Proofs.YtiijfnaaekmpbaaGreatDoor
open Go.RowKit
set_option maxRecDepth 100000 in
set_option maxHeartbeats 4000000 in
theorem eLess_calls (p : E3) (a : Option Addr) (n c : Nat) (X F : Nat) (fst caps : Array Value) (t : C3) (w : World) (h : IsW w a n c (wO p.2.1)) (hn : n ≤ 1024) (hp : OkE p) (hT : TabE w) (cX : w.cell? ⟨X, 0, none⟩ = some (.func (.func F) fst caps)) (hB : Body F) (ht : OkE (t p).1)
  (hC : ∀ W, Below w.heap.size w W → TabE W → ∀ (p : E3) (a : Option Addr) (n c : Nat), IsW W a n c (wO p.2.1) → n ≤ 1024 → OkE p → Calls Tryz.prog F (fst ++ #[dyV p.1 a n c p.2.2] ++ caps) W fun q w' => ∃ v', q = .returned (.tuple #[v', .bool (t p).2]) ∧ DyAt W.heap.size w' v' (t p).1 ∧ Below W.heap.size W w') :
  Calls Tryz.prog 75 #[dyV p.1 a n c p.2.2, .pointer (some ⟨X, 0, none⟩)] w fun q w' => ∃ v', q = .returned (.tuple #[v', .bool (cLess t p).2]) ∧ DyAt w.heap.size w' v' (cLess t p).1 ∧ Below w.heap.size w w' := by
 have bA : Below w.heap.size w ((w.alloc (.cells #[.bool p.1, .slice a n c, .int .i64 p.2.2] 27)).alloc (.cells #[.bool false, .slice none 0 0, .int .i64 0] 27)) := nT (below_one _ _) (below_one _ _)
 obtain ⟨x0, x1, x2, z0, f0, z1, f1, z2, f2⟩ := fX4 w p a n c _ rfl
 replace cX := kC bA cX
 have hT0 := hT.1.kept bA
 have I1 : Hid _ := fun W (t : Tab W) => dint_calls 1 ⟨by decide, by decide⟩ W t
 have CC : Hid _ := hC ((w.alloc (.cells #[.bool p.1, .slice a n c, .int .i64 p.2.2] 27)).alloc (.cells #[.bool false, .slice none 0 0, .int .i64 0] 27)) bA (hT.kept bA) p a n c (h.keep bA) hn hp
 have O3 : Hid _ := fun (V : World) (W : World) (b : Below V.heap.size V W) (t1 : Tab V) (a3 : Option Addr) (n3 c3 : Nat) (h3 : IsW V a3 n3 c3 (wO (t p).1.2.1)) (hn3 : n3 ≤ 1024) (a1 : Option Addr) (n1 c1 : Nat) (k : IsW W a1 n1 c1 (wO (intD 1).2.1)) (h1 : n1 ≤ 1024) => subE (t p).1 (intD 1) a3 n3 c3 a1 n1 c1 W (h3.keep b) hn3 k h1 ht (int_ok 1 ⟨by decide, by decide⟩) (t1.kept b)
 have hB' : ∀ (xs : Array Value) (w : World), Sem.run Tryz.prog (callFunc F xs) w = .ok (.enter F xs) w := hB
 unfold cLess
 generalize hV : t p = V at *
 obtain ⟨V1, V2⟩ := V
 simp only at CC O3 ⊢
 generalize roomP (sumD V1 (negD (intD 1))) = R at *
 generalize roomE (sumD V1 (negD (intD 1))) = E at *
 generalize intD 1 = I at *
 clear h hp hT hB hC hV ht
 cases V2
 ·rw [if_neg (by decide)]
  unfold no3
  go_enter Tryz.func75, Tryz.ntmps75
  go_wp2_with fail
  generalize ((w.alloc (.cells #[.bool p.1, .slice a n c, .int .i64 p.2.2] 27)).alloc (.cells #[.bool false, .slice none 0 0, .int .i64 0] 27)) = w0 at *
  have lb := bA.size
  refine cM CC.out ?_
  rintro q w1 ⟨_, rfl, ⟨a3, n3, c3, rfl, HN3, hn3, hO3⟩, b1⟩
  clear x0 x1 x2 cX
  obtain ⟨bA, z0, f0, z1, f1, z2, f2⟩ := jkAF3 b1 bA z0 f0 z1 f1 z2 f2
  replace hT0 := hT0.kept b1
  clear b1 CC
  have bD := below_one w1 (.cells #[.bool V1.1, .slice a3 n3 c3, .int .i64 V1.2.2] 27)
  obtain ⟨bA, z0, f0, z1, f1, z2, f2⟩ := jkAF3 bD bA z0 f0 z1 f1 z2 f2
  replace hT0 := hT0.kept bD
  clear bD
  go_wp2_with fail
  exact bodyPost_ret (v := .tuple #[dyV false none 0 0 0, .bool false]) (by simp [results, Tryz.results75, go_sem, z0, z1, z2]) rfl ⟨_, rfl, dyAt_z3 _ _, by repeat (first | (with_reducible exact bA) | (with_reducible refine Below.setCell ?_ (by simp; try omega) _) | (with_reducible refine Below.alloc ?_ (by have := bA.size; simp; try omega) _))⟩
 ·rw [if_pos rfl]
  go_enter Tryz.func75, Tryz.ntmps75
  go_wp2_with fail
  generalize ((w.alloc (.cells #[.bool p.1, .slice a n c, .int .i64 p.2.2] 27)).alloc (.cells #[.bool false, .slice none 0 0, .int .i64 0] 27)) = w0 at *
  have lb := bA.size
  refine cM CC.out ?_
  rintro q w1 ⟨_, rfl, ⟨a3, n3, c3, rfl, HN3, hn3, hO3⟩, b1⟩
  clear x0 x1 x2 cX
  obtain ⟨bA, z0, f0, z1, f1, z2, f2⟩ := jkAF3 b1 bA z0 f0 z1 f1 z2 f2
  replace hT0 := hT0.kept b1
  clear b1 CC
  have bD := below_one w1 (.cells #[.bool V1.1, .slice a3 n3 c3, .int .i64 V1.2.2] 27)
  obtain ⟨bA, z0, f0, z1, f1, z2, f2⟩ := jkAF3 bD bA z0 f0 z1 f1 z2 f2
  replace hT0 := hT0.kept bD
  replace hO3 := hO3.keep bD
  obtain ⟨y0, y1, y2⟩ := fX3 w1 V1 a3 n3 c3 _ rfl
  clear bD
  go_upto_region 4 with fail
  generalize w1.alloc (.cells #[.bool V1.1, .slice a3 n3 c3, .int .i64 V1.2.2] 27) = w2 at *
  generalize w1.heap.size = BV at *
  have O2 : Hid _ := fun W b a1 n1 c1 k h1 => O3.out w2 W b hT0 a3 n3 c3 hO3.1 hn3 a1 n1 c1 k h1
  have bw : Below w2.heap.size w2 w2.drew := (Below.refl _ _).drew
  refine wp_region_held (S := fun w' => Below w2.heap.size w2 w') (by kernel_rfl) ?_
  change wpAnyH _ _ _ _ _ _ _ _ (World.drew w2)
  generalize World.drew w2 = wc at bw ⊢
  refine tk 0 (.agg #[.bool V1.1, .slice a3 n3 c3, .int .i64 V1.2.2]) rfl (by kernel_rfl) (fun _ _ _ h => h) (by rfl) ?y3 bw ?r3
  case y3 =>
   intro ww hS
   have q0 := kC hS y0
   have q1 := kC hS y1
   have q2 := kC hS y2
   clear hS
   go_simp
   try with_reducible rfl
  try simp only [Act.put, sA]
  iterate 3
   all_goals
    first
    | (have _q := hP1; have _q := hP2; refine wpAnyH_ready (rs := [6]) (by kernel_rfl) (by simp) ?_; refine AllReadyH.cons rfl (fun K hK => have mk6 := True.intro; ?_) AllReadyH.nil)
    | (have _q := hP1; have _q := X0; refine wpAnyH_ready (rs := [2]) (by kernel_rfl) (by simp) ?_; refine AllReadyH.cons rfl (fun K hK => have mk2 := True.intro; ?_) AllReadyH.nil)
    | (have _q := hP1; refine wpAnyH_ready (rs := [2, 6]) (by kernel_rfl) (by simp) ?_; refine AllReadyH.cons rfl (fun K hK => have mk2 := True.intro; ?_) (AllReadyH.cons rfl (fun K hK => have mk6 := True.intro; ?_) AllReadyH.nil))
    | (have _q := X0; refine wpAnyH_ready (rs := [1]) (by kernel_rfl) (by simp) ?_; refine AllReadyH.cons rfl (fun K hK => have mk1 := True.intro; ?_) AllReadyH.nil)
    | (refine wpAnyH_ready (rs := [1, 6]) (by kernel_rfl) (by simp) ?_; refine AllReadyH.cons rfl (fun K hK => have mk1 := True.intro; ?_) (AllReadyH.cons rfl (fun K hK => have mk6 := True.intro; ?_) AllReadyH.nil))
   all_goals
    go_simp
    first
    | (have _m := mk1
       clear mk1 _m
       refine cM (I1.out _ (hT0.kept bw)) ?_
       rintro r wn ⟨_, rfl, ⟨a1, n1, c1, rfl, HN1, hn1, hO1⟩, bN⟩
       refine hK.out _ _ (nT bw bN) (fun _ => ?_)
       clear hK K
       have hP1 := hO1.low (B' := w2.heap.size) bw.size
       try (replace X3 := kF bN X0 X3; replace X4 := kF bN X1 X4; replace X5 := kF bN X2 X5; replace X0 := kC bN X0; replace X1 := kC bN X1; replace X2 := kC bN X2)
       replace bw := nT bw bN
       clear bN hO1
       try simp only [Act.put, sA, sZ, sS]
       rename World => wc)
    | (have _m := mk2
       clear mk2 _m
       refine cM (O2.out _ bw a1 n1 c1 hP1.1 hn1) ?_
       rintro r wn ⟨_, rfl, ⟨a2, n2, c2, rfl, HN2, hn2, hO2⟩, bN⟩
       refine hK.out _ _ (nT bw bN) (fun _ => ?_)
       clear hK K
       have hP2 := hO2.low (B' := w2.heap.size) bw.size
       try (replace X3 := kF bN X0 X3; replace X4 := kF bN X1 X4; replace X5 := kF bN X2 X5; replace X0 := kC bN X0; replace X1 := kC bN X1; replace X2 := kC bN X2)
       replace bw := nT bw bN
       clear bN hO2
       try simp only [Act.put, sA, sZ, sS]
       rename World => wc
       refine tk 3 (.tuple #[dyV R.1 a2 n2 c2 R.2.2, .int .i64 E]) rfl (by kernel_rfl) (fun _ _ _ h => h) (by rfl) (by intro ww hS; clear hS; go_simp; try with_reducible rfl) bw ?_
       try simp only [Act.put, sA]
       refine tk 4 (dyV R.1 a2 n2 c2 R.2.2) rfl (by kernel_rfl) (fun _ _ _ h => h) (by rfl) (by intro ww hS; clear hS; go_simp; try with_reducible rfl) bw ?_
       try simp only [Act.put]
       refine tk 5 (.int .i64 E) rfl (by kernel_rfl) (fun _ _ _ h => h) (by rfl) (by intro ww hS; clear hS; go_simp; try with_reducible rfl) bw ?_
       try simp only [Act.put])
    | (have _m := mk6
       clear mk6 _m
       refine hK.out _ _ (bl_alloc bw _) (fun _ => ?_)
       clear hK K
       have bN := below_one wc (.cells #[.bool false, .slice none 0 0, .int .i64 0] 27)
       have XL : w2.heap.size ≤ wc.heap.size := bw.size
       obtain ⟨X0, X1, X2, X3, X4, X5⟩ := zero_dy (w := wc) (r := wc.heap.size) (W' := wc.alloc (.cells #[.bool false, .slice none 0 0, .int .i64 0] 27)) (Below.refl _ _) rfl
       try replace hP1 := hP1.keep bN
       try replace hP2 := hP2.keep bN
       replace bw := nT bw bN
       clear bN
       try simp only [Act.put]
       generalize wc.alloc (.cells #[.bool false, .slice none 0 0, .int .i64 0] 27) = wn at *
       generalize wc.heap.size = XB at *
       rename World => wc)
  all_goals
   refine rd1 7 (by kernel_rfl) rfl fun K hK => ?_
   go_simp
   have bS : Below w2.heap.size w2 (((wc.setCell ⟨XB, 0, none⟩ (.bool R.1)).setCell ⟨XB, 1, none⟩ (.slice a2 n2 c2)).setCell ⟨XB, 2, none⟩ (.int .i64 R.2.2)) := ((bw.setCell XL _).setCell XL _).setCell XL _
   refine hK.out _ _ bS (fun _ => ?_)
   clear hK K
   replace hP2 := hP2.set_dy _ _ _ _ _ _ (.bool R.1) (.slice a2 n2 c2) (.int .i64 R.2.2) X0 X1 X2
   obtain ⟨Z0, Z1, Z2⟩ := set3_same (r := XB) (v0 := .bool R.1) (v1 := .slice a2 n2 c2) (v2 := .int .i64 R.2.2) X0 X1 X2
   clear X0 X1 X2 X3 X4 X5 bw hP1
   try simp only [Act.put, sA, sZ, sS]
   generalize (((wc.setCell ⟨XB, 0, none⟩ (.bool R.1)).setCell ⟨XB, 1, none⟩ (.slice a2 n2 c2)).setCell ⟨XB, 2, none⟩ (.int .i64 R.2.2)) = we at *
   refine rd1 8 (by kernel_rfl) rfl fun K hK => ?_
   go_simp
   refine hK.out _ _ bS (fun _ => ?_)
   clear hK K
   try simp only [Act.put, sA, sZ, sS]
   refine wpAnyH_done (by kernel_rfl) ?_ _
   clear y0 y1 y2
   have lc : w.heap.size ≤ w2.heap.size := bA.size
   obtain ⟨bA, z0, f0, z1, f1, z2, f2⟩ := jkAF3 bS bA z0 f0 z1 f1 z2 f2
   replace hT0 := hT0.kept bS
   clear I1 O2 O3
   go_wp2_with fail
   exact bodyPost_ret (v := .tuple #[dyV R.1 a2 n2 c2 R.2.2, .bool (decide (E = 0))]) (by simp [results, Tryz.results75, go_sem, z0, z1, z2]; rfl) rfl ⟨_, rfl, ⟨a2, n2, c2, rfl, HN2, hn2, (hP2.low lc).set_dy (w.heap.size + 1) false none 0 0 0 _ _ _ z0 z1 z2⟩, by repeat (first | (with_reducible exact bA) | (with_reducible refine Below.setCell ?_ (by simp; try omega) _) | (with_reducible refine Below.alloc ?_ (by have := bA.size; simp; try omega) _))⟩
end Go.Proofs.YtiijfnaaekmpbaaGreatDoor
