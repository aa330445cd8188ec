/- The document's intervals: Neg, Scale, Trim. -/
import Derived.Test.YtahpdcbmekgkfaaGreatDoorCR2
import Derived.Test.YtahpdcbmekgkfaaGreatDoorCR
import Derived.Test.YtahpdcbmekgkfaaGreatDoorAL
import Derived.Test.YtahpdcbmekgkfaaGreatDoorIVR
import Derived.Test.YtahpdcbmekgkfaaGreatDoorFX
namespace Go.Proofs.YtahpdcbmekgkfaaGreatDoor
open Go.RowKit
set_option maxHeartbeats 4000000
set_option maxRecDepth 100000
theorem vNeg_calls (x y : DT) (ex : -2305843009213693952 ≤ x.2.2.2.2.2 ∧ x.2.2.2.2.2 ≤ 2305843009213693952) (ey : -2305843009213693952 ≤ y.2.2.2.2.2 ∧ y.2.2.2.2.2 ≤ 2305843009213693952) (w : World) (hx : inT w x) (hy : inT w y) :
  Calls Tryz.prog 53 #[ivT x y] w fun r w' => ∃ al nl cl ah nh ch, r = .returned (ivI (formD (!y.1) (val y.2.2.2.2.1) y.2.2.2.2.2).1 al nl cl (formD (!y.1) (val y.2.2.2.2.1) y.2.2.2.2.2).2.2 (formD (!x.1) (val x.2.2.2.2.1) x.2.2.2.2.2).1 ah nh ch (formD (!x.1) (val x.2.2.2.2.1) x.2.2.2.2.2).2.2) ∧ Hid (nl = (wO (formD (!y.1) (val y.2.2.2.2.1) y.2.2.2.2.2).2.1).length) ∧ Hid (nh = (wO (formD (!x.1) (val x.2.2.2.2.1) x.2.2.2.2.2).2.1).length) ∧ OwnW w.heap.size w' al nl cl (wO (formD (!y.1) (val y.2.2.2.2.1) y.2.2.2.2.2).2.1) ∧ OwnW w.heap.size w' ah nh ch (wO (formD (!x.1) (val x.2.2.2.2.1) x.2.2.2.2.2).2.1) ∧ Below w.heap.size w w' := by
 have bA : Below w.heap.size w ((w.alloc (.cells #[.bool x.1, .slice x.2.1 x.2.2.1 x.2.2.2.1, .int .i64 x.2.2.2.2.2, .bool y.1, .slice y.2.1 y.2.2.1 y.2.2.2.1, .int .i64 y.2.2.2.2.2] 27)).alloc (.cells #[.bool false, .slice none 0 0, .int .i64 0, .bool false, .slice none 0 0, .int .i64 0] 27)) := nT (below_one _ _) (below_one _ _)
 have HX : Hid _ := fun w' (q : IsW w' x.2.1 x.2.2.1 x.2.2.2.1 x.2.2.2.2.1) => qNeg_calls x.1 x.2.1 x.2.2.1 x.2.2.2.1 x.2.2.2.2.1 x.2.2.2.2.2 w' q hx.2 (by omega)
 have HY : Hid _ := fun w' (q : IsW w' y.2.1 y.2.2.1 y.2.2.2.1 y.2.2.2.2.1) => qNeg_calls y.1 y.2.1 y.2.2.1 y.2.2.2.1 y.2.2.2.2.1 y.2.2.2.2.2 w' q hy.2 (by omega)
 generalize (formD (!y.1) (val y.2.2.2.2.1) y.2.2.2.2.2) = P at *
 generalize (formD (!x.1) (val x.2.2.2.2.1) x.2.2.2.2.2) = Q at *
 have hI := IsW.keep hx.1 bA
 have hJ := IsW.keep hy.1 bA
 obtain ⟨k0, k1, k2, k3, k4, k5, z0, f0, z1, f1, z2, f2, z3, f3, z4, f4, z5, f5⟩ := fX11 w x y _ rfl
 clear hx hy
 go_enter Tryz.func53, Tryz.ntmps53
 go_upto_region 1 with fail
 generalize ((w.alloc (.cells #[.bool x.1, .slice x.2.1 x.2.2.1 x.2.2.2.1, .int .i64 x.2.2.2.2.2, .bool y.1, .slice y.2.1 y.2.2.1 y.2.2.2.1, .int .i64 y.2.2.2.2.2] 27)).alloc (.cells #[.bool false, .slice none 0 0, .int .i64 0, .bool false, .slice none 0 0, .int .i64 0] 27)) = w0 at *
 have R : Below w0.heap.size w0 (World.drew w0) := (Below.refl _ _).drew
 have lw : Hid (w.heap.size ≤ w0.heap.size) := bA.size
 refine wp_region_held (S := fun w' => AtI w.heap.size (.bool x.1) (.slice x.2.1 x.2.2.1 x.2.2.2.1) (.int .i64 x.2.2.2.2.2) (.bool y.1) (.slice y.2.1 y.2.2.1 y.2.2.2.1) (.int .i64 y.2.2.2.2.2) w') (by kernel_rfl) ?_
 change wpAnyH _ _ _ _ _ _ _ _ (World.drew w0)
 generalize World.drew w0 = wd at R ⊢
 have AA : AtI w.heap.size (.bool x.1) (.slice x.2.1 x.2.2.1 x.2.2.2.1) (.int .i64 x.2.2.2.2.2) (.bool y.1) (.slice y.2.1 y.2.2.1 y.2.2.2.1) (.int .i64 y.2.2.2.2.2) wd := ⟨kC R k0, kC R k1, kC R k2, kC R k3, kC R k4, kC R k5⟩
 clear k0 k1 k2 k3 k4 k5
 revert z0 f0 z1 f1 z2 f2 z3 f3 z4 f4 z5 f5; refine zf6 R ?_; intro z0 f0 z1 f1 z2 f2 z3 f3 z4 f4 z5 f5
 replace hI := IsW.keep hI R
 replace hJ := IsW.keep hJ R
 replace bA := nT bA R
 clear R
 refine tk 0 (.pointer (some ⟨w.heap.size, 3, none⟩)) rfl (by kernel_rfl) (fun _ _ _ h => h) (by rfl) ?y1 AA ?r1
 case y1 => (intro ww hS; obtain ⟨q0, q1, q2, q3, q4, q5⟩ := hS; go_simp; try with_reducible rfl)
 try simp only [Act.put, sA]
 refine tk 1 (dT y) rfl (by kernel_rfl) (fun _ _ _ h => h) (by rfl) ?y2 AA ?r2
 case y2 => (intro ww hS; obtain ⟨q0, q1, q2, q3, q4, q5⟩ := hS; go_simp; try with_reducible rfl)
 try simp only [Act.put]
 refine tk 3 (.pointer (some ⟨w.heap.size, 0, none⟩)) rfl (by kernel_rfl) (fun _ _ _ h => h) (by rfl) ?y3 AA ?r3
 case y3 => (intro ww hS; obtain ⟨q0, q1, q2, q3, q4, q5⟩ := hS; go_simp; try with_reducible rfl)
 try simp only [Act.put]
 refine tk 4 (dT x) rfl (by kernel_rfl) (fun _ _ _ h => h) (by rfl) ?y4 AA ?r4
 case y4 => (intro ww hS; obtain ⟨q0, q1, q2, q3, q4, q5⟩ := hS; go_simp; try with_reducible rfl)
 try simp only [Act.put]
 refine rd1 2 (by kernel_rfl) rfl fun K hK => ?_
 go_simp
 refine cM (HY.out _ hJ) ?_
 rintro r w1 ⟨_, rfl, ⟨ay, ny, cy, rfl, Ny, Oy⟩, bN⟩
 replace Oy := Oy.low bA.size
 revert z0 f0 z1 f1 z2 f2 z3 f3 z4 f4 z5 f5; refine zf6 bN ?_; intro z0 f0 z1 f1 z2 f2 z3 f3 z4 f4 z5 f5
 replace hI := IsW.keep hI bN
 replace hJ := IsW.keep hJ bN
 replace bA := nT bA bN
 replace AA := AA.keep bN
 clear bN
 refine hK.out _ _ AA (fun _ => ?_)
 clear hK K
 try simp only [Act.put, sA, sZ, sS]
 refine rd1 5 (by kernel_rfl) rfl fun K hK => ?_
 go_simp
 refine cM (HX.out _ hI) ?_
 rintro r w2 ⟨_, rfl, ⟨ax, nx, cx, rfl, Nx, Ox⟩, bN⟩
 replace Ox := Ox.low bA.size
 revert z0 f0 z1 f1 z2 f2 z3 f3 z4 f4 z5 f5; refine zf6 bN ?_; intro z0 f0 z1 f1 z2 f2 z3 f3 z4 f4 z5 f5
 replace hI := IsW.keep hI bN
 replace hJ := IsW.keep hJ bN
 replace Oy := Oy.keep bN
 replace bA := nT bA bN
 replace AA := AA.keep bN
 clear bN
 refine hK.out _ _ AA (fun _ => ?_)
 clear hK K
 try simp only [Act.put, sA, sZ, sS]
 refine rd1 6 (by kernel_rfl) rfl fun K hK => ?_
 go_simp
 refine hK.out _ _ AA (fun _ => ?_)
 clear hK K
 try simp only [Act.put, sA, sZ, sS]
 refine rd1 7 (by kernel_rfl) rfl fun K hK => ?_
 go_simp
 refine hK.out _ _ (AA.set6 (by omega) _ _ _ _ _ _) (fun _ => ?_)
 clear hK K
 try simp only [Act.put, sA, sZ, sS]
 refine wpAnyH_done (by kernel_rfl) ?_ _
 go_wp2_with fail
 have s6 := six_ofI z0 z1 z2 z3 z4 z5 (fun _ q => by cases q) (fun _ q => by cases q) (fun _ q => by cases q) (fun _ q => by cases q) (fun _ q => by cases q) (fun _ q => by cases q)
 exact bodyPost_ret (v := ivI P.1 ay ny cy P.2.2 Q.1 ax nx cx Q.2.2) (by simp [results, Tryz.results53, go_sem, z0, z1, z2, z3, z4, z5]) rfl ⟨ay, ny, cy, ax, nx, cx, rfl, Ny, Nx, ownW_sixI Oy s6 _ _ _ _ _ _, ownW_sixI Ox s6 _ _ _ _ _ _, by repeat (first | (with_reducible exact bA) | (with_reducible refine Below.setCell ?_ (by simp; try omega) _))⟩
theorem vScale_calls (x y : DT) (i : Int) (ex : -2305843009213693952 ≤ x.2.2.2.2.2 ∧ x.2.2.2.2.2 ≤ 2305843009213693952) (ey : -2305843009213693952 ≤ y.2.2.2.2.2 ∧ y.2.2.2.2.2 ≤ 2305843009213693952) (hi : -2305843009213693952 ≤ i ∧ i ≤ 2305843009213693952) (w : World) (hx : inT w x) (hy : inT w y) :
  Calls Tryz.prog 54 #[ivT x y, .int .i64 i] w fun r w' => ∃ al nl cl ah nh ch, r = .returned (ivI (formD x.1 (val x.2.2.2.2.1) (x.2.2.2.2.2 + i)).1 al nl cl (formD x.1 (val x.2.2.2.2.1) (x.2.2.2.2.2 + i)).2.2 (formD y.1 (val y.2.2.2.2.1) (y.2.2.2.2.2 + i)).1 ah nh ch (formD y.1 (val y.2.2.2.2.1) (y.2.2.2.2.2 + i)).2.2) ∧ Hid (nl = (wO (formD x.1 (val x.2.2.2.2.1) (x.2.2.2.2.2 + i)).2.1).length) ∧ Hid (nh = (wO (formD y.1 (val y.2.2.2.2.1) (y.2.2.2.2.2 + i)).2.1).length) ∧ OwnW w.heap.size w' al nl cl (wO (formD x.1 (val x.2.2.2.2.1) (x.2.2.2.2.2 + i)).2.1) ∧ OwnW w.heap.size w' ah nh ch (wO (formD y.1 (val y.2.2.2.2.1) (y.2.2.2.2.2 + i)).2.1) ∧ Below w.heap.size w w' := by
 have bA : Below w.heap.size w ((w.alloc (.cells #[.bool x.1, .slice x.2.1 x.2.2.1 x.2.2.2.1, .int .i64 x.2.2.2.2.2, .bool y.1, .slice y.2.1 y.2.2.1 y.2.2.2.1, .int .i64 y.2.2.2.2.2] 27)).alloc (.cells #[.bool false, .slice none 0 0, .int .i64 0, .bool false, .slice none 0 0, .int .i64 0] 27)) := nT (below_one _ _) (below_one _ _)
 have HX : Hid _ := fun w' (q : IsW w' x.2.1 x.2.2.1 x.2.2.2.1 x.2.2.2.2.1) => qTwice_calls x.1 x.2.1 x.2.2.1 x.2.2.2.1 x.2.2.2.2.1 x.2.2.2.2.2 i w' q hx.2 ⟨by omega, by omega⟩
 have HY : Hid _ := fun w' (q : IsW w' y.2.1 y.2.2.1 y.2.2.2.1 y.2.2.2.2.1) => qTwice_calls y.1 y.2.1 y.2.2.1 y.2.2.2.1 y.2.2.2.2.1 y.2.2.2.2.2 i w' q hy.2 ⟨by omega, by omega⟩
 generalize (formD x.1 (val x.2.2.2.2.1) (x.2.2.2.2.2 + i)) = P at *
 generalize (formD y.1 (val y.2.2.2.2.1) (y.2.2.2.2.2 + i)) = Q at *
 have hI := IsW.keep hx.1 bA
 have hJ := IsW.keep hy.1 bA
 obtain ⟨k0, k1, k2, k3, k4, k5, z0, f0, z1, f1, z2, f2, z3, f3, z4, f4, z5, f5⟩ := fX11 w x y _ rfl
 clear hx hy
 go_enter Tryz.func54, Tryz.ntmps54
 go_upto_region 1 with fail
 generalize ((w.alloc (.cells #[.bool x.1, .slice x.2.1 x.2.2.1 x.2.2.2.1, .int .i64 x.2.2.2.2.2, .bool y.1, .slice y.2.1 y.2.2.1 y.2.2.2.1, .int .i64 y.2.2.2.2.2] 27)).alloc (.cells #[.bool false, .slice none 0 0, .int .i64 0, .bool false, .slice none 0 0, .int .i64 0] 27)) = w0 at *
 have R : Below w0.heap.size w0 (World.drew w0) := (Below.refl _ _).drew
 have lw : Hid (w.heap.size ≤ w0.heap.size) := bA.size
 refine wp_region_held (S := fun w' => AtI w.heap.size (.bool x.1) (.slice x.2.1 x.2.2.1 x.2.2.2.1) (.int .i64 x.2.2.2.2.2) (.bool y.1) (.slice y.2.1 y.2.2.1 y.2.2.2.1) (.int .i64 y.2.2.2.2.2) w') (by kernel_rfl) ?_
 change wpAnyH _ _ _ _ _ _ _ _ (World.drew w0)
 generalize World.drew w0 = wd at R ⊢
 have AA : AtI w.heap.size (.bool x.1) (.slice x.2.1 x.2.2.1 x.2.2.2.1) (.int .i64 x.2.2.2.2.2) (.bool y.1) (.slice y.2.1 y.2.2.1 y.2.2.2.1) (.int .i64 y.2.2.2.2.2) wd := ⟨kC R k0, kC R k1, kC R k2, kC R k3, kC R k4, kC R k5⟩
 clear k0 k1 k2 k3 k4 k5
 revert z0 f0 z1 f1 z2 f2 z3 f3 z4 f4 z5 f5; refine zf6 R ?_; intro z0 f0 z1 f1 z2 f2 z3 f3 z4 f4 z5 f5
 replace hI := IsW.keep hI R
 replace hJ := IsW.keep hJ R
 replace bA := nT bA R
 clear R
 refine tk 0 (.pointer (some ⟨w.heap.size, 0, none⟩)) rfl (by kernel_rfl) (fun _ _ _ h => h) (by rfl) ?y1 AA ?r1
 case y1 => (intro ww hS; obtain ⟨q0, q1, q2, q3, q4, q5⟩ := hS; go_simp; try with_reducible rfl)
 try simp only [Act.put, sA]
 refine tk 1 (dT x) rfl (by kernel_rfl) (fun _ _ _ h => h) (by rfl) ?y2 AA ?r2
 case y2 => (intro ww hS; obtain ⟨q0, q1, q2, q3, q4, q5⟩ := hS; go_simp; try with_reducible rfl)
 try simp only [Act.put]
 refine tk 2 (.int .i64 i) rfl (by kernel_rfl) (fun _ _ _ h => h) (by rfl) ?y3 AA ?r3
 case y3 => (intro ww hS; obtain ⟨q0, q1, q2, q3, q4, q5⟩ := hS; go_simp; try with_reducible rfl)
 try simp only [Act.put]
 refine tk 4 (.pointer (some ⟨w.heap.size, 3, none⟩)) rfl (by kernel_rfl) (fun _ _ _ h => h) (by rfl) ?y4 AA ?r4
 case y4 => (intro ww hS; obtain ⟨q0, q1, q2, q3, q4, q5⟩ := hS; go_simp; try with_reducible rfl)
 try simp only [Act.put]
 refine tk 5 (dT y) rfl (by kernel_rfl) (fun _ _ _ h => h) (by rfl) ?y5 AA ?r5
 case y5 => (intro ww hS; obtain ⟨q0, q1, q2, q3, q4, q5⟩ := hS; go_simp; try with_reducible rfl)
 try simp only [Act.put]
 refine tk 6 (.int .i64 i) rfl (by kernel_rfl) (fun _ _ _ h => h) (by rfl) ?y6 AA ?r6
 case y6 => (intro ww hS; obtain ⟨q0, q1, q2, q3, q4, q5⟩ := hS; go_simp; try with_reducible rfl)
 try simp only [Act.put]
 refine rd1 3 (by kernel_rfl) rfl fun K hK => ?_
 go_simp
 refine cM (HX.out _ hI) ?_
 rintro r w1 ⟨_, rfl, ⟨ax, nx, cx, rfl, Nx, Ox⟩, bN⟩
 replace Ox := Ox.low bA.size
 revert z0 f0 z1 f1 z2 f2 z3 f3 z4 f4 z5 f5; refine zf6 bN ?_; intro z0 f0 z1 f1 z2 f2 z3 f3 z4 f4 z5 f5
 replace hI := IsW.keep hI bN
 replace hJ := IsW.keep hJ bN
 replace bA := nT bA bN
 replace AA := AA.keep bN
 clear bN
 refine hK.out _ _ AA (fun _ => ?_)
 clear hK K
 try simp only [Act.put, sA, sZ, sS]
 refine rd1 7 (by kernel_rfl) rfl fun K hK => ?_
 go_simp
 refine cM (HY.out _ hJ) ?_
 rintro r w2 ⟨_, rfl, ⟨ay, ny, cy, rfl, Ny, Oy⟩, bN⟩
 replace Oy := Oy.low bA.size
 revert z0 f0 z1 f1 z2 f2 z3 f3 z4 f4 z5 f5; refine zf6 bN ?_; intro z0 f0 z1 f1 z2 f2 z3 f3 z4 f4 z5 f5
 replace hI := IsW.keep hI bN
 replace hJ := IsW.keep hJ bN
 replace Ox := Ox.keep bN
 replace bA := nT bA bN
 replace AA := AA.keep bN
 clear bN
 refine hK.out _ _ AA (fun _ => ?_)
 clear hK K
 try simp only [Act.put, sA, sZ, sS]
 refine rd1 8 (by kernel_rfl) rfl fun K hK => ?_
 go_simp
 refine hK.out _ _ AA (fun _ => ?_)
 clear hK K
 try simp only [Act.put, sA, sZ, sS]
 refine rd1 9 (by kernel_rfl) rfl fun K hK => ?_
 go_simp
 refine hK.out _ _ (AA.set6 (by omega) _ _ _ _ _ _) (fun _ => ?_)
 clear hK K
 try simp only [Act.put, sA, sZ, sS]
 refine wpAnyH_done (by kernel_rfl) ?_ _
 go_wp2_with fail
 have s6 := six_ofI z0 z1 z2 z3 z4 z5 (fun _ q => by cases q) (fun _ q => by cases q) (fun _ q => by cases q) (fun _ q => by cases q) (fun _ q => by cases q) (fun _ q => by cases q)
 exact bodyPost_ret (v := ivI P.1 ax nx cx P.2.2 Q.1 ay ny cy Q.2.2) (by simp [results, Tryz.results54, go_sem, z0, z1, z2, z3, z4, z5]) rfl ⟨ax, nx, cx, ay, ny, cy, rfl, Nx, Ny, ownW_sixI Ox s6 _ _ _ _ _ _, ownW_sixI Oy s6 _ _ _ _ _ _, by repeat (first | (with_reducible exact bA) | (with_reducible refine Below.setCell ?_ (by simp; try omega) _))⟩
theorem vTrim_calls (x y : DT) (i : Int) (rx : rgT x = true) (ry : rgT y = true) (hi : 1 ≤ i ∧ i ≤ 9223372036854775807) (w : World) (hx : inT w x) (hy : inT w y) :
  Calls Tryz.prog 56 #[ivT x y, .int .i64 i] w fun r w' => ∃ al nl cl ah nh ch, r = .returned (ivI (cutD (formD x.1 (val x.2.2.2.2.1) x.2.2.2.2.2) i false).1 al nl cl (cutD (formD x.1 (val x.2.2.2.2.1) x.2.2.2.2.2) i false).2.2 (cutD (formD y.1 (val y.2.2.2.2.1) y.2.2.2.2.2) i true).1 ah nh ch (cutD (formD y.1 (val y.2.2.2.2.1) y.2.2.2.2.2) i true).2.2) ∧ Hid (nl = (wO (cutD (formD x.1 (val x.2.2.2.2.1) x.2.2.2.2.2) i false).2.1).length) ∧ Hid (nh = (wO (cutD (formD y.1 (val y.2.2.2.2.1) y.2.2.2.2.2) i true).2.1).length) ∧ OwnW w.heap.size w' al nl cl (wO (cutD (formD x.1 (val x.2.2.2.2.1) x.2.2.2.2.2) i false).2.1) ∧ OwnW w.heap.size w' ah nh ch (wO (cutD (formD y.1 (val y.2.2.2.2.1) y.2.2.2.2.2) i true).2.1) ∧ Below w.heap.size w w' := by
 have bA : Below w.heap.size w ((w.alloc (.cells #[.bool x.1, .slice x.2.1 x.2.2.1 x.2.2.2.1, .int .i64 x.2.2.2.2.2, .bool y.1, .slice y.2.1 y.2.2.1 y.2.2.2.1, .int .i64 y.2.2.2.2.2] 27)).alloc (.cells #[.bool false, .slice none 0 0, .int .i64 0, .bool false, .slice none 0 0, .int .i64 0] 27)) := nT (below_one _ _) (below_one _ _)
 have HX : Hid _ := fun w' (q : IsW w' x.2.1 x.2.2.1 x.2.2.2.1 x.2.2.2.2.1) => qtrim_calls x.1 x.2.1 x.2.2.1 x.2.2.2.1 x.2.2.2.2.1 x.2.2.2.2.2 i false w' q hx.2 rx hi
 have HY : Hid _ := fun w' (q : IsW w' y.2.1 y.2.2.1 y.2.2.2.1 y.2.2.2.2.1) => qtrim_calls y.1 y.2.1 y.2.2.1 y.2.2.2.1 y.2.2.2.2.1 y.2.2.2.2.2 i true w' q hy.2 ry hi
 generalize (cutD (formD x.1 (val x.2.2.2.2.1) x.2.2.2.2.2) i false) = P at *
 generalize (cutD (formD y.1 (val y.2.2.2.2.1) y.2.2.2.2.2) i true) = Q at *
 have hI := IsW.keep hx.1 bA
 have hJ := IsW.keep hy.1 bA
 obtain ⟨k0, k1, k2, k3, k4, k5, z0, f0, z1, f1, z2, f2, z3, f3, z4, f4, z5, f5⟩ := fX11 w x y _ rfl
 clear hx hy
 go_enter Tryz.func56, Tryz.ntmps56
 go_upto_region 1 with fail
 generalize ((w.alloc (.cells #[.bool x.1, .slice x.2.1 x.2.2.1 x.2.2.2.1, .int .i64 x.2.2.2.2.2, .bool y.1, .slice y.2.1 y.2.2.1 y.2.2.2.1, .int .i64 y.2.2.2.2.2] 27)).alloc (.cells #[.bool false, .slice none 0 0, .int .i64 0, .bool false, .slice none 0 0, .int .i64 0] 27)) = w0 at *
 have R : Below w0.heap.size w0 (World.drew w0) := (Below.refl _ _).drew
 have lw : Hid (w.heap.size ≤ w0.heap.size) := bA.size
 refine wp_region_held (S := fun w' => AtI w.heap.size (.bool x.1) (.slice x.2.1 x.2.2.1 x.2.2.2.1) (.int .i64 x.2.2.2.2.2) (.bool y.1) (.slice y.2.1 y.2.2.1 y.2.2.2.1) (.int .i64 y.2.2.2.2.2) w') (by kernel_rfl) ?_
 change wpAnyH _ _ _ _ _ _ _ _ (World.drew w0)
 generalize World.drew w0 = wd at R ⊢
 have AA : AtI w.heap.size (.bool x.1) (.slice x.2.1 x.2.2.1 x.2.2.2.1) (.int .i64 x.2.2.2.2.2) (.bool y.1) (.slice y.2.1 y.2.2.1 y.2.2.2.1) (.int .i64 y.2.2.2.2.2) wd := ⟨kC R k0, kC R k1, kC R k2, kC R k3, kC R k4, kC R k5⟩
 clear k0 k1 k2 k3 k4 k5
 revert z0 f0 z1 f1 z2 f2 z3 f3 z4 f4 z5 f5; refine zf6 R ?_; intro z0 f0 z1 f1 z2 f2 z3 f3 z4 f4 z5 f5
 replace hI := IsW.keep hI R
 replace hJ := IsW.keep hJ R
 replace bA := nT bA R
 clear R
 refine tk 0 (.pointer (some ⟨w.heap.size, 0, none⟩)) rfl (by kernel_rfl) (fun _ _ _ h => h) (by rfl) ?y1 AA ?r1
 case y1 => (intro ww hS; obtain ⟨q0, q1, q2, q3, q4, q5⟩ := hS; go_simp; try with_reducible rfl)
 try simp only [Act.put, sA]
 refine tk 1 (dT x) rfl (by kernel_rfl) (fun _ _ _ h => h) (by rfl) ?y2 AA ?r2
 case y2 => (intro ww hS; obtain ⟨q0, q1, q2, q3, q4, q5⟩ := hS; go_simp; try with_reducible rfl)
 try simp only [Act.put]
 refine tk 2 (.int .i64 i) rfl (by kernel_rfl) (fun _ _ _ h => h) (by rfl) ?y3 AA ?r3
 case y3 => (intro ww hS; obtain ⟨q0, q1, q2, q3, q4, q5⟩ := hS; go_simp; try with_reducible rfl)
 try simp only [Act.put]
 refine tk 4 (.pointer (some ⟨w.heap.size, 3, none⟩)) rfl (by kernel_rfl) (fun _ _ _ h => h) (by rfl) ?y4 AA ?r4
 case y4 => (intro ww hS; obtain ⟨q0, q1, q2, q3, q4, q5⟩ := hS; go_simp; try with_reducible rfl)
 try simp only [Act.put]
 refine tk 5 (dT y) rfl (by kernel_rfl) (fun _ _ _ h => h) (by rfl) ?y5 AA ?r5
 case y5 => (intro ww hS; obtain ⟨q0, q1, q2, q3, q4, q5⟩ := hS; go_simp; try with_reducible rfl)
 try simp only [Act.put]
 refine tk 6 (.int .i64 i) rfl (by kernel_rfl) (fun _ _ _ h => h) (by rfl) ?y6 AA ?r6
 case y6 => (intro ww hS; obtain ⟨q0, q1, q2, q3, q4, q5⟩ := hS; go_simp; try with_reducible rfl)
 try simp only [Act.put]
 refine rd1 3 (by kernel_rfl) rfl fun K hK => ?_
 go_simp
 refine cM (HX.out _ hI) ?_
 rintro r w1 ⟨_, rfl, ⟨ax, nx, cx, rfl, Nx, Ox⟩, bN⟩
 replace Ox := Ox.low bA.size
 revert z0 f0 z1 f1 z2 f2 z3 f3 z4 f4 z5 f5; refine zf6 bN ?_; intro z0 f0 z1 f1 z2 f2 z3 f3 z4 f4 z5 f5
 replace hI := IsW.keep hI bN
 replace hJ := IsW.keep hJ bN
 replace bA := nT bA bN
 replace AA := AA.keep bN
 clear bN
 refine hK.out _ _ AA (fun _ => ?_)
 clear hK K
 try simp only [Act.put, sA, sZ, sS]
 refine rd1 7 (by kernel_rfl) rfl fun K hK => ?_
 go_simp
 refine cM (HY.out _ hJ) ?_
 rintro r w2 ⟨_, rfl, ⟨ay, ny, cy, rfl, Ny, Oy⟩, bN⟩
 replace Oy := Oy.low bA.size
 revert z0 f0 z1 f1 z2 f2 z3 f3 z4 f4 z5 f5; refine zf6 bN ?_; intro z0 f0 z1 f1 z2 f2 z3 f3 z4 f4 z5 f5
 replace hI := IsW.keep hI bN
 replace hJ := IsW.keep hJ bN
 replace Ox := Ox.keep bN
 replace bA := nT bA bN
 replace AA := AA.keep bN
 clear bN
 refine hK.out _ _ AA (fun _ => ?_)
 clear hK K
 try simp only [Act.put, sA, sZ, sS]
 refine rd1 8 (by kernel_rfl) rfl fun K hK => ?_
 go_simp
 refine hK.out _ _ AA (fun _ => ?_)
 clear hK K
 try simp only [Act.put, sA, sZ, sS]
 refine rd1 9 (by kernel_rfl) rfl fun K hK => ?_
 go_simp
 refine hK.out _ _ (AA.set6 (by omega) _ _ _ _ _ _) (fun _ => ?_)
 clear hK K
 try simp only [Act.put, sA, sZ, sS]
 refine wpAnyH_done (by kernel_rfl) ?_ _
 go_wp2_with fail
 have s6 := six_ofI z0 z1 z2 z3 z4 z5 (fun _ q => by cases q) (fun _ q => by cases q) (fun _ q => by cases q) (fun _ q => by cases q) (fun _ q => by cases q) (fun _ q => by cases q)
 exact bodyPost_ret (v := ivI P.1 ax nx cx P.2.2 Q.1 ay ny cy Q.2.2) (by simp [results, Tryz.results56, go_sem, z0, z1, z2, z3, z4, z5]) rfl ⟨ax, nx, cx, ay, ny, cy, rfl, Nx, Ny, ownW_sixI Ox s6 _ _ _ _ _ _, ownW_sixI Oy s6 _ _ _ _ _ _, by repeat (first | (with_reducible exact bA) | (with_reducible refine Below.setCell ?_ (by simp; try omega) _))⟩
end Go.Proofs.YtahpdcbmekgkfaaGreatDoor
