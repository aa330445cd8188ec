/- The walk of IvalOwn. -/
import Derived.Deep.CutRange
import Derived.Test.YtahpdcbmekgkfaaGreatDoorOWX
namespace Go.Proofs.YtahpdcbmekgkfaaGreatDoor
open Go.RowKit
set_option maxRecDepth 100000 in
set_option maxHeartbeats 16000000 in
theorem own_core (x y u v : DT) (p : Int) (w : World) (hx : inT w x) (hy : inT w y) (hu : inT w u) (hv : inT w v) (hT : Tab w) :
  Calls Tryz.prog 9 #[ivT x y, ivT u v, .int .i64 p] w fun r w' => r = .returned (.bool true) ∧ Below w.heap.size w w' := by
 have A1 := att_new x y w
 have b1 := below_one w (obT x y)
 have A2 := att_new u v (w.alloc (obT x y))
 have b2 := below_one (w.alloc (obT x y)) (obT u v)
 replace A1 := A1.keep b2
 have bA := nT b1 b2
 rw [show (w.alloc (obT x y)).heap.size = w.heap.size + 1 by simp] at A2
 have FK : Hid (∀ W, Below w.heap.size w W → inT W x ∧ inT W y ∧ inT W u ∧ inT W v ∧ Tab W) := fun W b => ⟨hx.keep b, hy.keep b, hu.keep b, hv.keep b, hT.kept b⟩
 clear b1 b2 hx hy hu hv hT
 go_enter Tryz.func9, Tryz.ntmps9
 go_wp2_with fail
 generalize (w.alloc (obT x y)).alloc (obT u v) = wA at *
 refine cM (ivBegins_calls wA (FK.out wA bA).2.2.2.2) ?_
 rintro r w1 ⟨rfl, bN⟩
 replace A1 := A1.keep bN
 replace A2 := A2.keep bN
 replace bA := nT bA bN
 clear bN
 go_upto_region 3 with fail
 obtain ⟨k0, k1, k2, k3, k4, k5⟩ := id A1
 go_wp2_with fail
 refine cM (vCopyT x y w1 (FK.out w1 bA).1 (FK.out w1 bA).2.1) ?_
 rintro r w2 ⟨G1, G2, rfl, oG1, oG2, s1, s2, bN⟩
 clear k0 k1 k2 k3 k4 k5
 have bM := below_one w2 (obT G1 G2)
 have A7 := att_new G1 G2 w2
 replace A1 := (A1.keep bN).keep bM
 replace A2 := (A2.keep bN).keep bM
 have iG1 := (oG1.keep bM).inT
 have iG2 := (oG2.keep bM).inT
 replace bA := nT bA (nT bN bM)
 have S1 : Hid (smT G1 x = true ∧ smT G2 y = true) := ⟨s1, s2⟩
 clear bN bM oG1 oG2 s1 s2
 go_upto_region 4 with fail
 generalize w2.alloc (obT G1 G2) = wc at *
 generalize w2.heap.size = B7 at *
 have HC : Hid (∀ W, Below wc.heap.size wc W → AtT w.heap.size x y W ∧ AtT (w.heap.size + 1) u v W ∧ AtT B7 G1 G2 W) := fun W b => ⟨A1.keep b, A2.keep b, A7.keep b⟩
 have HI : Hid (∀ W, Below wc.heap.size wc W → inT W x ∧ inT W y ∧ inT W u ∧ inT W v ∧ inT W G1 ∧ inT W G2 ∧ Tab W) := fun W b => by
  obtain ⟨a, b', c, d, e⟩ := FK.out W (nT bA b)
  exact ⟨a, b', c, d, iG1.keep b, iG2.keep b, e⟩
 have lA : w.heap.size ≤ wc.heap.size := bA.size
 have hl1 : w.heap.size + 1 < wc.heap.size := A2.lt
 have hl7 : B7 < wc.heap.size := A7.lt
 have bC := Below.refl wc.heap.size wc
 have DT2 : Hid (∀ W, inT W x → inT W y → inT W u → inT W v → Calls Tryz.prog 15 #[.int .i64 2, ivT x y, ivT u v, .int .i64 0] W fun r w' => ∃ a, r = .returned a ∧ IvA W.heap.size w' a (joR x y u v) ∧ Below W.heap.size W w') := fun W a b c d => by
  have h := docTurn2_calls x y u v 0 W a b c d
  rw [← jo_tr] at h
  exact h
 have JC : Hid (∀ W, inT W x → inT W y → inT W u → inT W v → Tab W → _) := fun W a b c d e => iJoin_calls x y u v W a b c d e
 generalize joR x y u v = J at *
 clear FK A1 A2 A7 iG1 iG2
 have FC : AtT w.heap.size x y wc ∧ AtT (w.heap.size + 1) u v wc ∧ AtT B7 G1 G2 wc := HC.out wc bC
 obtain ⟨-, ⟨l0, l1, l2, l3, l4, l5⟩, ⟨k0, k1, k2, k3, k4, k5⟩⟩ := FC
 have FI := HI.out wc bC
 go_wp2_with fail
 refine cM (iAddT G1 G2 u v p wc FI.2.2.2.2.1 FI.2.2.2.2.2.1 FI.2.2.1 FI.2.2.2.1 FI.2.2.2.2.2.2) ?_
 rintro r w8 ⟨_, rfl, ⟨X1, Y1, rfl, -, -, oX1, oY1⟩, bN⟩
 have lC := bC.size
 replace oX1 : ownT wc.heap.size w8 X1 := ⟨oX1.1.low lC, oX1.2⟩
 replace oY1 : ownT wc.heap.size w8 Y1 := ⟨oY1.1.low lC, oY1.2⟩
 clear k0 k1 k2 k3 k4 k5 l0 l1 l2 l3 l4 l5 FI
 replace bC := nT bC bN
 clear bN lC
 have lB8 := bC.size
 have bN := below_one w8 (obT X1 Y1)
 have A8 := att_new X1 Y1 w8
 replace oX1 := oX1.keep bN
 replace oY1 := oY1.keep bN
 replace bC := nT bC bN
 clear bN
 go_upto_region 5 with fail
 generalize w8.alloc (obT X1 Y1) = v8 at *
 generalize w8.heap.size = B8 at *
 have FC : AtT w.heap.size x y v8 ∧ AtT (w.heap.size + 1) u v v8 ∧ AtT B7 G1 G2 v8 := HC.out v8 bC
 obtain ⟨-, ⟨l0, l1, l2, l3, l4, l5⟩, ⟨k0, k1, k2, k3, k4, k5⟩⟩ := FC
 have FI := HI.out v8 bC
 go_wp2_with fail
 refine cM (iJoin_calls G1 G2 u v v8 FI.2.2.2.2.1 FI.2.2.2.2.2.1 FI.2.2.1 FI.2.2.2.1 FI.2.2.2.2.2.2) ?_
 rintro r w10 ⟨_, rfl, ⟨X2, Y2, rfl, -, -, oX2, oY2⟩, bN⟩
 have lC := bC.size
 replace oX2 : ownT wc.heap.size w10 X2 := ⟨oX2.1.low lC, oX2.2⟩
 replace oY2 : ownT wc.heap.size w10 Y2 := ⟨oY2.1.low lC, oY2.2⟩
 clear k0 k1 k2 k3 k4 k5 l0 l1 l2 l3 l4 l5 FI
 replace oX1 := oX1.keep bN
 replace oY1 := oY1.keep bN
 replace A8 := A8.keep bN
 replace bC := nT bC bN
 clear bN lC
 have lB10 := bC.size
 have bN := below_one w10 (obT X2 Y2)
 have A10 := att_new X2 Y2 w10
 replace oX1 := oX1.keep bN
 replace oY1 := oY1.keep bN
 replace A8 := A8.keep bN
 replace oX2 := oX2.keep bN
 replace oY2 := oY2.keep bN
 replace bC := nT bC bN
 clear bN
 have F10 := fz_new X2 Y2 w10
 go_upto_region 6 with fail
 generalize w10.alloc (obT X2 Y2) = v10 at *
 generalize w10.heap.size = B10 at *
 have Z10 : Hid (AtT B10 X2 Y2 v10 ∧ FzI B10 v10) := ⟨A10, F10⟩
 clear A10 F10
 have FC : AtT w.heap.size x y v10 ∧ AtT (w.heap.size + 1) u v v10 ∧ AtT B7 G1 G2 v10 := HC.out v10 bC
 obtain ⟨-, ⟨l0, l1, l2, l3, l4, l5⟩, ⟨k0, k1, k2, k3, k4, k5⟩⟩ := FC
 have FI := HI.out v10 bC
 go_wp2_with fail
 refine cM (canonR_calls G1 G2 v10 FI.2.2.2.2.1 FI.2.2.2.2.2.1 FI.2.2.2.2.2.2) ?_
 rintro r w12 ⟨_, rfl, ⟨X3, Y3, rfl, -, -, oX3, oY3⟩, bN⟩
 have lC := bC.size
 replace oX3 : ownT wc.heap.size w12 X3 := ⟨oX3.1.low lC, oX3.2⟩
 replace oY3 : ownT wc.heap.size w12 Y3 := ⟨oY3.1.low lC, oY3.2⟩
 clear k0 k1 k2 k3 k4 k5 l0 l1 l2 l3 l4 l5 FI
 replace oX1 := oX1.keep bN
 replace oY1 := oY1.keep bN
 replace A8 := A8.keep bN
 replace oX2 := oX2.keep bN
 replace oY2 := oY2.keep bN
 replace Z10 : Hid (AtT B10 X2 Y2 _ ∧ FzI B10 _) := ⟨Z10.out.1.keep bN, Z10.out.1.frozen Z10.out.2 bN⟩
 replace bC := nT bC bN
 clear bN lC
 have lB12 := bC.size
 have bN := below_one w12 (obT X3 Y3)
 have A12 := att_new X3 Y3 w12
 replace oX1 := oX1.keep bN
 replace oY1 := oY1.keep bN
 replace A8 := A8.keep bN
 replace oX2 := oX2.keep bN
 replace oY2 := oY2.keep bN
 replace oX3 := oX3.keep bN
 replace oY3 := oY3.keep bN
 replace Z10 : Hid (AtT B10 X2 Y2 _ ∧ FzI B10 _) := ⟨Z10.out.1.keep bN, Z10.out.1.frozen Z10.out.2 bN⟩
 replace bC := nT bC bN
 clear bN
 go_upto_region 7 with fail
 generalize w12.alloc (obT X3 Y3) = v12 at *
 generalize w12.heap.size = B12 at *
 have Q1 : At3 v12.heap.size 0 1 2 X1 (v12.alloc (.cells #[.bool X1.1, .slice X1.2.1 X1.2.2.1 X1.2.2.2.1, .int .i64 X1.2.2.2.2.2, .bool Y1.1, .slice Y1.2.1 Y1.2.2.1 Y1.2.2.2.1, .int .i64 Y1.2.2.2.2.2, .bool X2.1, .slice X2.2.1 X2.2.2.1 X2.2.2.2.1, .int .i64 X2.2.2.2.2.2, .bool Y2.1, .slice Y2.2.1 Y2.2.2.1 Y2.2.2.2.1, .int .i64 Y2.2.2.2.2.2, .bool X3.1, .slice X3.2.1 X3.2.2.1 X3.2.2.2.1, .int .i64 X3.2.2.2.2.2, .bool Y3.1, .slice Y3.2.1 Y3.2.2.1 Y3.2.2.2.1, .int .i64 Y3.2.2.2.2.2] 27)) := by refine ⟨?_, ?_, ?_⟩ <;> go_simp
 have Q2 : At3 v12.heap.size 3 4 5 Y1 (v12.alloc (.cells #[.bool X1.1, .slice X1.2.1 X1.2.2.1 X1.2.2.2.1, .int .i64 X1.2.2.2.2.2, .bool Y1.1, .slice Y1.2.1 Y1.2.2.1 Y1.2.2.2.1, .int .i64 Y1.2.2.2.2.2, .bool X2.1, .slice X2.2.1 X2.2.2.1 X2.2.2.2.1, .int .i64 X2.2.2.2.2.2, .bool Y2.1, .slice Y2.2.1 Y2.2.2.1 Y2.2.2.2.1, .int .i64 Y2.2.2.2.2.2, .bool X3.1, .slice X3.2.1 X3.2.2.1 X3.2.2.2.1, .int .i64 X3.2.2.2.2.2, .bool Y3.1, .slice Y3.2.1 Y3.2.2.1 Y3.2.2.2.1, .int .i64 Y3.2.2.2.2.2] 27)) := by refine ⟨?_, ?_, ?_⟩ <;> go_simp
 have Q3 : At3 v12.heap.size 6 7 8 X2 (v12.alloc (.cells #[.bool X1.1, .slice X1.2.1 X1.2.2.1 X1.2.2.2.1, .int .i64 X1.2.2.2.2.2, .bool Y1.1, .slice Y1.2.1 Y1.2.2.1 Y1.2.2.2.1, .int .i64 Y1.2.2.2.2.2, .bool X2.1, .slice X2.2.1 X2.2.2.1 X2.2.2.2.1, .int .i64 X2.2.2.2.2.2, .bool Y2.1, .slice Y2.2.1 Y2.2.2.1 Y2.2.2.2.1, .int .i64 Y2.2.2.2.2.2, .bool X3.1, .slice X3.2.1 X3.2.2.1 X3.2.2.2.1, .int .i64 X3.2.2.2.2.2, .bool Y3.1, .slice Y3.2.1 Y3.2.2.1 Y3.2.2.2.1, .int .i64 Y3.2.2.2.2.2] 27)) := by refine ⟨?_, ?_, ?_⟩ <;> go_simp
 have Q4 : At3 v12.heap.size 9 10 11 Y2 (v12.alloc (.cells #[.bool X1.1, .slice X1.2.1 X1.2.2.1 X1.2.2.2.1, .int .i64 X1.2.2.2.2.2, .bool Y1.1, .slice Y1.2.1 Y1.2.2.1 Y1.2.2.2.1, .int .i64 Y1.2.2.2.2.2, .bool X2.1, .slice X2.2.1 X2.2.2.1 X2.2.2.2.1, .int .i64 X2.2.2.2.2.2, .bool Y2.1, .slice Y2.2.1 Y2.2.2.1 Y2.2.2.2.1, .int .i64 Y2.2.2.2.2.2, .bool X3.1, .slice X3.2.1 X3.2.2.1 X3.2.2.2.1, .int .i64 X3.2.2.2.2.2, .bool Y3.1, .slice Y3.2.1 Y3.2.2.1 Y3.2.2.2.1, .int .i64 Y3.2.2.2.2.2] 27)) := by refine ⟨?_, ?_, ?_⟩ <;> go_simp
 have Q5 : At3 v12.heap.size 12 13 14 X3 (v12.alloc (.cells #[.bool X1.1, .slice X1.2.1 X1.2.2.1 X1.2.2.2.1, .int .i64 X1.2.2.2.2.2, .bool Y1.1, .slice Y1.2.1 Y1.2.2.1 Y1.2.2.2.1, .int .i64 Y1.2.2.2.2.2, .bool X2.1, .slice X2.2.1 X2.2.2.1 X2.2.2.2.1, .int .i64 X2.2.2.2.2.2, .bool Y2.1, .slice Y2.2.1 Y2.2.2.1 Y2.2.2.2.1, .int .i64 Y2.2.2.2.2.2, .bool X3.1, .slice X3.2.1 X3.2.2.1 X3.2.2.2.1, .int .i64 X3.2.2.2.2.2, .bool Y3.1, .slice Y3.2.1 Y3.2.2.1 Y3.2.2.2.1, .int .i64 Y3.2.2.2.2.2] 27)) := by refine ⟨?_, ?_, ?_⟩ <;> go_simp
 have Q6 : At3 v12.heap.size 15 16 17 Y3 (v12.alloc (.cells #[.bool X1.1, .slice X1.2.1 X1.2.2.1 X1.2.2.2.1, .int .i64 X1.2.2.2.2.2, .bool Y1.1, .slice Y1.2.1 Y1.2.2.1 Y1.2.2.2.1, .int .i64 Y1.2.2.2.2.2, .bool X2.1, .slice X2.2.1 X2.2.2.1 X2.2.2.2.1, .int .i64 X2.2.2.2.2.2, .bool Y2.1, .slice Y2.2.1 Y2.2.2.1 Y2.2.2.2.1, .int .i64 Y2.2.2.2.2.2, .bool X3.1, .slice X3.2.1 X3.2.2.1 X3.2.2.2.1, .int .i64 X3.2.2.2.2.2, .bool Y3.1, .slice Y3.2.1 Y3.2.2.1 Y3.2.2.2.1, .int .i64 Y3.2.2.2.2.2] 27)) := by refine ⟨?_, ?_, ?_⟩ <;> go_simp
 have bN := below_one v12 (.cells #[.bool X1.1, .slice X1.2.1 X1.2.2.1 X1.2.2.2.1, .int .i64 X1.2.2.2.2.2, .bool Y1.1, .slice Y1.2.1 Y1.2.2.1 Y1.2.2.2.1, .int .i64 Y1.2.2.2.2.2, .bool X2.1, .slice X2.2.1 X2.2.2.1 X2.2.2.2.1, .int .i64 X2.2.2.2.2.2, .bool Y2.1, .slice Y2.2.1 Y2.2.2.1 Y2.2.2.2.1, .int .i64 Y2.2.2.2.2.2, .bool X3.1, .slice X3.2.1 X3.2.2.1 X3.2.2.2.1, .int .i64 X3.2.2.2.2.2, .bool Y3.1, .slice Y3.2.1 Y3.2.2.1 Y3.2.2.2.1, .int .i64 Y3.2.2.2.2.2] 27)
 obtain ⟨a0, a1, a2, a3, a4, a5⟩ := A8
 obtain ⟨c0, c1, c2, c3, c4, c5⟩ := A12
 have HZ : Hid (AtT B10 X2 Y2 (v12.alloc (.cells #[.bool X1.1, .slice X1.2.1 X1.2.2.1 X1.2.2.2.1, .int .i64 X1.2.2.2.2.2, .bool Y1.1, .slice Y1.2.1 Y1.2.2.1 Y1.2.2.2.1, .int .i64 Y1.2.2.2.2.2, .bool X2.1, .slice X2.2.1 X2.2.2.1 X2.2.2.2.1, .int .i64 X2.2.2.2.2.2, .bool Y2.1, .slice Y2.2.1 Y2.2.2.1 Y2.2.2.2.1, .int .i64 Y2.2.2.2.2.2, .bool X3.1, .slice X3.2.1 X3.2.2.1 X3.2.2.2.1, .int .i64 X3.2.2.2.2.2, .bool Y3.1, .slice Y3.2.1 Y3.2.2.1 Y3.2.2.2.1, .int .i64 Y3.2.2.2.2.2] 27)) ∧ FzI B10 (v12.alloc (.cells #[.bool X1.1, .slice X1.2.1 X1.2.2.1 X1.2.2.2.1, .int .i64 X1.2.2.2.2.2, .bool Y1.1, .slice Y1.2.1 Y1.2.2.1 Y1.2.2.2.1, .int .i64 Y1.2.2.2.2.2, .bool X2.1, .slice X2.2.1 X2.2.2.1 X2.2.2.2.1, .int .i64 X2.2.2.2.2.2, .bool Y2.1, .slice Y2.2.1 Y2.2.2.1 Y2.2.2.2.1, .int .i64 Y2.2.2.2.2.2, .bool X3.1, .slice X3.2.1 X3.2.2.1 X3.2.2.2.1, .int .i64 X3.2.2.2.2.2, .bool Y3.1, .slice Y3.2.1 Y3.2.2.1 Y3.2.2.2.1, .int .i64 Y3.2.2.2.2.2] 27))) := ⟨Z10.out.1.keep bN, Z10.out.1.frozen Z10.out.2 bN⟩
 obtain ⟨d0, d1, d2, d3, d4, d5⟩ := Z10.out.1
 have OO : Hid (OW wc.heap.size v12.heap.size X1 Y1 X2 Y2 X3 Y3 (v12.alloc (.cells #[.bool X1.1, .slice X1.2.1 X1.2.2.1 X1.2.2.2.1, .int .i64 X1.2.2.2.2.2, .bool Y1.1, .slice Y1.2.1 Y1.2.2.1 Y1.2.2.2.1, .int .i64 Y1.2.2.2.2.2, .bool X2.1, .slice X2.2.1 X2.2.2.1 X2.2.2.2.1, .int .i64 X2.2.2.2.2.2, .bool Y2.1, .slice Y2.2.1 Y2.2.2.1 Y2.2.2.2.1, .int .i64 Y2.2.2.2.2.2, .bool X3.1, .slice X3.2.1 X3.2.2.1 X3.2.2.2.1, .int .i64 X3.2.2.2.2.2, .bool Y3.1, .slice Y3.2.1 Y3.2.2.1 Y3.2.2.2.1, .int .i64 Y3.2.2.2.2.2] 27))) := ⟨⟨Q1, Q2, Q3, Q4, Q5, Q6⟩, WrT.of (oX1.keep bN), WrT.of (oY1.keep bN), WrT.of (oX2.keep bN), WrT.of (oY2.keep bN), WrT.of (oX3.keep bN), WrT.of (oY3.keep bN)⟩
 have lv := bC.size
 replace bC := nT bC bN
 clear bN Q1 Q2 Q3 Q4 Q5 Q6 oX1 oY1 oX2 oY2 oX3 oY3 Z10
 go_upto_region 8 with fail
 clear a0 a1 a2 a3 a4 a5 c0 c1 c2 c3 c4 c5 d0 d1 d2 d3 d4 d5
 generalize v12.alloc (.cells #[.bool X1.1, .slice X1.2.1 X1.2.2.1 X1.2.2.2.1, .int .i64 X1.2.2.2.2.2, .bool Y1.1, .slice Y1.2.1 Y1.2.2.1 Y1.2.2.2.1, .int .i64 Y1.2.2.2.2.2, .bool X2.1, .slice X2.2.1 X2.2.2.1 X2.2.2.2.1, .int .i64 X2.2.2.2.2.2, .bool Y2.1, .slice Y2.2.1 Y2.2.2.1 Y2.2.2.2.1, .int .i64 Y2.2.2.2.2.2, .bool X3.1, .slice X3.2.1 X3.2.2.1 X3.2.2.2.1, .int .i64 X3.2.2.2.2.2, .bool Y3.1, .slice Y3.2.1 Y3.2.2.1 Y3.2.2.2.1, .int .i64 Y3.2.2.2.2.2] 27) = wL at *
 generalize v12.heap.size = BS at *
 go_loopw [48] (fun vi wr => ∃ k : Nat, k ≤ 3 ∧ vi = .int .i64 (k : Int) ∧ Below wc.heap.size wc wr ∧ OW wc.heap.size BS X1 Y1 X2 Y2 X3 Y3 wr ∧ AtT B10 X2 Y2 wr ∧ FzI B10 wr) (fun vi _ => 3 - (intOf vi).toNat)
 case atStart => exact ⟨0, by omega, rfl, bC, OO.out, HZ.out.1, HZ.out.2⟩
 case round =>
  clear bC OO HZ
  obtain ⟨k, hk, rfl, bC, OO, Z10, F10⟩ := hrel
  by_cases hlt : k < 3
  ·have HZ : Hid (AtT B10 X2 Y2 wr ∧ FzI B10 wr) := ⟨Z10, F10⟩
   have HO : Hid (OW wc.heap.size BS X1 Y1 X2 Y2 X3 Y3 wr) := OO
   clear Z10 F10
   have KK : ∃ XA YA : DT, (k = 0 ∧ XA = X1 ∧ YA = Y1 ∨ k = 1 ∧ XA = X2 ∧ YA = Y2 ∨ k = 2 ∧ XA = X3 ∧ YA = Y3) ∧ WrT wc.heap.size wr XA ∧ WrT wc.heap.size wr YA := by
    obtain ⟨-, c1, c2, c3, c4, c5, c6⟩ := OO
    rcases (by omega : k = 0 ∨ k = 1 ∨ k = 2) with q | q | q
    ·exact ⟨X1, Y1, Or.inl ⟨q, rfl, rfl⟩, c1, c2⟩
    ·exact ⟨X2, Y2, Or.inr (Or.inl ⟨q, rfl, rfl⟩), c3, c4⟩
    ·exact ⟨X3, Y3, Or.inr (Or.inr ⟨q, rfl, rfl⟩), c5, c6⟩
   obtain ⟨XA, YA, KA, hXA, hYA⟩ := KK
   obtain ⟨⟨⟨x0, x1, x2⟩, ⟨x3, x4, x5⟩, ⟨x6, x7, x8⟩, ⟨x9, xa, xb⟩, ⟨xc, xd, xe⟩, ⟨xf, xg, xh⟩⟩, -⟩ := OO
   have bM := below_one wr (obT XA YA)
   have A15 := att_new XA YA wr
   have lr := bC.size
   have hXB : Hid (WrT wc.heap.size (wr.alloc (obT XA YA)) XA ∧ WrT wc.heap.size (wr.alloc (obT XA YA)) YA) := ⟨⟨hXA.1.keep bM, hXA.2⟩, ⟨hYA.1.keep bM, hYA.2⟩⟩
   have HO2 : Hid (OW wc.heap.size BS X1 Y1 X2 Y2 X3 Y3 (wr.alloc (obT XA YA))) := HO.out.keep bM
   have HZ2 : Hid (AtT B10 X2 Y2 (wr.alloc (obT XA YA)) ∧ FzI B10 (wr.alloc (obT XA YA))) := ⟨HZ.out.1.keep bM, HZ.out.1.frozen HZ.out.2 bM⟩
   have bD : Hid (Below wc.heap.size wc (wr.alloc (obT XA YA))) := nT bC bM
   have B15 : Hid (AtT wr.heap.size XA YA (wr.alloc (obT XA YA))) := A15
   clear bM A15 hXA hYA HO HZ
   have KB : Hid (k = 0 ∧ XA = X1 ∧ YA = Y1 ∨ k = 1 ∧ XA = X2 ∧ YA = Y2 ∨ k = 2 ∧ XA = X3 ∧ YA = Y3) := KA
   clear KA
   go_upto_region 9 with fail
   go_cut [15] from 50 to 51 (fun s15 wx => s15 = .pointer (some ⟨wr.heap.size, 0, none⟩) ∧ wx = wr.alloc (obT XA YA))
   case first =>
    rcases KB.out with ⟨rfl, rfl, rfl⟩ | ⟨rfl, rfl, rfl⟩ | ⟨rfl, rfl, rfl⟩
    all_goals
     clear KB hXB HO2 HZ2 bD B15
     go_wp2_with fail
     go_meet
     case rel => exact ⟨rfl, rfl⟩
   case rest =>
    obtain ⟨rfl, rfl⟩ := hcut
    clear x0 x1 x2 x3 x4 x5 x6 x7 x8 x9 xa xb xc xd xe xf xg xh KB bC lr
    generalize wr.alloc (obT XA YA) = w5 at *
    generalize wr.heap.size = b15 at *
    have nA : XA.2.2.1 ≤ 17592186044000 := hXB.out.1.2
    have nB : YA.2.2.1 ≤ 17592186044000 := hXB.out.2.2
    go_upto_region 11 with fail
    go_loopw [16] (fun vi wq => ∃ i : Nat, i ≤ XA.2.2.1 ∧ vi = .int .i64 (i : Int) ∧ Below wc.heap.size w5 wq ∧ Sp w5 wq) (fun vi _ => XA.2.2.1 - (intOf vi).toNat)
    case atStart => exact ⟨0, by omega, rfl, Below.refl _ _, Sp.refl _⟩
    case round =>
     obtain ⟨i, hi, rfl, hr, hs⟩ := hrel
     obtain ⟨k0, k1, k2, k3, k4, k5⟩ := hs.att B15.out
     by_cases hlt2 : i < XA.2.2.1
     ·obtain ⟨b, off, j, ea, hb, e3, e4⟩ := hXB.out.1.1 i hlt2
      obtain ⟨j', e5⟩ := hs.2.1 _ _ e3
      have e6 := (hs.2.2 ⟨b, off + i, none⟩).trans e4
      have hs2 := hs.set ⟨b, off + i, none⟩ e3 77
      have hr2 := hr.setCell (p := ⟨b, off + i, none⟩) hb (.int .u64 77)
      rw [ea] at k1
      clear hs hr e3 e4 ea
      go_wp2_with fail
      refine ⟨⟨i + 1, by omega, by go_num, hr2, hs2⟩, by simp [intOf]; omega⟩
     ·have hkn : i = XA.2.2.1 := by omega
      go_upto_region 14 with fail
      clear k0 k1 k2 k3 k4 k5 hlt2 hkn hi
      go_upto_region 15 with fail
      go_loopw [17] (fun vi wz => ∃ i : Nat, i ≤ YA.2.2.1 ∧ vi = .int .i64 (i : Int) ∧ Below wc.heap.size w5 wz ∧ Sp w5 wz) (fun vi _ => YA.2.2.1 - (intOf vi).toNat)
      case atStart => exact ⟨0, by omega, rfl, hr, hs⟩
      case round =>
       clear hr hs
       obtain ⟨i2, hi2, rfl, hr, hs⟩ := hrel
       obtain ⟨k0, k1, k2, k3, k4, k5⟩ := hs.att B15.out
       by_cases hlt3 : i2 < YA.2.2.1
       ·obtain ⟨b, off, j, ea, hb, e3, e4⟩ := hXB.out.2.1 i2 hlt3
        obtain ⟨j', e5⟩ := hs.2.1 _ _ e3
        have e6 := (hs.2.2 ⟨b, off + i2, none⟩).trans e4
        have hs2 := hs.set ⟨b, off + i2, none⟩ e3 55
        have hr2 := hr.setCell (p := ⟨b, off + i2, none⟩) hb (.int .u64 55)
        rw [ea] at k4
        clear hs hr e3 e4 ea
        go_wp2_with fail
        refine ⟨⟨i2 + 1, by omega, by go_num, hr2, hs2⟩, by simp [intOf]; omega⟩
       ·have hkn : i2 = YA.2.2.1 := by omega
        have bE := bD.out.trans hr
        have OE := HO2.out.sp hs
        have ZE := hs.att HZ2.out.1
        have FE := hs.fz HZ2.out.2
        clear hr hs HO2 HZ2 bD B15 hXB
        go_wp2_with fail
        exact ⟨⟨k + 1, by omega, by go_num, bE, OE, ZE, FE⟩, by simp [intOf]; omega⟩
  ·have hk3 : k = 3 := by omega
   subst hk3
   clear hlt OO
   have FI := HI.out wr bC
   obtain ⟨⟨k0, k1, k2, k3, k4, k5⟩, ⟨l0, l1, l2, l3, l4, l5⟩, -⟩ := HC.out wr bC
   go_wp2_with fail
   refine cM (JC.out wr FI.1 FI.2.1 FI.2.2.1 FI.2.2.2.1 FI.2.2.2.2.2.2) ?_
   rintro r w6 ⟨_, rfl, ⟨X4, Y4, rfl, p4, q4, o4, o5⟩, bN⟩
   clear k0 k1 k2 k3 k4 k5 l0 l1 l2 l3 l4 l5 FI JC
   have lr := bC.size
   replace o4 : ownT wc.heap.size w6 X4 := ⟨o4.1.low lr, o4.2⟩
   replace o5 : ownT wc.heap.size w6 Y4 := ⟨o5.1.low lr, o5.2⟩
   replace F10 := Z10.frozen F10 bN
   replace Z10 := Z10.keep bN
   replace bC := nT bC bN
   have HZ : Hid (AtT B10 X2 Y2 w6) := Z10
   have C10 : AtT B10 X4 Y4 ((((((w6.setCell ⟨B10, 0, none⟩ (.bool X4.1)).setCell ⟨B10, 1, none⟩ (.slice X4.2.1 X4.2.2.1 X4.2.2.2.1)).setCell ⟨B10, 2, none⟩ (.int .i64 X4.2.2.2.2.2)).setCell ⟨B10, 3, none⟩ (.bool Y4.1)).setCell ⟨B10, 4, none⟩ (.slice Y4.2.1 Y4.2.2.1 Y4.2.2.2.1)).setCell ⟨B10, 5, none⟩ (.int .i64 Y4.2.2.2.2.2)) := HZ.out.put X4 Y4
   have i4 : inT ((((((w6.setCell ⟨B10, 0, none⟩ (.bool X4.1)).setCell ⟨B10, 1, none⟩ (.slice X4.2.1 X4.2.2.1 X4.2.2.2.1)).setCell ⟨B10, 2, none⟩ (.int .i64 X4.2.2.2.2.2)).setCell ⟨B10, 3, none⟩ (.bool Y4.1)).setCell ⟨B10, 4, none⟩ (.slice Y4.2.1 Y4.2.2.1 Y4.2.2.2.1)).setCell ⟨B10, 5, none⟩ (.int .i64 Y4.2.2.2.2.2)) X4 := (HZ.out.own o4 X4 Y4).inT
   have i5 : inT ((((((w6.setCell ⟨B10, 0, none⟩ (.bool X4.1)).setCell ⟨B10, 1, none⟩ (.slice X4.2.1 X4.2.2.1 X4.2.2.2.1)).setCell ⟨B10, 2, none⟩ (.int .i64 X4.2.2.2.2.2)).setCell ⟨B10, 3, none⟩ (.bool Y4.1)).setCell ⟨B10, 4, none⟩ (.slice Y4.2.1 Y4.2.2.1 Y4.2.2.2.1)).setCell ⟨B10, 5, none⟩ (.int .i64 Y4.2.2.2.2.2)) Y4 := (HZ.out.own o5 X4 Y4).inT
   have bD : Below wc.heap.size wc ((((((w6.setCell ⟨B10, 0, none⟩ (.bool X4.1)).setCell ⟨B10, 1, none⟩ (.slice X4.2.1 X4.2.2.1 X4.2.2.2.1)).setCell ⟨B10, 2, none⟩ (.int .i64 X4.2.2.2.2.2)).setCell ⟨B10, 3, none⟩ (.bool Y4.1)).setCell ⟨B10, 4, none⟩ (.slice Y4.2.1 Y4.2.2.1 Y4.2.2.2.1)).setCell ⟨B10, 5, none⟩ (.int .i64 Y4.2.2.2.2.2)) := below_put6 bC lB10 X4 Y4
   obtain ⟨z0, z1, z2, z3, z4, z5⟩ := Z10
   obtain ⟨f0, f1, f2, f3, f4, f5⟩ := F10
   clear bN o4 o5 bC
   go_upto_region 20 with fail
   generalize ((((((w6.setCell ⟨B10, 0, none⟩ (.bool X4.1)).setCell ⟨B10, 1, none⟩ (.slice X4.2.1 X4.2.2.1 X4.2.2.2.1)).setCell ⟨B10, 2, none⟩ (.int .i64 X4.2.2.2.2.2)).setCell ⟨B10, 3, none⟩ (.bool Y4.1)).setCell ⟨B10, 4, none⟩ (.slice Y4.2.1 Y4.2.2.1 Y4.2.2.2.1)).setCell ⟨B10, 5, none⟩ (.int .i64 Y4.2.2.2.2.2)) = w7 at *
   clear z0 z1 z2 z3 z4 z5 f0 f1 f2 f3 f4 f5 HZ
   have FI := HI.out w7 bD
   obtain ⟨⟨k0, k1, k2, k3, k4, k5⟩, ⟨l0, l1, l2, l3, l4, l5⟩, -⟩ := HC.out w7 bD
   go_wp2_with fail
   refine cM (DT2.out w7 FI.1 FI.2.1 FI.2.2.1 FI.2.2.2.1) ?_
   rintro r w8 ⟨_, rfl, ⟨X5, Y5, rfl, p5, q5, o6, o7⟩, bN⟩
   clear k0 k1 k2 k3 k4 k5 l0 l1 l2 l3 l4 l5 FI DT2
   have bM := below_one w8 (obT X5 Y5)
   have A19 := att_new X5 Y5 w8
   replace o6 := (o6.keep bM).inT
   replace o7 := (o7.keep bM).inT
   replace i4 := (i4.keep bN).keep bM
   replace i5 := (i5.keep bN).keep bM
   replace C10 := (C10.keep bN).keep bM
   replace bD := nT bD (nT bN bM)
   have s4 := sm_eq p4 p5
   have s5 := sm_eq q4 q5
   clear bN bM p4 q4 p5 q5
   go_upto_region 21 with fail
   generalize w8.alloc (obT X5 Y5) = w9 at *
   generalize w8.heap.size = B19 at *
   have FI := HI.out w9 bD
   obtain ⟨⟨k0, k1, k2, k3, k4, k5⟩, -, ⟨l0, l1, l2, l3, l4, l5⟩⟩ := HC.out w9 bD
   have SS := S1.out
   have SC : Hid _ := vSameT G1 G2 x y w9 FI.2.2.2.2.1 FI.2.2.2.2.2.1 FI.1 FI.2.1 SS.1 SS.2
   clear SS FI
   go_wp2_with fail
   refine cM SC.out ?_
   rintro r wa ⟨rfl, bN⟩
   clear k0 k1 k2 k3 k4 k5 l0 l1 l2 l3 l4 l5 SC
   replace o6 := o6.keep bN
   replace o7 := o7.keep bN
   replace i4 := i4.keep bN
   replace i5 := i5.keep bN
   replace C10 := C10.keep bN
   replace A19 := A19.keep bN
   replace bD := nT bD bN
   have SC : Hid _ := vSameT X4 Y4 X5 Y5 wa i4 i5 o6 o7 s4 s5
   obtain ⟨k0, k1, k2, k3, k4, k5⟩ := C10
   obtain ⟨l0, l1, l2, l3, l4, l5⟩ := A19
   clear bN s4 s5
   go_wp2_with fail
   refine cM SC.out ?_
   rintro r wb ⟨rfl, bN⟩
   replace bD := nT bD bN
   clear k0 k1 k2 k3 k4 k5 l0 l1 l2 l3 l4 l5 SC bN
   go_wp2_with fail
   go_ret
   exact ⟨by simp, bA.trans (bD.mono lA)⟩
theorem ivalOwn_walk (s : Bool) (a : Option Addr) (len cap : Nat) (xs : List Int) (e : Int) (s' : Bool) (a' : Option Addr) (len' cap' : Nat) (ys : List Int) (e' : Int) (t : Bool) (b : Option Addr) (bl bc : Nat) (us : List Int) (f : Int) (t' : Bool) (b' : Option Addr) (bl' bc' : Nat) (vs : List Int) (f' : Int) (n : Int) (w : World) (h : IsW w a len cap xs) (hm : len ≤ 17592186044000) (_he : -9223372036854775808 ≤ e ∧ e ≤ 9223372036854775807) (h' : IsW w a' len' cap' ys) (hm' : len' ≤ 17592186044000) (_he' : -9223372036854775808 ≤ e' ∧ e' ≤ 9223372036854775807) (k : IsW w b bl bc us) (km : bl ≤ 17592186044000) (_ke : -9223372036854775808 ≤ f ∧ f ≤ 9223372036854775807) (k' : IsW w b' bl' bc' vs) (km' : bl' ≤ 17592186044000) (_ke' : -9223372036854775808 ≤ f' ∧ f' ≤ 9223372036854775807) (_hn : -9223372036854775808 ≤ n ∧ n ≤ 9223372036854775807) (hT : Tab w) :
  Calls Tryz.prog 9 #[ivI s a len cap e s' a' len' cap' e', ivI t b bl bc f t' b' bl' bc' f', .int .i64 n] w fun r w' => r = .returned (.bool true) ∧ Below w.heap.size w w' :=
 own_core (s, a, len, cap, xs, e) (s', a', len', cap', ys, e') (t, b, bl, bc, us, f) (t', b', bl', bc', vs, f') n w ⟨h, hm⟩ ⟨h', hm'⟩ ⟨k, km⟩ ⟨k', km'⟩ hT
end Go.Proofs.YtahpdcbmekgkfaaGreatDoor
