/- Turn, the question's: the four turns. The walk of IvalTurns. -/
import Derived.Test.YtahpdcbmekgkfaaGreatDoorIT3
import Derived.Test.YtahpdcbmekgkfaaGreatDoorITY
import Derived.Test.YtahpdcbmekgkfaaGreatDoorIVK

namespace Go.Proofs.YtahpdcbmekgkfaaGreatDoor
open Go.RowKit
set_option maxHeartbeats 4000000
set_option maxRecDepth 100000
theorem cu_tr (x y u v : DT) (n : Int) : cuR x y n = trR 3 x y u v n := cuR_eq x y n
theorem sh_tr (x y u v : DT) (n : Int) : shR x y n = trR 1 x y u v n := shR_eq x y n
theorem jo_tr (x y u v : DT) (n : Int) : joR x y u v = trR 2 x y u v n := by
 unfold joR
 show _ = if (rtT x y && rtT u v) = true then roomR (tT (pkT true x u)) (tT (pkT false y v)) else nilR 2
 by_cases h : (rtT x y && rtT u v) = true
 ·have h2 := h
  rw [Bool.and_eq_true] at h2
  rw [if_pos h, if_pos h, cnR_eq, pk_rt h2.1 h2.2, if_pos rfl]
 ·rw [if_neg h, if_neg h]
theorem turn0_calls (x y u v : DT) (n : Int) (w : World) (hx : inT w x) (hy : inT w y) (hu : inT w u) (hv : inT w v) (hT : Tab w) :
  Calls Tryz.prog 14 #[.int .i64 0, ivT x y, ivT u v, .int .i64 n] w fun r w' => ∃ a, r = .returned a ∧ IvA w.heap.size w' a (trR 0 x y u v n) ∧ Below w.heap.size w w' := by
 have A1 := att_new x y w
 have b1 := below_one w (obT x y)
 have A2 := att_new u v (w.alloc (obT x y))
 have b2 := below_one (w.alloc (obT x y)) (obT u v)
 have ZR := zi_new ((w.alloc (obT x y)).alloc (obT u v))
 have b3 := below_one ((w.alloc (obT x y)).alloc (obT u v)) obZ
 replace A1 := (A1.keep b2).keep b3
 replace A2 := A2.keep b3
 have bA := nT (nT b1 b2) b3
 rw [show (w.alloc (obT x y)).heap.size = w.heap.size + 1 by simp] at A2
 rw [show ((w.alloc (obT x y)).alloc (obT u v)).heap.size = w.heap.size + 1 + 1 by simp] at ZR
 clear b1 b2 b3
 replace hx := hx.keep bA
 replace hy := hy.keep bA
 replace hu := hu.keep bA
 replace hv := hv.keep bA
 replace hT := hT.kept bA
 have NC : Hid _ := fun W (hx : inT W x) (hy : inT W y) (hu : inT W u) (hv : inT W v) (hT : Tab W) => iNeg_calls x y W hx hy hT
 rw [negR_eq x y u v n] at NC
 generalize trR 0 x y u v n = RR at *
 go_enter Tryz.func14, Tryz.ntmps14
 go_upto_region 1 with fail
 generalize ((w.alloc (obT x y)).alloc (obT u v)).alloc obZ = wA at *
 obtain ⟨k0, k1, k2, k3, k4, k5⟩ := A1
 obtain ⟨l0, l1, l2, l3, l4, l5⟩ := A2
 go_wp2_with fail
 refine cM (NC.out _ hx hy hu hv hT) ?_
 rintro r w3 ⟨_, rfl, ⟨X, Y, rfl, pX, pY, oX, oY⟩, bN⟩
 have sA := bA.size
 replace oX : ownT w.heap.size w3 X := ⟨oX.1.low sA, oX.2⟩
 replace oY : ownT w.heap.size w3 Y := ⟨oY.1.low sA, oY.2⟩
 replace ZR := ZR.keep bN
 replace bA := nT bA bN
 have ZZ : Hid (ZI (w.heap.size + 1 + 1) w3) := ZR
 obtain ⟨⟨z0, z1, z2, z3, z4, z5⟩, f0, f1, f2, f3, f4, f5⟩ := ZR
 clear bN NC k0 k1 k2 k3 k4 k5 l0 l1 l2 l3 l4 l5 hx hy hu hv hT
 go_wp2_with fail
 exact bodyPost_ret (v := .tuple #[ivT X Y, .int .i64 RR.1]) (by simp [results, Tryz.results14, go_sem, z0, z1, z2, z3, z4, z5]) rfl ⟨_, rfl, ⟨X, Y, rfl, pX, pY, oX.six ZZ.out _ _ _ _ _ _, oY.six ZZ.out _ _ _ _ _ _⟩, by repeat (first | (with_reducible exact bA) | (with_reducible refine Below.setCell ?_ (by simp; try omega) _))⟩
theorem turn1_calls (x y u v : DT) (n : Int) (w : World) (hx : inT w x) (hy : inT w y) (hu : inT w u) (hv : inT w v) (hT : Tab w) :
  Calls Tryz.prog 14 #[.int .i64 1, ivT x y, ivT u v, .int .i64 n] w fun r w' => ∃ a, r = .returned a ∧ IvA w.heap.size w' a (trR 1 x y u v n) ∧ Below w.heap.size w w' := by
 have A1 := att_new x y w
 have b1 := below_one w (obT x y)
 have A2 := att_new u v (w.alloc (obT x y))
 have b2 := below_one (w.alloc (obT x y)) (obT u v)
 have ZR := zi_new ((w.alloc (obT x y)).alloc (obT u v))
 have b3 := below_one ((w.alloc (obT x y)).alloc (obT u v)) obZ
 replace A1 := (A1.keep b2).keep b3
 replace A2 := A2.keep b3
 have bA := nT (nT b1 b2) b3
 rw [show (w.alloc (obT x y)).heap.size = w.heap.size + 1 by simp] at A2
 rw [show ((w.alloc (obT x y)).alloc (obT u v)).heap.size = w.heap.size + 1 + 1 by simp] at ZR
 clear b1 b2 b3
 replace hx := hx.keep bA
 replace hy := hy.keep bA
 replace hu := hu.keep bA
 replace hv := hv.keep bA
 replace hT := hT.kept bA
 have NC : Hid _ := fun W (hx : inT W x) (hy : inT W y) (hu : inT W u) (hv : inT W v) (hT : Tab W) => iScale_calls x y n W hx hy hT
 rw [sh_tr x y u v n] at NC
 generalize trR 1 x y u v n = RR at *
 go_enter Tryz.func14, Tryz.ntmps14
 go_upto_region 1 with fail
 generalize ((w.alloc (obT x y)).alloc (obT u v)).alloc obZ = wA at *
 obtain ⟨k0, k1, k2, k3, k4, k5⟩ := A1
 obtain ⟨l0, l1, l2, l3, l4, l5⟩ := A2
 go_wp2_with fail
 refine cM (NC.out _ hx hy hu hv hT) ?_
 rintro r w3 ⟨_, rfl, ⟨X, Y, rfl, pX, pY, oX, oY⟩, bN⟩
 have sA := bA.size
 replace oX : ownT w.heap.size w3 X := ⟨oX.1.low sA, oX.2⟩
 replace oY : ownT w.heap.size w3 Y := ⟨oY.1.low sA, oY.2⟩
 replace ZR := ZR.keep bN
 replace bA := nT bA bN
 have ZZ : Hid (ZI (w.heap.size + 1 + 1) w3) := ZR
 obtain ⟨⟨z0, z1, z2, z3, z4, z5⟩, f0, f1, f2, f3, f4, f5⟩ := ZR
 clear bN NC k0 k1 k2 k3 k4 k5 l0 l1 l2 l3 l4 l5 hx hy hu hv hT
 go_wp2_with fail
 exact bodyPost_ret (v := .tuple #[ivT X Y, .int .i64 RR.1]) (by simp [results, Tryz.results14, go_sem, z0, z1, z2, z3, z4, z5]) rfl ⟨_, rfl, ⟨X, Y, rfl, pX, pY, oX.six ZZ.out _ _ _ _ _ _, oY.six ZZ.out _ _ _ _ _ _⟩, by repeat (first | (with_reducible exact bA) | (with_reducible refine Below.setCell ?_ (by simp; try omega) _))⟩
theorem turn2_calls (x y u v : DT) (n : Int) (w : World) (hx : inT w x) (hy : inT w y) (hu : inT w u) (hv : inT w v) (hT : Tab w) :
  Calls Tryz.prog 14 #[.int .i64 2, ivT x y, ivT u v, .int .i64 n] w fun r w' => ∃ a, r = .returned a ∧ IvA w.heap.size w' a (trR 2 x y u v n) ∧ Below w.heap.size w w' := by
 have A1 := att_new x y w
 have b1 := below_one w (obT x y)
 have A2 := att_new u v (w.alloc (obT x y))
 have b2 := below_one (w.alloc (obT x y)) (obT u v)
 have ZR := zi_new ((w.alloc (obT x y)).alloc (obT u v))
 have b3 := below_one ((w.alloc (obT x y)).alloc (obT u v)) obZ
 replace A1 := (A1.keep b2).keep b3
 replace A2 := A2.keep b3
 have bA := nT (nT b1 b2) b3
 rw [show (w.alloc (obT x y)).heap.size = w.heap.size + 1 by simp] at A2
 rw [show ((w.alloc (obT x y)).alloc (obT u v)).heap.size = w.heap.size + 1 + 1 by simp] at ZR
 clear b1 b2 b3
 replace hx := hx.keep bA
 replace hy := hy.keep bA
 replace hu := hu.keep bA
 replace hv := hv.keep bA
 replace hT := hT.kept bA
 have NC : Hid _ := fun W (hx : inT W x) (hy : inT W y) (hu : inT W u) (hv : inT W v) (hT : Tab W) => iJoin_calls x y u v W hx hy hu hv hT
 rw [jo_tr x y u v n] at NC
 generalize trR 2 x y u v n = RR at *
 go_enter Tryz.func14, Tryz.ntmps14
 go_upto_region 1 with fail
 generalize ((w.alloc (obT x y)).alloc (obT u v)).alloc obZ = wA at *
 obtain ⟨k0, k1, k2, k3, k4, k5⟩ := A1
 obtain ⟨l0, l1, l2, l3, l4, l5⟩ := A2
 go_wp2_with fail
 refine cM (NC.out _ hx hy hu hv hT) ?_
 rintro r w3 ⟨_, rfl, ⟨X, Y, rfl, pX, pY, oX, oY⟩, bN⟩
 have sA := bA.size
 replace oX : ownT w.heap.size w3 X := ⟨oX.1.low sA, oX.2⟩
 replace oY : ownT w.heap.size w3 Y := ⟨oY.1.low sA, oY.2⟩
 replace ZR := ZR.keep bN
 replace bA := nT bA bN
 have ZZ : Hid (ZI (w.heap.size + 1 + 1) w3) := ZR
 obtain ⟨⟨z0, z1, z2, z3, z4, z5⟩, f0, f1, f2, f3, f4, f5⟩ := ZR
 clear bN NC k0 k1 k2 k3 k4 k5 l0 l1 l2 l3 l4 l5 hx hy hu hv hT
 go_wp2_with fail
 exact bodyPost_ret (v := .tuple #[ivT X Y, .int .i64 RR.1]) (by simp [results, Tryz.results14, go_sem, z0, z1, z2, z3, z4, z5]) rfl ⟨_, rfl, ⟨X, Y, rfl, pX, pY, oX.six ZZ.out _ _ _ _ _ _, oY.six ZZ.out _ _ _ _ _ _⟩, by repeat (first | (with_reducible exact bA) | (with_reducible refine Below.setCell ?_ (by simp; try omega) _))⟩
theorem turn3_calls (x y u v : DT) (n : Int) (w : World) (hx : inT w x) (hy : inT w y) (hu : inT w u) (hv : inT w v) (hT : Tab w) :
  Calls Tryz.prog 14 #[.int .i64 3, ivT x y, ivT u v, .int .i64 n] w fun r w' => ∃ a, r = .returned a ∧ IvA w.heap.size w' a (trR 3 x y u v n) ∧ Below w.heap.size w w' := by
 have A1 := att_new x y w
 have b1 := below_one w (obT x y)
 have A2 := att_new u v (w.alloc (obT x y))
 have b2 := below_one (w.alloc (obT x y)) (obT u v)
 have ZR := zi_new ((w.alloc (obT x y)).alloc (obT u v))
 have b3 := below_one ((w.alloc (obT x y)).alloc (obT u v)) obZ
 replace A1 := (A1.keep b2).keep b3
 replace A2 := A2.keep b3
 have bA := nT (nT b1 b2) b3
 rw [show (w.alloc (obT x y)).heap.size = w.heap.size + 1 by simp] at A2
 rw [show ((w.alloc (obT x y)).alloc (obT u v)).heap.size = w.heap.size + 1 + 1 by simp] at ZR
 clear b1 b2 b3
 replace hx := hx.keep bA
 replace hy := hy.keep bA
 replace hu := hu.keep bA
 replace hv := hv.keep bA
 replace hT := hT.kept bA
 have NC : Hid _ := fun W (hx : inT W x) (hy : inT W y) (hu : inT W u) (hv : inT W v) (hT : Tab W) => iCut_calls x y n W hx hy hT
 rw [cu_tr x y u v n] at NC
 generalize trR 3 x y u v n = RR at *
 go_enter Tryz.func14, Tryz.ntmps14
 go_upto_region 1 with fail
 generalize ((w.alloc (obT x y)).alloc (obT u v)).alloc obZ = wA at *
 obtain ⟨k0, k1, k2, k3, k4, k5⟩ := A1
 obtain ⟨l0, l1, l2, l3, l4, l5⟩ := A2
 go_wp2_with fail
 refine cM (NC.out _ hx hy hu hv hT) ?_
 rintro r w3 ⟨_, rfl, ⟨X, Y, rfl, pX, pY, oX, oY⟩, bN⟩
 have sA := bA.size
 replace oX : ownT w.heap.size w3 X := ⟨oX.1.low sA, oX.2⟩
 replace oY : ownT w.heap.size w3 Y := ⟨oY.1.low sA, oY.2⟩
 replace ZR := ZR.keep bN
 replace bA := nT bA bN
 have ZZ : Hid (ZI (w.heap.size + 1 + 1) w3) := ZR
 obtain ⟨⟨z0, z1, z2, z3, z4, z5⟩, f0, f1, f2, f3, f4, f5⟩ := ZR
 clear bN NC k0 k1 k2 k3 k4 k5 l0 l1 l2 l3 l4 l5 hx hy hu hv hT
 go_wp2_with fail
 exact bodyPost_ret (v := .tuple #[ivT X Y, .int .i64 RR.1]) (by simp [results, Tryz.results14, go_sem, z0, z1, z2, z3, z4, z5]) rfl ⟨_, rfl, ⟨X, Y, rfl, pX, pY, oX.six ZZ.out _ _ _ _ _ _, oY.six ZZ.out _ _ _ _ _ _⟩, by repeat (first | (with_reducible exact bA) | (with_reducible refine Below.setCell ?_ (by simp; try omega) _))⟩
theorem sm_eq {X U : DT} {P : Bool × Nat × Int} (h : isP X P) (h' : isP U P) : smT X U = true := by
 obtain ⟨a1, a2, a3⟩ := h
 obtain ⟨b1, b2, b3⟩ := h'
 unfold smT
 rw [a1, a2, a3, b1, b2, b3]
 exact decide_eq_true ⟨rfl, rfl, rfl⟩
set_option maxRecDepth 100000 in
set_option maxHeartbeats 8000000 in
theorem turns_core (x y u v : DT) (n : Int) (w : World) (hx : inT w x) (hy : inT w y) (hu : inT w u) (hv : inT w v) (hT : Tab w) :
  Calls Tryz.prog 4 #[ivT x y, ivT u v, .int .i64 n] w fun r w' => r = .returned (.bool true) ∧ Below w.heap.size w w' := by
 have A1 := att_new x y w
 have b1 := below_one w (obT x y)
 have A2 := att_new u v (w.alloc (obT x y))
 have b2 := below_one (w.alloc (obT x y)) (obT u v)
 replace A1 := A1.keep b2
 have bA := nT b1 b2
 rw [show (w.alloc (obT x y)).heap.size = w.heap.size + 1 by simp] at A2
 have FK : Hid (∀ W, Below w.heap.size w W → inT W x ∧ inT W y ∧ inT W u ∧ inT W v ∧ Tab W) := fun W b => ⟨hx.keep b, hy.keep b, hu.keep b, hv.keep b, hT.kept b⟩
 have TU : Hid (∀ k : Nat, k ≤ 3 → ∀ W, Below w.heap.size w W → Calls Tryz.prog 14 #[.int .i64 (k : Int), ivT x y, ivT u v, .int .i64 n] W fun r w' => ∃ a, r = .returned a ∧ IvA W.heap.size w' a (trR k x y u v n) ∧ Below W.heap.size W w') := fun k hk W b => by
  obtain ⟨i1, i2, i3, i4, t⟩ := FK.out W b
  rcases (by omega : k = 0 ∨ k = 1 ∨ k = 2 ∨ k = 3) with rfl | rfl | rfl | rfl
  ·exact turn0_calls x y u v n W i1 i2 i3 i4 t
  ·exact turn1_calls x y u v n W i1 i2 i3 i4 t
  ·exact turn2_calls x y u v n W i1 i2 i3 i4 t
  ·exact turn3_calls x y u v n W i1 i2 i3 i4 t
 have DU : Hid (∀ k : Nat, k ≤ 3 → ∀ W, Below w.heap.size w W → Calls Tryz.prog 15 #[.int .i64 (k : Int), ivT x y, ivT u v, .int .i64 n] W fun r w' => ∃ a, r = .returned a ∧ IvA W.heap.size w' a (trR k x y u v n) ∧ Below W.heap.size W w') := fun k hk W b => by
  obtain ⟨i1, i2, i3, i4, t⟩ := FK.out W b
  rcases (by omega : k = 0 ∨ k = 1 ∨ k = 2 ∨ k = 3) with rfl | rfl | rfl | rfl
  ·exact docTurn0_calls x y u v n W i1 i2 i3 i4
  ·exact docTurn1_calls x y u v n W i1 i2 i3 i4
  ·exact docTurn2_calls x y u v n W i1 i2 i3 i4
  ·exact docTurn3_calls x y u v n W i1 i2 i3 i4
 have BC : Hid (∀ W, Below w.heap.size w W → _) := fun W b => ivBegins_calls W (hT.kept b)
 generalize hwB : (w.alloc (obT x y)).alloc (obT u v) = wB at *
 have AT : Hid (∀ W, Below wB.heap.size wB W → AtT w.heap.size x y W ∧ AtT (w.heap.size + 1) u v W) := fun W b => ⟨A1.keep b, A2.keep b⟩
 clear b1 b2 A1 A2 hx hy hu hv hT FK
 go_enter Tryz.func4, Tryz.ntmps4
 go_wp2_with fail
 clear hwB
 go_loopw [7] (fun vi wr => ∃ k : Nat, k ≤ 4 ∧ vi = .int .i64 (k : Int) ∧ Below wB.heap.size wB wr) (fun vi _ => 4 - (intOf vi).toNat)
 case atStart => exact ⟨0, by omega, rfl, Below.refl _ _⟩
 case round =>
  obtain ⟨k, hk, rfl, hb⟩ := hrel
  have bW := nT bA hb
  by_cases hlt : k < 4
  ·have TC : Hid _ := TU.out k (by omega) wr bW
   have DC : Hid (∀ W, Below w.heap.size w W → _) := fun W b => DU.out k (by omega) W b
   generalize trR k x y u v n = RR at *
   obtain ⟨A1, A2⟩ := AT.out wr hb
   obtain ⟨k0, k1, k2, k3, k4, k5⟩ := A1
   obtain ⟨l0, l1, l2, l3, l4, l5⟩ := A2
   clear BC TU DU
   go_wp2_with fail
   refine cM TC.out ?_
   rintro r w1 ⟨_, rfl, ⟨X, Y, rfl, pX, pY, oX, oY⟩, bN⟩
   replace hb := nT hb bN
   clear k0 k1 k2 k3 k4 k5 l0 l1 l2 l3 l4 l5 TC bN
   have AX := att_new X Y w1
   have bM := below_one w1 (obT X Y)
   replace oX := oX.keep bM
   replace oY := oY.keep bM
   replace hb := nT hb bM
   replace bW := nT bA hb
   clear bM
   go_upto_region 5 with fail
   generalize w1.alloc (obT X Y) = w2 at *
   generalize w1.heap.size = bX at *
   obtain ⟨A1, A2⟩ := AT.out w2 hb
   obtain ⟨k0, k1, k2, k3, k4, k5⟩ := A1
   obtain ⟨l0, l1, l2, l3, l4, l5⟩ := A2
   have HX : Hid (AtT bX X Y w2) := AX
   clear AX
   go_wp2_with fail
   refine cM (DC.out w2 bW) ?_
   rintro r w3 ⟨_, rfl, ⟨U, V, rfl, pU, pV, oU, oV⟩, bN⟩
   replace hb := nT hb bN
   have AU := att_new U V w3
   have bM := below_one w3 (obT U V)
   have AX := (HX.out.keep bN).keep bM
   replace oX := (oX.keep bN).keep bM
   replace oY := (oY.keep bN).keep bM
   replace oU := oU.keep bM
   replace oV := oV.keep bM
   replace hb := nT hb bM
   have s1 := sm_eq pX pU
   have s2 := sm_eq pY pV
   clear k0 k1 k2 k3 k4 k5 l0 l1 l2 l3 l4 l5 DC bN bM HX pX pY pU pV AT
   go_upto_region 6 with fail
   generalize w3.alloc (obT U V) = w4 at *
   generalize w3.heap.size = bU at *
   have SC : Hid _ := vSame_calls X Y U V w4 oX.inT oY.inT oU.inT oV.inT
   rw [s1, s2] at SC
   obtain ⟨k0, k1, k2, k3, k4, k5⟩ := AX
   obtain ⟨l0, l1, l2, l3, l4, l5⟩ := AU
   clear s1 s2
   go_wp2_with fail
   refine cM SC.out ?_
   rintro r w5 ⟨rfl, bN⟩
   replace hb := nT hb bN
   clear k0 k1 k2 k3 k4 k5 l0 l1 l2 l3 l4 l5 SC bN
   go_wp2_with fail
   exact ⟨⟨k + 1, by omega, by first | rfl | go_num, hb⟩, by simp [intOf]; omega⟩
  ·have hk4 : k = 4 := by omega
   subst hk4
   clear hlt TU DU AT
   go_wp2_with fail
   refine cM (BC.out _ bW) ?_
   rintro r w1 ⟨rfl, bN⟩
   go_wp2_with fail
   go_ret
   exact ⟨rfl, nT bW bN⟩
theorem ivalTurns_walk (s : Bool) (a : Option Addr) (len cap : Nat) (xs : List Int) (e : Int) (s' : Bool) (a' : Option Addr) (len' cap' : Nat) (ys : List Int) (e' : Int) (t : Bool) (b : Option Addr) (bl bc : Nat) (us : List Int) (f : Int) (t' : Bool) (b' : Option Addr) (bl' bc' : Nat) (vs : List Int) (f' : Int) (n : Int) (w : World) (h : IsW w a len cap xs) (hm : len ≤ 17592186044000) (_he : -9223372036854775808 ≤ e ∧ e ≤ 9223372036854775807) (h' : IsW w a' len' cap' ys) (hm' : len' ≤ 17592186044000) (_he' : -9223372036854775808 ≤ e' ∧ e' ≤ 9223372036854775807) (k : IsW w b bl bc us) (km : bl ≤ 17592186044000) (_ke : -9223372036854775808 ≤ f ∧ f ≤ 9223372036854775807) (k' : IsW w b' bl' bc' vs) (km' : bl' ≤ 17592186044000) (_ke' : -9223372036854775808 ≤ f' ∧ f' ≤ 9223372036854775807) (_hn : -9223372036854775808 ≤ n ∧ n ≤ 9223372036854775807) (hT : Tab w) :
  Calls Tryz.prog 4 #[ivI s a len cap e s' a' len' cap' e', ivI t b bl bc f t' b' bl' bc' f', .int .i64 n] w fun r w' => r = .returned (.bool true) ∧ Below w.heap.size w w' :=
 turns_core (s, a, len, cap, xs, e) (s', a', len', cap', ys, e') (t, b, bl, bc, us, f) (t', b', bl', bc', vs, f') n w ⟨h, hm⟩ ⟨h', hm'⟩ ⟨k, km⟩ ⟨k', km'⟩ hT
end Go.Proofs.YtahpdcbmekgkfaaGreatDoor
