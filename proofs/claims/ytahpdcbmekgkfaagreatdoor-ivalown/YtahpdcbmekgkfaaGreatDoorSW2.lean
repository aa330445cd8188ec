/- Package ival: the sum of two right numbers, whatever its room. -/
import Derived.Deep.CutRange
import Derived.Test.YtahpdcbmekgkfaaGreatDoorAL
import Derived.Test.YtahpdcbmekgkfaaGreatDoorSWX
namespace Go.Proofs.YtahpdcbmekgkfaaGreatDoor
open Go.RowKit
theorem sw_add {P Q : Bool × Nat × Int} (X Y : DT) (w : World) (i : inT w X) (j : inT w Y) (t : Tab w) (eX : tT X = P) (eY : tT Y = Q) (rX : rgT X = true) (rY : rgT Y = true) :
  Calls Tryz.prog 154 #[dT X, dT Y] w fun r w' => ∃ Z : DT, r = .returned (.tuple #[dT Z, .int .i64 (roomE (sumD P Q))]) ∧ isP Z (roomP (sumD P Q)) ∧ ownT w.heap.size w' Z ∧ Below w.heap.size w w' := by
 have h := tAdd X Y w i j t rX rY
 rw [eX, eY] at h
 exact h
theorem sw_yes {P Q : Bool × Nat × Int} (X Y : DT) (w : World) (i : inT w X) (j : inT w Y) (t : Tab w) (eX : tT X = P) (eY : tT Y = Q) (rX : rgT X = true) (rY : rgT Y = true) (h : roomB (sumD P Q) = true) :
  Calls Tryz.prog 154 #[dT X, dT Y] w fun r w' => ∃ Z : DT, r = .returned (.tuple #[dT Z, .int .i64 0]) ∧ isP Z (sumD P Q) ∧ ownT w.heap.size w' Z ∧ Below w.heap.size w w' := by
 have q := sw_add X Y w i j t eX eY rX rY
 rw [roomE_yes h, roomP_yes h] at q
 exact q
theorem su_yes {x y : Bool × Nat × Int} (h : roomB (sumD x y) = true) : suE x y = 0 ∧ suP x y = sumD x y := ⟨if_pos h, if_pos h⟩
theorem su_zero {x y : Bool × Nat × Int} (h : roomB (sumD x y) = false) (k : (restD (suR x y)).2.1 = 0) : suE x y = 3 ∧ suP x y = (false, 0, 0) := by
 unfold suE suP
 rw [if_neg (by rw [h]; decide), if_pos k, if_neg (by rw [h]; decide), if_pos k]
 exact ⟨rfl, rfl⟩
theorem su_half {x y : Bool × Nat × Int} (h : roomB (sumD x y) = false) (k : (restD (suR x y)).2.1 ≠ 0) : (roomB (suB x y) = false → suE x y = 3 ∧ suP x y = (false, 0, 0)) ∧ (roomB (suB x y) = true → suE x y = roomE (suF x y) ∧ suP x y = roomP (suF x y)) := by
 unfold suE suP suO
 rw [h]
 simp only [Bool.false_eq_true, if_false, if_neg k]
 constructor
 ·intro q
  rw [q]
  exact ⟨rfl, rfl⟩
 ·intro q
  rw [q, Bool.true_and]
  exact ⟨rfl, rfl⟩
theorem half_tT (a : Option Addr) (n c : Nat) : tT (false, a, n, c, wO 1, -1) = (false, 1, -1) ∧ rgT (false, a, n, c, wO 1, -1) = true := by
 constructor
 ·show formD false (val (wO 1)) (-1) = _
  rw [val_words]
  exact form_odd false rfl _
 ·show rightB (val (wO 1)) (-1) = true
  rw [val_words]
  decide +kernel
set_option maxRecDepth 100000 in
set_option maxHeartbeats 16000000 in
theorem iSum_calls (x y : DT) (w : World) (hx : inT w x) (hy : inT w y) (hT : Tab w) (rx : rgT x = true) (ry : rgT y = true) :
  Calls Tryz.prog 130 #[dT x, dT y] w fun r w' => ∃ Z : DT, r = .returned (.tuple #[dT Z, .int .i64 (suE (tT x) (tT y))]) ∧ isP Z (suP (tT x) (tT y)) ∧ ownT w.heap.size w' Z ∧ Below w.heap.size w w' := by
 have RX := rg_of rx
 have RY := rg_of ry
 have RM : Hid _ := su_rooms RX RY
 have sv : Hid (∀ K : Nat, 0 < K → -(K : Int) ≤ (tT x).2.2 → -(K : Int) ≤ (tT y).2.2 → SuV (tT x) (tT y) K (vI (sumD (tT x) (tT y)) (-(K : Int))) ((2 ^ K : Nat) : Int) ((2 ^ (K - 1) : Nat) : Int)) := fun K k a b => su_vals K k RX.can RY.can a b
 have SV : Hid (CanD (suR (tT x) (tT y)) ∧ CanD (wholeD (suR (tT x) (tT y))) ∧ CanD (restD (suR (tT x) (tT y))) ∧ CanD (suA (tT x) (tT y)) ∧ CanD (suB (tT x) (tT y))) := by
  have s := sv.out 32768 (by omega) RX.low RY.low
  exact ⟨s.cR, s.cU, s.cT, s.cA, s.cB⟩
 clear sv
 have A1 := fd_new x w
 have b1 := below_one w (obD x)
 have A2 := fd_new y (w.alloc (obD x))
 have b2 := below_one (w.alloc (obD x)) (obD y)
 have Z4 := fd_zero ((w.alloc (obD x)).alloc (obD y))
 have b3 := below_one ((w.alloc (obD x)).alloc (obD y)) obz
 replace A1 := (A1.keep b2).keep b3
 replace A2 := A2.keep b3
 have bA := nT (nT b1 b2) b3
 rw [show (w.alloc (obD x)).heap.size = w.heap.size + 1 by simp] at A2
 rw [show ((w.alloc (obD x)).alloc (obD y)).heap.size = w.heap.size + 1 + 1 by simp] at Z4
 clear b1 b2 b3
 have TT : Hid (∀ W, Below w.heap.size w W → Tab W) := fun W b => hT.kept b
 have AD : Hid (∀ W, Below w.heap.size w W → Calls Tryz.prog 154 #[dT x, dT y] W fun r w' => ∃ X : DT, r = .returned (.tuple #[dT X, .int .i64 (roomE (sumD (tT x) (tT y)))]) ∧ isP X (roomP (sumD (tT x) (tT y))) ∧ ownT W.heap.size w' X ∧ Below W.heap.size W w') := fun W b => tAdd x y W (hx.keep b) (hy.keep b) (hT.kept b) rx ry
 have PX : Hid (∀ W, Below w.heap.size w W → _) := fun W b => parts_calls x W (hx.keep b) (hT.kept b) rx
 have PY : Hid (∀ W, Below w.heap.size w W → _) := fun W b => parts_calls y W (hy.keep b) (hT.kept b) ry
 clear hx hy hT rx ry RX RY
 generalize tT x = P at *
 generalize tT y = Q at *
 by_cases room : roomB (sumD P Q) = true
 ·rw [(su_yes room).1, (su_yes room).2]
  rw [roomE_yes room, roomP_yes room] at AD
  clear RM SV PX PY TT room A1 A2
  generalize sumD P Q = S at *
  go_enter Tryz.func130, Tryz.ntmps130
  go_wp2_with fail
  have sA := bA.size
  generalize ((w.alloc (obD x)).alloc (obD y)).alloc obz = wA at *
  refine cM (AD.out wA bA) ?_
  rintro r w1 ⟨Z, rfl, pZ, oZ, bN⟩
  replace Z4 := Z4.keep bN
  replace oZ : ownT w.heap.size w1 Z := ⟨oZ.1.low sA, oZ.2⟩
  replace bA := nT bA bN
  clear bN AD
  have bN := below_one w1 (obD Z)
  obtain ⟨q0, q1, q2⟩ := at3_new Z w1
  replace Z4 := Z4.keep bN
  replace oZ := oZ.keep bN
  replace bA := nT bA bN
  clear bN
  have ZZ : Hid (FD _ _ _) := Z4
  obtain ⟨⟨z0, z1, z2⟩, f0, f1, f2⟩ := Z4
  go_wp2_with fail
  generalize w1.alloc (obD Z) = w2 at *
  exact bodyPost_ret (v := .tuple #[dT Z, .int .i64 0]) (by simp [results, Tryz.results130, go_sem, z0, z1, z2]) rfl ⟨Z, rfl, pZ, ZZ.out.own oZ Z, below_put bA (by omega) Z⟩
 ·rw [Bool.not_eq_true] at room
  rw [roomE_no room, roomP_no room] at AD
  have G0 : Hid ((restD (suR P Q)).2.1 = 0 → suE P Q = 3 ∧ suP P Q = (false, 0, 0)) := su_zero room
  have G1 : Hid ((restD (suR P Q)).2.1 ≠ 0 → (roomB (suB P Q) = false → suE P Q = 3 ∧ suP P Q = (false, 0, 0)) ∧ (roomB (suB P Q) = true → suE P Q = roomE (suF P Q) ∧ suP P Q = roomP (suF P Q))) := fun k => su_half room k
  generalize suE P Q = EE at *
  generalize suP P Q = PP at *
  clear room
  go_enter Tryz.func130, Tryz.ntmps130
  go_wp2_with fail
  generalize ((w.alloc (obD x)).alloc (obD y)).alloc obz = wA at *
  refine cM (AD.out wA bA) ?_
  rintro r w1 ⟨Z, rfl, -, -, bN⟩
  clear AD
  replace A1 := A1.keep bN
  replace A2 := A2.keep bN
  replace Z4 := Z4.keep bN
  replace bA := nT bA bN
  clear bN
  have bN := below_one w1 (obD Z)
  replace A1 := A1.keep bN
  replace A2 := A2.keep bN
  replace Z4 := Z4.keep bN
  replace bA := nT bA bN
  clear bN
  go_upto_region 4 with fail
  generalize w1.alloc (obD Z) = w2 at *
  obtain ⟨⟨k0, k1, k2⟩, -⟩ := id A1
  go_wp2_with fail
  refine cM (PX.out w2 bA) ?_
  rintro r w3 ⟨XW, XR, rfl, eXW, eXR, rXW, rXR, iXW, iXR, bN⟩
  clear k0 k1 k2 A1 PX
  replace A2 := A2.keep bN
  replace Z4 := Z4.keep bN
  replace bA := nT bA bN
  clear bN
  have l8 := Z4.lt
  have A8 := fd_new XW w3
  have bN := below_one w3 (obD XW)
  replace A2 := A2.keep bN
  replace Z4 := Z4.keep bN
  replace iXW := iXW.keep bN
  replace iXR := iXR.keep bN
  replace bA := nT bA bN
  clear bN
  have A9 := fd_new XR (w3.alloc (obD XW))
  rw [show (w3.alloc (obD XW)).heap.size = w3.heap.size + 1 by simp] at A9
  have bN := below_one (w3.alloc (obD XW)) (obD XR)
  replace A2 := A2.keep bN
  replace Z4 := Z4.keep bN
  replace iXW := iXW.keep bN
  replace iXR := iXR.keep bN
  replace A8 := A8.keep bN
  replace bA := nT bA bN
  clear bN
  go_upto_region 5 with fail
  generalize (w3.alloc (obD XW)).alloc (obD XR) = w4 at *
  generalize w3.heap.size = B8 at *
  obtain ⟨⟨k0, k1, k2⟩, -⟩ := id A2
  go_wp2_with fail
  refine cM (PY.out w4 bA) ?_
  rintro r w5 ⟨YW, YR, rfl, eYW, eYR, rYW, rYR, iYW, iYR, bN⟩
  clear k0 k1 k2 A2 PY
  replace Z4 := Z4.keep bN
  replace iXW := iXW.keep bN
  replace iXR := iXR.keep bN
  replace A8 := A8.keep bN
  replace A9 := A9.keep bN
  replace bA := nT bA bN
  clear bN
  have m8 := A9.lt
  have l10 := Z4.lt
  have A10 := fd_new YW w5
  have bN := below_one w5 (obD YW)
  replace Z4 := Z4.keep bN
  replace iXW := iXW.keep bN
  replace iXR := iXR.keep bN
  replace A8 := A8.keep bN
  replace A9 := A9.keep bN
  replace iYW := iYW.keep bN
  replace iYR := iYR.keep bN
  replace bA := nT bA bN
  clear bN
  have A11 := fd_new YR (w5.alloc (obD YW))
  rw [show (w5.alloc (obD YW)).heap.size = w5.heap.size + 1 by simp] at A11
  have bN := below_one (w5.alloc (obD YW)) (obD YR)
  replace Z4 := Z4.keep bN
  replace iXW := iXW.keep bN
  replace iXR := iXR.keep bN
  replace A8 := A8.keep bN
  replace A9 := A9.keep bN
  replace iYW := iYW.keep bN
  replace iYR := iYR.keep bN
  replace A10 := A10.keep bN
  replace bA := nT bA bN
  clear bN
  go_upto_region 6 with fail
  generalize (w5.alloc (obD YW)).alloc (obD YR) = w6 at *
  generalize w5.heap.size = B10 at *
  obtain ⟨⟨k0, k1, k2⟩, -⟩ := id A9
  obtain ⟨⟨h0, h1, h2⟩, -⟩ := id A11
  go_wp2_with fail
  refine cM (sw_yes XR YR w6 iXR iYR (TT.out _ bA) eXR eYR rXR rYR RM.out.1) ?_
  rintro r w7 ⟨R, rfl, pR', oR, bN⟩
  change isP R (suR P Q) at pR'
  clear k0 k1 k2 h0 h1 h2 A9 eXR rXR eYR rYR iXR iYR
  replace Z4 := Z4.keep bN
  replace iXW := iXW.keep bN
  replace A8 := A8.keep bN
  replace iYW := iYW.keep bN
  replace A10 := A10.keep bN
  replace A11 := A11.keep bN
  replace bA := nT bA bN
  clear bN
  have iR := oR.inT
  clear oR
  have m12 := A11.lt
  clear A11
  have A12 := fd_new R w7
  have bN := below_one w7 (obD R)
  replace Z4 := Z4.keep bN
  replace iXW := iXW.keep bN
  replace A8 := A8.keep bN
  replace iYW := iYW.keep bN
  replace A10 := A10.keep bN
  replace iR := iR.keep bN
  replace bA := nT bA bN
  clear bN
  go_upto_region 7 with fail
  generalize w7.alloc (obD R) = w8 at *
  generalize w7.heap.size = B12 at *
  obtain ⟨⟨k0, k1, k2⟩, -⟩ := id A12
  go_wp2_with fail
  refine cM (tFloor R w8 iR (TT.out _ bA) pR' SV.out.1 RM.out.1 RM.out.2.1 RM.out.2.2.1) ?_
  rintro r w9 ⟨U, T, rfl, pU, pT, oU, oT, bN⟩
  clear k0 k1 k2 iR pR'
  replace Z4 := Z4.keep bN
  replace iXW := iXW.keep bN
  replace A8 := A8.keep bN
  replace iYW := iYW.keep bN
  replace A10 := A10.keep bN
  replace A12 := A12.keep bN
  replace bA := nT bA bN
  clear bN
  have iU := oU.inT
  have iT := oT.inT
  clear oU oT
  have A120 : Hid (FD _ _ _) := A12
  obtain ⟨⟨k0, k1, k2⟩, f0, f1, f2⟩ := id A12
  have m14 : B12 < w9.heap.size := A12.lt
  go_upto_region 8 with fail
  replace Z4 : FD _ _ (((w9.setCell ⟨B12, 0, none⟩ (.bool T.1)).setCell ⟨B12, 1, none⟩ (.slice T.2.1 T.2.2.1 T.2.2.2.1)).setCell ⟨B12, 2, none⟩ (.int .i64 T.2.2.2.2.2)) := Z4.other (by omega) T
  replace iXW : inT (((w9.setCell ⟨B12, 0, none⟩ (.bool T.1)).setCell ⟨B12, 1, none⟩ (.slice T.2.1 T.2.2.1 T.2.2.2.1)).setCell ⟨B12, 2, none⟩ (.int .i64 T.2.2.2.2.2)) XW := A120.out.inT iXW T
  replace A8 : FD _ _ (((w9.setCell ⟨B12, 0, none⟩ (.bool T.1)).setCell ⟨B12, 1, none⟩ (.slice T.2.1 T.2.2.1 T.2.2.2.1)).setCell ⟨B12, 2, none⟩ (.int .i64 T.2.2.2.2.2)) := A8.other (by omega) T
  replace iYW : inT (((w9.setCell ⟨B12, 0, none⟩ (.bool T.1)).setCell ⟨B12, 1, none⟩ (.slice T.2.1 T.2.2.1 T.2.2.2.1)).setCell ⟨B12, 2, none⟩ (.int .i64 T.2.2.2.2.2)) YW := A120.out.inT iYW T
  replace A10 : FD _ _ (((w9.setCell ⟨B12, 0, none⟩ (.bool T.1)).setCell ⟨B12, 1, none⟩ (.slice T.2.1 T.2.2.1 T.2.2.2.1)).setCell ⟨B12, 2, none⟩ (.int .i64 T.2.2.2.2.2)) := A10.other (by omega) T
  replace A12 : FD _ T (((w9.setCell ⟨B12, 0, none⟩ (.bool T.1)).setCell ⟨B12, 1, none⟩ (.slice T.2.1 T.2.2.1 T.2.2.2.1)).setCell ⟨B12, 2, none⟩ (.int .i64 T.2.2.2.2.2)) := A120.out.put T
  replace iU : inT (((w9.setCell ⟨B12, 0, none⟩ (.bool T.1)).setCell ⟨B12, 1, none⟩ (.slice T.2.1 T.2.2.1 T.2.2.2.1)).setCell ⟨B12, 2, none⟩ (.int .i64 T.2.2.2.2.2)) U := A120.out.inT iU T
  replace iT : inT (((w9.setCell ⟨B12, 0, none⟩ (.bool T.1)).setCell ⟨B12, 1, none⟩ (.slice T.2.1 T.2.2.1 T.2.2.2.1)).setCell ⟨B12, 2, none⟩ (.int .i64 T.2.2.2.2.2)) T := A120.out.inT iT T
  replace bA : Below w.heap.size w (((w9.setCell ⟨B12, 0, none⟩ (.bool T.1)).setCell ⟨B12, 1, none⟩ (.slice T.2.1 T.2.2.1 T.2.2.2.1)).setCell ⟨B12, 2, none⟩ (.int .i64 T.2.2.2.2.2)) := below_put bA (by omega) T
  clear k0 k1 k2 f0 f1 f2 A120
  have A14 := fd_new U (((w9.setCell ⟨B12, 0, none⟩ (.bool T.1)).setCell ⟨B12, 1, none⟩ (.slice T.2.1 T.2.2.1 T.2.2.2.1)).setCell ⟨B12, 2, none⟩ (.int .i64 T.2.2.2.2.2))
  rw [show ((((w9.setCell ⟨B12, 0, none⟩ (.bool T.1)).setCell ⟨B12, 1, none⟩ (.slice T.2.1 T.2.2.1 T.2.2.2.1)).setCell ⟨B12, 2, none⟩ (.int .i64 T.2.2.2.2.2))).heap.size = w9.heap.size by simp] at A14
  have bN := below_one (((w9.setCell ⟨B12, 0, none⟩ (.bool T.1)).setCell ⟨B12, 1, none⟩ (.slice T.2.1 T.2.2.1 T.2.2.2.1)).setCell ⟨B12, 2, none⟩ (.int .i64 T.2.2.2.2.2)) (obD U)
  replace Z4 := Z4.keep bN
  replace iXW := iXW.keep bN
  replace A8 := A8.keep bN
  replace iYW := iYW.keep bN
  replace A10 := A10.keep bN
  replace A12 := A12.keep bN
  replace iU := iU.keep bN
  replace iT := iT.keep bN
  replace bA := nT bA bN
  clear bN
  generalize World.alloc (((w9.setCell ⟨B12, 0, none⟩ (.bool T.1)).setCell ⟨B12, 1, none⟩ (.slice T.2.1 T.2.2.1 T.2.2.2.1)).setCell ⟨B12, 2, none⟩ (.int .i64 T.2.2.2.2.2)) (obD U) = wa at *
  generalize w9.heap.size = B14 at *
  obtain ⟨⟨k0, k1, k2⟩, -⟩ := id A12
  go_wp2_with fail
  refine cM (tZero T wa iT (TT.out _ bA) pT RM.out.2.2.1) ?_
  rintro r wb ⟨rfl, bN⟩
  clear k0 k1 k2 A12 iT pT
  replace Z4 := Z4.keep bN
  replace iXW := iXW.keep bN
  replace A8 := A8.keep bN
  replace iYW := iYW.keep bN
  replace A10 := A10.keep bN
  replace iU := iU.keep bN
  replace A14 := A14.keep bN
  replace bA := nT bA bN
  clear bN
  by_cases tz : (restD (suR P Q)).2.1 = 0
  ·rw [decide_eq_true tz]
   have HE : Hid (EE = 3 ∧ PP = (false, 0, 0)) := G0.out tz
   clear G0 G1 A8 A10 A14 eXW eYW rXW rYW iXW iYW pU iU tz
   have ZZ : Hid (FD _ _ _) := Z4
   obtain ⟨⟨z0, z1, z2⟩, f0, f1, f2⟩ := Z4
   go_wp2_with fail
   exact bodyPost_ret (v := .tuple #[dT zDT, .int .i64 3]) (by simp [results, Tryz.results130, go_sem, z0, z1, z2, zDT]) rfl ⟨zDT, by rw [HE.out.1], by rw [HE.out.2]; exact ⟨rfl, words_zero.symm, rfl⟩, ⟨ownW_nil _ _, by decide⟩, below_put bA (by omega) zDT⟩
  ·rw [decide_eq_false tz]
   have SH : Hid ((roomB (suB P Q) = false → EE = 3 ∧ PP = (false, 0, 0)) ∧ (roomB (suB P Q) = true → EE = roomE (suF P Q) ∧ PP = roomP (suF P Q))) := G1.out tz
   clear tz G0 G1
   have eU : Hid _ := pU.tT SV.out.2.1
   have rU : Hid _ := pU.rgT.trans RM.out.2.1
   clear pU
   go_upto_region 10 with fail
   have sB := bA.size
   have m16 := A14.lt
   have t16 := Z4.lt
   go_cut [16, 17] from 52 to 58 (fun s16 s17 wx => ∃ (A : DT) (B16 : Nat), s16 = .pointer (some ⟨B16, 0, none⟩) ∧ s17 = .int .i64 0 ∧ FD B16 A wx ∧ wb.heap.size ≤ B16 ∧ isP A (suA P Q) ∧ inT wx A ∧ Below wb.heap.size wb wx)
   case first =>
    have CC : Hid (∀ W, Below wb.heap.size wb W → FD B14 U W ∧ inT W U ∧ Tab W) := fun W b => ⟨A14.keep b, iU.keep b, TT.out W (nT bA b)⟩
    clear A8 A10 A14 Z4 iXW iYW iU
    have A : Below wb.heap.size wb (World.drew wb) := (Below.refl _ _).drew
    refine wp_region_held (S := fun w' => FD B14 U w') (by kernel_rfl) ?_
    change wpAnyH _ _ _ _ _ 10 #[false, false, false, false, false, false, false, false, false, false] _ (World.drew wb)
    generalize World.drew wb = wv at A ⊢
    refine wpAnyH_tk (i := 0) (d := some 53) (v := dT U) rfl rfl (by kernel_rfl) (by kernel_rfl) (by kernel_rfl) (fun _ _ _ h => h) (Or.inl ⟨by rfl, ?_⟩) (CC.out _ A).1 ?_
    ·intro ww hS
     obtain ⟨⟨q0, q1, q2⟩, -⟩ := id hS
     clear hS
     go_simp
     try with_reducible rfl
    try simp only [Act.put, sA, sZ, sS]
    iterate 5
     all_goals
      first
      | (have _q := g1; have _q := g3; have _q := g7; have _q := g8; refine wpAnyH_ready (rs := [9]) (by kernel_rfl) (by simp) ?_; refine AllReadyH.cons rfl (fun K hK => have mk9 := True.intro; ?_) (AllReadyH.nil))
      | (have _q := g1; have _q := g3; have _q := g7; have _q := tk4; have _q := tk5; have _q := tk6; refine wpAnyH_ready (rs := [8]) (by kernel_rfl) (by simp) ?_; refine AllReadyH.cons rfl (fun K hK => have mk8 := True.intro; ?_) (AllReadyH.nil))
      | (have _q := g1; have _q := g3; have _q := g7; refine wpAnyH_tk (i := 4) (d := some 52) (v := .tuple #[dT AA, .int .i64 0]) rfl rfl (by kernel_rfl) (by kernel_rfl) (by kernel_rfl) (fun _ _ _ h => h) (Or.inl ⟨by rfl, by (intro ww hS;  clear hS; go_simp; try with_reducible rfl)⟩) (CC.out _ A).1 ?_; (try simp only [Act.put, sA, sZ, sS]); have tk4 := True.intro; refine wpAnyH_tk (i := 5) (d := some 57) (v := dT AA) rfl rfl (by kernel_rfl) (by kernel_rfl) (by kernel_rfl) (fun _ _ _ h => h) (Or.inl ⟨by rfl, by (intro ww hS;  clear hS; go_simp; try with_reducible rfl)⟩) (CC.out _ A).1 ?_; (try simp only [Act.put, sA, sZ, sS]); have tk5 := True.intro; refine wpAnyH_tk (i := 6) (d := some 58) (v := .int .i64 0) rfl rfl (by kernel_rfl) (by kernel_rfl) (by kernel_rfl) (fun _ _ _ h => h) (Or.inl ⟨by rfl, by (intro ww hS;  clear hS; go_simp; try with_reducible rfl)⟩) (CC.out _ A).1 ?_; (try simp only [Act.put, sA, sZ, sS]); have tk6 := True.intro; refine wpAnyH_ready (rs := [8]) (by kernel_rfl) (by simp) ?_; refine AllReadyH.cons rfl (fun K hK => have mk8 := True.intro; ?_) (AllReadyH.nil))
      | (have _q := g1; have _q := g3; refine wpAnyH_tk (i := 4) (d := some 52) (v := .tuple #[dT AA, .int .i64 0]) rfl rfl (by kernel_rfl) (by kernel_rfl) (by kernel_rfl) (fun _ _ _ h => h) (Or.inl ⟨by rfl, by (intro ww hS;  clear hS; go_simp; try with_reducible rfl)⟩) (CC.out _ A).1 ?_; (try simp only [Act.put, sA, sZ, sS]); have tk4 := True.intro; refine wpAnyH_tk (i := 5) (d := some 57) (v := dT AA) rfl rfl (by kernel_rfl) (by kernel_rfl) (by kernel_rfl) (fun _ _ _ h => h) (Or.inl ⟨by rfl, by (intro ww hS;  clear hS; go_simp; try with_reducible rfl)⟩) (CC.out _ A).1 ?_; (try simp only [Act.put, sA, sZ, sS]); have tk5 := True.intro; refine wpAnyH_tk (i := 6) (d := some 58) (v := .int .i64 0) rfl rfl (by kernel_rfl) (by kernel_rfl) (by kernel_rfl) (fun _ _ _ h => h) (Or.inl ⟨by rfl, by (intro ww hS;  clear hS; go_simp; try with_reducible rfl)⟩) (CC.out _ A).1 ?_; (try simp only [Act.put, sA, sZ, sS]); have tk6 := True.intro; refine wpAnyH_ready (rs := [7]) (by kernel_rfl) (by simp) ?_; refine AllReadyH.cons rfl (fun K hK => have mk7 := True.intro; ?_) (AllReadyH.nil))
      | (have _q := g1; have _q := g7; have _q := tk2; refine wpAnyH_ready (rs := [3]) (by kernel_rfl) (by simp) ?_; refine AllReadyH.cons rfl (fun K hK => have mk3 := True.intro; ?_) (AllReadyH.nil))
      | (have _q := g1; have _q := g7; refine wpAnyH_tk (i := 2) (d := some 55) (v := dyV false oa on oc (-1)) rfl rfl (by kernel_rfl) (by kernel_rfl) (by kernel_rfl) (fun _ _ _ h => h) (Or.inl ⟨by rfl, by (intro ww hS;  clear hS; go_simp; try with_reducible rfl)⟩) (CC.out _ A).1 ?_; (try simp only [Act.put, sA, sZ, sS]); have tk2 := True.intro; refine wpAnyH_ready (rs := [3]) (by kernel_rfl) (by simp) ?_; refine AllReadyH.cons rfl (fun K hK => have mk3 := True.intro; ?_) (AllReadyH.nil))
      | (have _q := g1; refine wpAnyH_tk (i := 2) (d := some 55) (v := dyV false oa on oc (-1)) rfl rfl (by kernel_rfl) (by kernel_rfl) (by kernel_rfl) (fun _ _ _ h => h) (Or.inl ⟨by rfl, by (intro ww hS;  clear hS; go_simp; try with_reducible rfl)⟩) (CC.out _ A).1 ?_; (try simp only [Act.put, sA, sZ, sS]); have tk2 := True.intro; refine wpAnyH_ready (rs := [3, 7]) (by kernel_rfl) (by simp) ?_; refine AllReadyH.cons rfl (fun K hK => have mk3 := True.intro; ?_) (AllReadyH.cons rfl (fun K hK => have mk7 := True.intro; ?_) (AllReadyH.nil)))
      | (have _q := g7; refine wpAnyH_ready (rs := [1]) (by kernel_rfl) (by simp) ?_; refine AllReadyH.cons rfl (fun K hK => have mk1 := True.intro; ?_) (AllReadyH.nil))
      | (refine wpAnyH_ready (rs := [1, 7]) (by kernel_rfl) (by simp) ?_; refine AllReadyH.cons rfl (fun K hK => have mk1 := True.intro; ?_) (AllReadyH.cons rfl (fun K hK => have mk7 := True.intro; ?_) (AllReadyH.nil)))
     all_goals
      first
      | (have _q := mk1; clear _q mk1
         go_simp
         refine cM (of_eq 1 wv (by omega)) ?_
         rintro r wn ⟨oa, on, oc, rfl, -, hn1, oH, bN⟩
         replace A := nT A bN
         try replace oA := oA.keep bN
         try replace Z16 := Z16.keep bN
         refine hK.out _ _ (CC.out _ A).1 (fun _ => ?_)
         clear bN
         have iH : inT wn (false, oa, on, oc, wO 1, -1) := ⟨oH.1, by show on ≤ _; omega⟩
         clear oH
         generalize wn = wv at *
         clear hK K; (try simp only [sA, sZ, sS]); have g1 := True.intro)
      | (have _q := mk3; clear _q mk3
         go_simp
         refine cM (sw_yes U (false, oa, on, oc, wO 1, -1) wv (CC.out _ A).2.1 iH (CC.out _ A).2.2 eU.out (half_tT oa on oc).1 rU.out (half_tT oa on oc).2 RM.out.2.2.2) ?_
         rintro r wn ⟨AA, rfl, pAA, oA, bN⟩
         replace A := nT A bN
         try replace iH := iH.keep bN
         try replace Z16 := Z16.keep bN
         refine hK.out _ _ (CC.out _ A).1 (fun _ => ?_)
         clear bN
         generalize wn = wv at *
         clear hK K; (try simp only [sA, sZ, sS]); have g3 := True.intro)
      | (have _q := mk7; clear _q mk7
         go_simp
         have Z16 := fd_zero wv
         have lb := A.size
         have bN := below_one wv obz
         replace A := nT A bN
         try replace iH := iH.keep bN
         try replace oA := oA.keep bN
         refine hK.out _ _ (CC.out _ A).1 (fun _ => ?_)
         clear bN
         generalize wv.alloc obz = wn at *
         generalize wv.heap.size = B16 at *
         generalize wn = wv at *
         clear hK K; (try simp only [sA, sZ, sS]); have g7 := True.intro)
      | (have _q := mk8; clear _q mk8
         have ZZ : Hid (FD B16 zDT wv) := Z16
         obtain ⟨⟨z0, z1, z2⟩, f0, f1, f2⟩ := Z16
         go_simp
         clear z0 z1 z2 f0 f1 f2
         have A16 : FD B16 AA (((wv.setCell ⟨B16, 0, none⟩ (.bool AA.1)).setCell ⟨B16, 1, none⟩ (.slice AA.2.1 AA.2.2.1 AA.2.2.2.1)).setCell ⟨B16, 2, none⟩ (.int .i64 AA.2.2.2.2.2)) := ZZ.out.put AA
         have iA : inT (((wv.setCell ⟨B16, 0, none⟩ (.bool AA.1)).setCell ⟨B16, 1, none⟩ (.slice AA.2.1 AA.2.2.1 AA.2.2.2.1)).setCell ⟨B16, 2, none⟩ (.int .i64 AA.2.2.2.2.2)) AA := ZZ.out.inT oA.inT AA
         replace A : Below wb.heap.size wb (((wv.setCell ⟨B16, 0, none⟩ (.bool AA.1)).setCell ⟨B16, 1, none⟩ (.slice AA.2.1 AA.2.2.1 AA.2.2.2.1)).setCell ⟨B16, 2, none⟩ (.int .i64 AA.2.2.2.2.2)) := below_put A lb AA
         clear oA ZZ iH
         refine hK.out _ _ (CC.out _ A).1 (fun _ => ?_)
         generalize (((wv.setCell ⟨B16, 0, none⟩ (.bool AA.1)).setCell ⟨B16, 1, none⟩ (.slice AA.2.1 AA.2.2.1 AA.2.2.2.1)).setCell ⟨B16, 2, none⟩ (.int .i64 AA.2.2.2.2.2)) = wn at *
         generalize wn = wv at *
         clear hK K; (try simp only [sA, sZ, sS]); have g8 := True.intro)
      | (have _q := mk9; clear _q mk9
         go_simp
         refine hK.out _ _ (CC.out _ A).1 (fun _ => ?_)
         clear hK K; (try simp only [sA, sZ, sS]); have g9 := True.intro)
    all_goals
     refine wpAnyH_done (by kernel_rfl) ?_ _
     go_wp2_with fail
     go_meet
     case rel => exact ⟨AA, B16, rfl, rfl, A16, lb, pAA, iA, A⟩
   case rest =>
    obtain ⟨A, B16, rfl, rfl, A16, l16, pAA, iA, bN⟩ := hcut
    clear A14 iU eU rU
    replace A8 := A8.keep bN
    replace A10 := A10.keep bN
    replace Z4 := Z4.keep bN
    replace iXW := iXW.keep bN
    replace iYW := iYW.keep bN
    replace bA := nT bA bN
    clear bN
    have eA : Hid _ := pAA.tT SV.out.2.2.2.1
    have rA : Hid _ := pAA.rgT.trans RM.out.2.2.2
    clear pAA
    obtain ⟨⟨k0, k1, k2⟩, -⟩ := id A16
    obtain ⟨⟨h0, h1, h2⟩, -⟩ := id A8
    go_wp2_with fail
    have AB : Hid _ := sw_add A XW wc iA iXW (TT.out _ bA) eA.out eXW rA.out rXW
    clear k0 k1 k2 h0 h1 h2 A8 iA iXW eXW rXW eA rA
    by_cases rb : roomB (suB P Q) = true
    ·rw [show sumD (suA P Q) (pW P) = suB P Q from rfl, roomE_yes rb, roomP_yes rb] at AB
     refine cM AB.out ?_
     rintro r wd ⟨A, rfl, pA, oA, bN⟩
     have HE : Hid (EE = roomE (suF P Q) ∧ PP = roomP (suF P Q)) := SH.out.2 rb
     clear SH AB
     replace A10 := A10.keep bN
     replace Z4 := Z4.keep bN
     replace iYW := iYW.keep bN
     replace A16 := A16.keep bN
     replace bA := nT bA bN
     clear bN
     have iA := oA.inT
     clear oA
     have eA : Hid _ := pA.tT SV.out.2.2.2.2
     have rA : Hid _ := pA.rgT.trans rb
     clear pA rb
     have A160 : Hid (FD _ _ _) := A16
     obtain ⟨⟨k0, k1, k2⟩, f0, f1, f2⟩ := id A16
     go_upto_region 14 with fail
     replace A10 : FD _ _ (((wd.setCell ⟨B16, 0, none⟩ (.bool A.1)).setCell ⟨B16, 1, none⟩ (.slice A.2.1 A.2.2.1 A.2.2.2.1)).setCell ⟨B16, 2, none⟩ (.int .i64 A.2.2.2.2.2)) := A10.other (by omega) A
     replace Z4 : FD _ _ (((wd.setCell ⟨B16, 0, none⟩ (.bool A.1)).setCell ⟨B16, 1, none⟩ (.slice A.2.1 A.2.2.1 A.2.2.2.1)).setCell ⟨B16, 2, none⟩ (.int .i64 A.2.2.2.2.2)) := Z4.other (by omega) A
     replace iYW : inT (((wd.setCell ⟨B16, 0, none⟩ (.bool A.1)).setCell ⟨B16, 1, none⟩ (.slice A.2.1 A.2.2.1 A.2.2.2.1)).setCell ⟨B16, 2, none⟩ (.int .i64 A.2.2.2.2.2)) YW := A160.out.inT iYW A
     replace A16 : FD _ A (((wd.setCell ⟨B16, 0, none⟩ (.bool A.1)).setCell ⟨B16, 1, none⟩ (.slice A.2.1 A.2.2.1 A.2.2.2.1)).setCell ⟨B16, 2, none⟩ (.int .i64 A.2.2.2.2.2)) := A160.out.put A
     replace iA : inT (((wd.setCell ⟨B16, 0, none⟩ (.bool A.1)).setCell ⟨B16, 1, none⟩ (.slice A.2.1 A.2.2.1 A.2.2.2.1)).setCell ⟨B16, 2, none⟩ (.int .i64 A.2.2.2.2.2)) A := A160.out.inT iA A
     replace bA : Below w.heap.size w (((wd.setCell ⟨B16, 0, none⟩ (.bool A.1)).setCell ⟨B16, 1, none⟩ (.slice A.2.1 A.2.2.1 A.2.2.2.1)).setCell ⟨B16, 2, none⟩ (.int .i64 A.2.2.2.2.2)) := below_put bA (by omega) A
     clear k0 k1 k2 f0 f1 f2 A160
     generalize (((wd.setCell ⟨B16, 0, none⟩ (.bool A.1)).setCell ⟨B16, 1, none⟩ (.slice A.2.1 A.2.2.1 A.2.2.2.1)).setCell ⟨B16, 2, none⟩ (.int .i64 A.2.2.2.2.2)) = we at *
     obtain ⟨⟨k0, k1, k2⟩, -⟩ := id A16
     obtain ⟨⟨h0, h1, h2⟩, -⟩ := id A10
     go_wp2_with fail
     refine cM (sw_add A YW we iA iYW (TT.out _ bA) eA.out eYW rA.out rYW) ?_
     rintro r wf ⟨Z, rfl, pZ, oZ, bN⟩
     change isP Z (roomP (suF P Q)) at pZ
     have sC := bA.size
     replace oZ : ownT w.heap.size wf Z := ⟨oZ.1.low sC, oZ.2⟩
     clear k0 k1 k2 h0 h1 h2 A16 A10 iA iYW eA rA eYW rYW
     replace Z4 := Z4.keep bN
     replace bA := nT bA bN
     have ZZ : Hid (FD _ _ _) := Z4
     obtain ⟨⟨z0, z1, z2⟩, f0, f1, f2⟩ := Z4
     go_wp2_with fail
     exact bodyPost_ret (v := .tuple #[dT Z, .int .i64 (roomE (suF P Q))]) (by simp [results, Tryz.results130, go_sem, z0, z1, z2]; rfl) rfl ⟨Z, by rw [HE.out.1], by rw [HE.out.2]; exact pZ, ZZ.out.own oZ Z, below_put bA (by omega) Z⟩
    ·rw [Bool.not_eq_true] at rb
     rw [show sumD (suA P Q) (pW P) = suB P Q from rfl, roomE_no rb, roomP_no rb] at AB
     refine cM AB.out ?_
     rintro r wd ⟨A, rfl, -, -, bN⟩
     have HE : Hid (EE = 3 ∧ PP = (false, 0, 0)) := SH.out.1 rb
     clear SH AB A10 iYW eYW rYW rb
     replace Z4 := Z4.keep bN
     replace A16 := A16.keep bN
     replace bA := nT bA bN
     clear bN
     have ZZ : Hid (FD (w.heap.size + 1 + 1) zDT (put3 wd B16 A)) := Z4.other (by omega) A
     have bB : Below w.heap.size w (put3 wd B16 A) := below_put bA (by omega) A
     obtain ⟨⟨z0, z1, z2⟩, f0, f1, f2⟩ := Z4
     obtain ⟨⟨k0, k1, k2⟩, g0, g1, g2⟩ := A16
     go_wp2_with fail
     exact bodyPost_ret (v := .tuple #[dT zDT, .int .i64 3]) (by simp [results, Tryz.results130, go_sem, z0, z1, z2, zDT]) rfl ⟨zDT, by rw [HE.out.1], by rw [HE.out.2]; exact ⟨rfl, words_zero.symm, rfl⟩, ⟨ownW_nil _ _, by decide⟩, below_put bB (by omega) zDT⟩
end Go.Proofs.YtahpdcbmekgkfaaGreatDoor
