/- The first question of the statements on intervals: a third, to two bits; a sum. -/
import Derived.Deep.CutRange
import Derived.Test.YtahpdcbmekgkfaaGreatDoorCR2
import Derived.Test.YtahpdcbmekgkfaaGreatDoorAL
import Derived.Test.YtahpdcbmekgkfaaGreatDoorSX4
import Derived.Test.YtahpdcbmekgkfaaGreatDoorTMS
import Derived.Test.YtahpdcbmekgkfaaGreatDoorITX
namespace Go.Proofs.YtahpdcbmekgkfaaGreatDoor
open Go.RowKit
theorem isW_lit (w : World) (m : Int) (h0 : 0 ≤ m) (h1 : m ≤ 18446744073709551615) : IsW (w.alloc (.cells #[.int .u64 m] 53)) (some ⟨w.heap.size, 0, none⟩) 1 1 [m] :=
 ⟨rfl, fun x hx => by simp at hx; subst hx; exact ⟨h0, h1⟩, ⟨Nat.le_refl _, fun q => by cases q⟩, fun i hi => ⟨w.heap.size, 0, rfl, by simp, by
  obtain rfl : i = 0 := by omega
  go_simp⟩⟩
def isX (P : Bool × Nat × Int) (X : DT) : Prop := ∃ a n c, X = mT P a n c
theorem isX.isP {P : Bool × Nat × Int} {X : DT} (h : isX P X) : isP X P := by
 obtain ⟨a, n, c, rfl⟩ := h
 exact ⟨rfl, rfl, rfl⟩
theorem smx {X U : DT} {P : Bool × Nat × Int} (h : isP X P) (h' : isP U P) : smT X U = true := by
 obtain ⟨a1, a2, a3⟩ := h
 obtain ⟨b1, b2, b3⟩ := h'
 unfold smT
 rw [a1, a2, a3, b1, b2, b3]
 exact decide_eq_true ⟨rfl, rfl, rfl⟩
theorem isP_lit (e : Int) (m : Int) (hm : wO m.toNat = [m]) (b : Nat) : isP (false, some ⟨b, 0, none⟩, 1, 1, [m], e) (false, m.toNat, e) := ⟨rfl, hm.symm, rfl⟩
theorem be_same (X Y U V : DT) (P Q : Bool × Nat × Int) (w : World) (p : isP X P) (q : isP Y Q) (p' : isP U P) (q' : isP V Q) (i : inT w X) (j : inT w Y) (i' : inT w U) (j' : inT w V) :
  Calls Tryz.prog 12 #[ivT X Y, ivT U V] w fun r w' => r = .returned (.bool true) ∧ Below w.heap.size w w' := by
 have h := vSame_calls X Y U V w i j i' j'
 rw [smx p p', smx q q'] at h
 exact h
theorem be_int (k : Int) (P : Bool × Nat × Int) (hk : -9223372036854775808 ≤ k ∧ k ≤ 9223372036854775807) (e : intD k = P) (h1 : (wO P.2.1).length = 1) (w : World) :
  Calls Tryz.prog 47 #[.int .i64 k] w fun r w' => ∃ X, r = .returned (dT X) ∧ isX P X ∧ ownT w.heap.size w' X ∧ Below w.heap.size w w' := by
 subst e
 refine cM (qint_calls k hk w) ?_
 rintro r w' ⟨_, rfl, ⟨a, n, c, rfl, N, O⟩, b⟩
 exact ⟨mT (intD k) a n c, rfl, ⟨a, n, c, rfl⟩, ⟨O, by have := N.out; show n ≤ _; omega⟩, b⟩
section
variable {a1 a2 a3 a4 : Option Addr} {n1 c1 n2 c2 n3 c3 n4 c4 : Nat}
theorem third : dvR (mT (false, 1, 0) a1 n1 c1) (mT (false, 1, 0) a2 n2 c2) (mT (false, 3, 0) a3 n3 c3) (mT (false, 3, 0) a4 n4 c4) 2 = (0, (false, 1, -2), (false, 3, -3)) := by
 show dvR (mT (false, 1, 0) none 0 0) (mT (false, 1, 0) none 0 0) (mT (false, 3, 0) none 0 0) (mT (false, 3, 0) none 0 0) 2 = (0, (false, 1, -2), (false, 3, -3))
 decide +kernel
theorem four : adR (mT (false, 1, 0) a1 n1 c1) (mT (false, 1, 1) a2 n2 c2) (mT (false, 3, 0) a3 n3 c3) (mT (false, 3, 0) a4 n4 c4) 2 = (0, (false, 1, 2), (false, 3, 1)) := by
 show adR (mT (false, 1, 0) none 0 0) (mT (false, 1, 1) none 0 0) (mT (false, 3, 0) none 0 0) (mT (false, 3, 0) none 0 0) 2 = (0, (false, 1, 2), (false, 3, 1))
 decide +kernel
end
theorem isX_of {X : DT} {P : Bool × Nat × Int} (h : isP X P) : isX P X := by
 obtain ⟨s, a, n, c, xs, e⟩ := X
 obtain ⟨h1, h2, h3⟩ := h
 simp only at h1 h2 h3
 subst h1 h2 h3
 exact ⟨a, n, c, rfl⟩
theorem be_ans {B : Nat} {w : World} {a : Value} {P Q : Bool × Nat × Int} (h : IvA B w a (0, P, Q)) : ∃ X Y, a = .tuple #[ivT X Y, .int .i64 0] ∧ isX P X ∧ isX Q Y ∧ ownT B w X ∧ ownT B w Y := by
 obtain ⟨X, Y, rfl, p, q, o, o'⟩ := h
 exact ⟨X, Y, rfl, isX_of p, isX_of q, o, o'⟩
theorem be_div (X1 X2 X3 X4 : DT) (w : World) (p1 : isX (false, 1, 0) X1) (p2 : isX (false, 1, 0) X2) (p3 : isX (false, 3, 0) X3) (p4 : isX (false, 3, 0) X4) (i1 : inT w X1) (i2 : inT w X2) (i3 : inT w X3) (i4 : inT w X4) (hT : Tab w) :
  Calls Tryz.prog 21 #[ivT X1 X2, ivT X3 X4, .int .i64 2] w fun r w' => ∃ X Y, r = .returned (.tuple #[ivT X Y, .int .i64 0]) ∧ isX (false, 1, -2) X ∧ isX (false, 3, -3) Y ∧ ownT w.heap.size w' X ∧ ownT w.heap.size w' Y ∧ Below w.heap.size w w' := by
 obtain ⟨a1, n1, c1, rfl⟩ := p1
 obtain ⟨a2, n2, c2, rfl⟩ := p2
 obtain ⟨a3, n3, c3, rfl⟩ := p3
 obtain ⟨a4, n4, c4, rfl⟩ := p4
 have h := iDivT _ _ _ _ 2 w i1 i2 i3 i4 hT
 rw [third] at h
 refine cM h ?_
 rintro r w' ⟨_, rfl, q, b⟩
 obtain ⟨X, Y, rfl, pX, pY, oX, oY⟩ := be_ans q
 exact ⟨X, Y, rfl, pX, pY, oX, oY, b⟩
theorem be_add (X1 X2 X3 X4 : DT) (w : World) (p1 : isX (false, 1, 0) X1) (p2 : isX (false, 1, 1) X2) (p3 : isX (false, 3, 0) X3) (p4 : isX (false, 3, 0) X4) (i1 : inT w X1) (i2 : inT w X2) (i3 : inT w X3) (i4 : inT w X4) (hT : Tab w) :
  Calls Tryz.prog 18 #[ivT X1 X2, ivT X3 X4, .int .i64 2] w fun r w' => ∃ X Y, r = .returned (.tuple #[ivT X Y, .int .i64 0]) ∧ isX (false, 1, 2) X ∧ isX (false, 3, 1) Y ∧ ownT w.heap.size w' X ∧ ownT w.heap.size w' Y ∧ Below w.heap.size w w' := by
 obtain ⟨a1, n1, c1, rfl⟩ := p1
 obtain ⟨a2, n2, c2, rfl⟩ := p2
 obtain ⟨a3, n3, c3, rfl⟩ := p3
 obtain ⟨a4, n4, c4, rfl⟩ := p4
 have h := iAddT _ _ _ _ 2 w i1 i2 i3 i4 hT
 rw [four] at h
 refine cM h ?_
 rintro r w' ⟨_, rfl, q, b⟩
 obtain ⟨X, Y, rfl, pX, pY, oX, oY⟩ := be_ans q
 exact ⟨X, Y, rfl, pX, pY, oX, oY, b⟩
theorem be_sign (X Y : DT) (w : World) (p : isX (false, 1, 2) X) (q : isX (false, 3, 1) Y) (i : inT w X) (j : inT w Y) (hT : Tab w) :
  Calls Tryz.prog 48 #[ivT X Y] w fun r w' => r = .returned (.tuple #[.int .i64 1, .bool true]) ∧ Below w.heap.size w w' := by
 obtain ⟨a, n, c, rfl⟩ := p
 obtain ⟨a', n', c', rfl⟩ := q
 have h := ivSign_calls false a n c (wO 1) 2 false a' n' c' (wO 3) 1 w i.1 i.2 j.1 j.2 hT
 rw [show sgV false (val (wO 1)) 2 false (val (wO 3)) 1 = 1 by decide +kernel, show sgB false (val (wO 1)) 2 false (val (wO 3)) 1 = true by decide +kernel] at h
 exact h
theorem be_meets (X Y : DT) (w : World) (p : isX (false, 1, -2) X) (q : isX (false, 3, -3) Y) (i : inT w X) (j : inT w Y) (hT : Tab w) :
  Calls Tryz.prog 49 #[ivT X Y, ivT X Y] w fun r w' => r = .returned (.bool true) ∧ Below w.heap.size w w' := by
 obtain ⟨a, n, c, rfl⟩ := p
 obtain ⟨a', n', c', rfl⟩ := q
 have h := meets_calls false a n c (wO 1) (-2) false a' n' c' (wO 3) (-3) false a n c (wO 1) (-2) false a' n' c' (wO 3) (-3) w i.1 i.2 j.1 j.2 i.1 i.2 j.1 j.2 hT
 rw [show ((rtI false (val (wO 1)) (-2) false (val (wO 3)) (-3) && rtI false (val (wO 1)) (-2) false (val (wO 3)) (-3)) && rtI false (val (wO 1)) (-2) false (val (wO 3)) (-3) && rtI false (val (wO 1)) (-2) false (val (wO 3)) (-3)) = true by decide +kernel] at h
 exact h
theorem att_six {b : Nat} {w : World} (h : ZI b w) (X Y : DT) : AtT b X Y ((((((w.setCell ⟨b, 0, none⟩ (.bool X.1)).setCell ⟨b, 1, none⟩ (.slice X.2.1 X.2.2.1 X.2.2.2.1)).setCell ⟨b, 2, none⟩ (.int .i64 X.2.2.2.2.2)).setCell ⟨b, 3, none⟩ (.bool Y.1)).setCell ⟨b, 4, none⟩ (.slice Y.2.1 Y.2.2.1 Y.2.2.2.1)).setCell ⟨b, 5, none⟩ (.int .i64 Y.2.2.2.2.2)) := by
 obtain ⟨⟨h0, h1, h2, h3, h4, h5⟩, f0, f1, f2, f3, f4, f5⟩ := h
 refine ⟨?_, ?_, ?_, ?_, ?_, ?_⟩ <;> simp [World.cell?_setCell_other, go_sem, h0, h1, h2, h3, h4, h5]
set_option maxRecDepth 100000 in
set_option maxHeartbeats 32000000 in
theorem ivBegins_calls (w : World) (hT : Tab w) :
  Calls Tryz.prog 13 #[] w fun r w' => r = .returned (.bool true) ∧ Below w.heap.size w w' := by
 have I1 : Hid _ := fun w' => be_int 1 (false, 1, 0) (by omega) (by decide +kernel) (by decide +kernel) w'
 have I3 : Hid _ := fun w' => be_int 3 (false, 3, 0) (by omega) (by decide +kernel) (by decide +kernel) w'
 have I2 : Hid _ := fun w' => be_int 2 (false, 1, 1) (by omega) (by decide +kernel) (by decide +kernel) w'
 have I4 : Hid _ := fun w' => be_int 4 (false, 1, 2) (by omega) (by decide +kernel) (by decide +kernel) w'
 have I6 : Hid _ := fun w' => be_int 6 (false, 3, 1) (by omega) (by decide +kernel) (by decide +kernel) w'
 have bA := Below.refl w.heap.size w
 have tt := hT
 clear hT
 go_enter Tryz.func13, Tryz.ntmps13
 go_wp2_with fail
 refine cM (I1.out _) ?_
 rintro r w1 ⟨X1, rfl, p1, O1, bN⟩
 replace tt := tt.kept bN
 replace bA := nT bA bN
 clear bN
 have i1 := O1.inT
 clear O1
 go_wp2_with fail
 refine cM (I1.out _) ?_
 rintro r w2 ⟨X2, rfl, p2, O2, bN⟩
 replace i1 := i1.keep bN
 replace tt := tt.kept bN
 replace bA := nT bA bN
 clear bN
 have i2 := O2.inT
 clear O2
 have S1 := att_new X1 X2 w2
 have bN := below_one w2 (obT X1 X2)
 replace i1 := i1.keep bN
 replace i2 := i2.keep bN
 replace tt := tt.kept bN
 replace bA := nT bA bN
 clear bN
 go_wp2_with fail
 generalize w2.alloc (obT X1 X2) = v1 at *
 generalize w2.heap.size = B1 at *
 refine cM (I3.out _) ?_
 rintro r w3 ⟨X3, rfl, p3, O3, bN⟩
 replace i1 := i1.keep bN
 replace i2 := i2.keep bN
 replace S1 := S1.keep bN
 replace tt := tt.kept bN
 replace bA := nT bA bN
 clear bN
 have i3 := O3.inT
 clear O3
 go_wp2_with fail
 refine cM (I3.out _) ?_
 rintro r w4 ⟨X4, rfl, p4, O4, bN⟩
 replace i1 := i1.keep bN
 replace i2 := i2.keep bN
 replace S1 := S1.keep bN
 replace i3 := i3.keep bN
 replace tt := tt.kept bN
 replace bA := nT bA bN
 clear bN
 have i4 := O4.inT
 clear O4
 have S2 := att_new X3 X4 w4
 have bN := below_one w4 (obT X3 X4)
 replace i1 := i1.keep bN
 replace i2 := i2.keep bN
 replace S1 := S1.keep bN
 replace i3 := i3.keep bN
 replace i4 := i4.keep bN
 replace tt := tt.kept bN
 replace bA := nT bA bN
 clear bN
 have ZS : Hid (AtT B1 X1 X2 _ ∧ AtT _ X3 X4 _) := ⟨S1, S2⟩
 obtain ⟨k0, k1, k2, k3, k4, k5⟩ := S1
 obtain ⟨l0, l1, l2, l3, l4, l5⟩ := S2
 go_wp2_with fail
 clear k0 k1 k2 k3 k4 k5 l0 l1 l2 l3 l4 l5
 obtain ⟨S1, S2⟩ := ZS.out
 clear ZS S1
 generalize w4.alloc (obT X3 X4) = v2 at *
 generalize w4.heap.size = B2 at *
 refine cM (be_div X1 X2 X3 X4 v2 p1 p2 p3 p4 i1 i2 i3 i4 tt) ?_
 rintro r w5 ⟨X5, X6, rfl, p5, p6, O5, O6, bN⟩
 clear i1 i2 p1 p2
 replace i3 := i3.keep bN
 replace i4 := i4.keep bN
 replace S2 := S2.keep bN
 replace tt := tt.kept bN
 replace bA := nT bA bN
 clear bN
 have i5 := O5.inT
 have i6 := O6.inT
 clear O5 O6
 have S3 := att_new X5 X6 w5
 have bN := below_one w5 (obT X5 X6)
 replace i3 := i3.keep bN
 replace i4 := i4.keep bN
 replace S2 := S2.keep bN
 replace i5 := i5.keep bN
 replace i6 := i6.keep bN
 replace tt := tt.kept bN
 replace bA := nT bA bN
 clear bN
 go_upto_region 4 with fail
 generalize w5.alloc (obT X5 X6) = w7 at *
 generalize w5.heap.size = B3 at *
 have SS : Hid (∀ W, Below w7.heap.size w7 W → AtT B2 X3 X4 W) := fun W b => S2.keep b
 clear S2
 go_cut [5, 6] from 21 to 28 (fun s5 s6 wx => ∃ (X9 X10 : DT) (YB : Nat), s5 = .pointer (some ⟨YB, 0, none⟩) ∧ s6 = .int .i64 0 ∧ isX (false, 1, 2) X9 ∧ isX (false, 3, 1) X10 ∧ inT wx X9 ∧ inT wx X10 ∧ AtT YB X9 X10 wx ∧ Below w7.heap.size w7 wx)
 case first =>
  clear bA S3 i5 i6 p5 p6 I3 I4 I6
  have A : Below w7.heap.size w7 (World.drew w7) := (Below.refl _ _).drew
  refine wp_region_held (S := fun w' => AtT B2 X3 X4 w') (by kernel_rfl) ?_
  change wpAnyH _ _ _ _ _ 11 #[false, false, false, false, false, false, false, false, false, false, false] _ (World.drew w7)
  generalize World.drew w7 = wv at A ⊢
  refine wpAnyH_tk (i := 3) (d := some 25) (v := ivT X3 X4) rfl rfl (by kernel_rfl) (by kernel_rfl) (by kernel_rfl) (fun _ _ _ h => h) (Or.inl ⟨by rfl, ?_⟩) (SS.out _ A) ?_
  ·intro ww hS
   obtain ⟨q0, q1, q2, q3, q4, q5⟩ := id hS
   clear hS
   go_simp
   try with_reducible rfl
  try simp only [Act.put, sA, sZ, sS]
  iterate 6
   all_goals
    first
    | (have _q := g0; have _q := g1; have _q := g4; have _q := g8; have _q := g9; refine wpAnyH_ready (rs := [10]) (by kernel_rfl) (by simp) ?_; refine AllReadyH.cons rfl (fun K hK => have mk10 := True.intro; ?_) (AllReadyH.nil))
    | (have _q := g0; have _q := g1; have _q := g4; have _q := g8; have _q := tk5; have _q := tk6; have _q := tk7; refine wpAnyH_ready (rs := [9]) (by kernel_rfl) (by simp) ?_; refine AllReadyH.cons rfl (fun K hK => have mk9 := True.intro; ?_) (AllReadyH.nil))
    | (have _q := g0; have _q := g1; have _q := g4; have _q := g8; refine wpAnyH_tk (i := 5) (d := some 21) (v := .tuple #[ivT X9 X10, .int .i64 0]) rfl rfl (by kernel_rfl) (by kernel_rfl) (by kernel_rfl) (fun _ _ _ h => h) (Or.inl ⟨by rfl, by (intro ww hS;  clear hS; go_simp; try with_reducible rfl)⟩) (SS.out _ A) ?_; (try simp only [Act.put, sA, sZ, sS]); have tk5 := True.intro; refine wpAnyH_tk (i := 6) (d := some 27) (v := ivT X9 X10) rfl rfl (by kernel_rfl) (by kernel_rfl) (by kernel_rfl) (fun _ _ _ h => h) (Or.inl ⟨by rfl, by (intro ww hS;  clear hS; go_simp; try with_reducible rfl)⟩) (SS.out _ A) ?_; (try simp only [Act.put, sA, sZ, sS]); have tk6 := True.intro; refine wpAnyH_tk (i := 7) (d := some 28) (v := .int .i64 0) rfl rfl (by kernel_rfl) (by kernel_rfl) (by kernel_rfl) (fun _ _ _ h => h) (Or.inl ⟨by rfl, by (intro ww hS;  clear hS; go_simp; try with_reducible rfl)⟩) (SS.out _ A) ?_; (try simp only [Act.put, sA, sZ, sS]); have tk7 := True.intro; refine wpAnyH_ready (rs := [9]) (by kernel_rfl) (by simp) ?_; refine AllReadyH.cons rfl (fun K hK => have mk9 := True.intro; ?_) (AllReadyH.nil))
    | (have _q := g0; have _q := g1; have _q := g4; refine wpAnyH_tk (i := 5) (d := some 21) (v := .tuple #[ivT X9 X10, .int .i64 0]) rfl rfl (by kernel_rfl) (by kernel_rfl) (by kernel_rfl) (fun _ _ _ h => h) (Or.inl ⟨by rfl, by (intro ww hS;  clear hS; go_simp; try with_reducible rfl)⟩) (SS.out _ A) ?_; (try simp only [Act.put, sA, sZ, sS]); have tk5 := True.intro; refine wpAnyH_tk (i := 6) (d := some 27) (v := ivT X9 X10) rfl rfl (by kernel_rfl) (by kernel_rfl) (by kernel_rfl) (fun _ _ _ h => h) (Or.inl ⟨by rfl, by (intro ww hS;  clear hS; go_simp; try with_reducible rfl)⟩) (SS.out _ A) ?_; (try simp only [Act.put, sA, sZ, sS]); have tk6 := True.intro; refine wpAnyH_tk (i := 7) (d := some 28) (v := .int .i64 0) rfl rfl (by kernel_rfl) (by kernel_rfl) (by kernel_rfl) (fun _ _ _ h => h) (Or.inl ⟨by rfl, by (intro ww hS;  clear hS; go_simp; try with_reducible rfl)⟩) (SS.out _ A) ?_; (try simp only [Act.put, sA, sZ, sS]); have tk7 := True.intro; refine wpAnyH_ready (rs := [8]) (by kernel_rfl) (by simp) ?_; refine AllReadyH.cons rfl (fun K hK => have mk8 := True.intro; ?_) (AllReadyH.nil))
    | (have _q := g0; have _q := g1; have _q := g8; have _q := tk2; refine wpAnyH_ready (rs := [4]) (by kernel_rfl) (by simp) ?_; refine AllReadyH.cons rfl (fun K hK => have mk4 := True.intro; ?_) (AllReadyH.nil))
    | (have _q := g0; have _q := g1; have _q := g8; refine wpAnyH_tk (i := 2) (d := some 24) (v := ivT X7 X8) rfl rfl (by kernel_rfl) (by kernel_rfl) (by kernel_rfl) (fun _ _ _ h => h) (Or.inl ⟨by rfl, by (intro ww hS;  clear hS; go_simp; try with_reducible rfl)⟩) (SS.out _ A) ?_; (try simp only [Act.put, sA, sZ, sS]); have tk2 := True.intro; refine wpAnyH_ready (rs := [4]) (by kernel_rfl) (by simp) ?_; refine AllReadyH.cons rfl (fun K hK => have mk4 := True.intro; ?_) (AllReadyH.nil))
    | (have _q := g0; have _q := g1; refine wpAnyH_tk (i := 2) (d := some 24) (v := ivT X7 X8) rfl rfl (by kernel_rfl) (by kernel_rfl) (by kernel_rfl) (fun _ _ _ h => h) (Or.inl ⟨by rfl, by (intro ww hS;  clear hS; go_simp; try with_reducible rfl)⟩) (SS.out _ A) ?_; (try simp only [Act.put, sA, sZ, sS]); have tk2 := True.intro; refine wpAnyH_ready (rs := [4, 8]) (by kernel_rfl) (by simp) ?_; refine AllReadyH.cons rfl (fun K hK => have mk4 := True.intro; ?_) (AllReadyH.cons rfl (fun K hK => have mk8 := True.intro; ?_) (AllReadyH.nil)))
    | (have _q := g0; have _q := g8; refine wpAnyH_ready (rs := [1]) (by kernel_rfl) (by simp) ?_; refine AllReadyH.cons rfl (fun K hK => have mk1 := True.intro; ?_) (AllReadyH.nil))
    | (have _q := g0; refine wpAnyH_ready (rs := [1, 8]) (by kernel_rfl) (by simp) ?_; refine AllReadyH.cons rfl (fun K hK => have mk1 := True.intro; ?_) (AllReadyH.cons rfl (fun K hK => have mk8 := True.intro; ?_) (AllReadyH.nil)))
    | (have _q := g8; refine wpAnyH_ready (rs := [0]) (by kernel_rfl) (by simp) ?_; refine AllReadyH.cons rfl (fun K hK => have mk0 := True.intro; ?_) (AllReadyH.nil))
    | (refine wpAnyH_ready (rs := [0, 8]) (by kernel_rfl) (by simp) ?_; refine AllReadyH.cons rfl (fun K hK => have mk0 := True.intro; ?_) (AllReadyH.cons rfl (fun K hK => have mk8 := True.intro; ?_) (AllReadyH.nil)))
   all_goals
    first
    | (have _q := mk0; clear _q mk0
       go_simp
       refine cM (I1.out _) ?_
       rintro r wn ⟨X7, rfl, p7, O7, bN⟩
       replace A := nT A bN
       try replace i8 := i8.keep bN
       try replace O9 := O9.keep bN
       try replace O10 := O10.keep bN
       try replace hZ := hZ.keep bN
       refine hK.out _ _ (SS.out _ A) (fun _ => ?_)
       clear bN
       have i7 := O7.inT
       clear O7
       generalize wn = wv at *
       clear hK K; (try simp only [sA, sZ]); have g0 := True.intro)
    | (have _q := mk1; clear _q mk1
       go_simp
       refine cM (I2.out _) ?_
       rintro r wn ⟨X8, rfl, p8, O8, bN⟩
       replace A := nT A bN
       try replace i7 := i7.keep bN
       try replace O9 := O9.keep bN
       try replace O10 := O10.keep bN
       try replace hZ := hZ.keep bN
       refine hK.out _ _ (SS.out _ A) (fun _ => ?_)
       clear bN
       have i8 := O8.inT
       clear O8
       generalize wn = wv at *
       clear hK K; (try simp only [sA, sZ, sS]); have g1 := True.intro)
    | (have _q := mk4; clear _q mk4
       go_simp
       refine cM (be_add X7 X8 X3 X4 _ p7 p8 p3 p4 i7 i8 (i3.keep A) (i4.keep A) (tt.kept A)) ?_
       rintro r wn ⟨X9, X10, rfl, p9, p10, O9, O10, bN⟩
       replace A := nT A bN
       try replace i7 := i7.keep bN
       try replace i8 := i8.keep bN
       try replace hZ := hZ.keep bN
       refine hK.out _ _ (SS.out _ A) (fun _ => ?_)
       clear bN
       generalize wn = wv at *
       clear hK K; (try simp only [sA, sZ, sS]); have g4 := True.intro)
    | (have _q := mk8; clear _q mk8
       go_simp
       have hZ := zi_new wv
       have lb := A.size
       have bN := below_one wv obZ
       replace A := nT A bN
       try replace i7 := i7.keep bN
       try replace i8 := i8.keep bN
       try replace O9 := O9.keep bN
       try replace O10 := O10.keep bN
       refine hK.out _ _ (SS.out _ A) (fun _ => ?_)
       clear bN
       generalize wv.alloc obZ = wn at *
       generalize wv.heap.size = YB at *
       generalize wn = wv at *
       clear hK K; (try simp only [sA, sZ, sS]); have g8 := True.intro)
    | (have _q := mk9; clear _q mk9
       have ZZ : Hid (ZI YB wv) := hZ
       obtain ⟨⟨z0, z1, z2, z3, z4, z5⟩, f0, f1, f2, f3, f4, f5⟩ := hZ
       go_simp
       clear z0 z1 z2 z3 z4 z5 f0 f1 f2 f3 f4 f5
       have y9 := att_six ZZ.out X9 X10
       have i9 := (O9.six ZZ.out (.bool X9.1) (.slice X9.2.1 X9.2.2.1 X9.2.2.2.1) (.int .i64 X9.2.2.2.2.2) (.bool X10.1) (.slice X10.2.1 X10.2.2.1 X10.2.2.2.1) (.int .i64 X10.2.2.2.2.2)).inT
       have i10 := (O10.six ZZ.out (.bool X9.1) (.slice X9.2.1 X9.2.2.1 X9.2.2.2.1) (.int .i64 X9.2.2.2.2.2) (.bool X10.1) (.slice X10.2.1 X10.2.2.1 X10.2.2.2.1) (.int .i64 X10.2.2.2.2.2)).inT
       replace A : Below w7.heap.size w7 ((((((wv.setCell ⟨YB, 0, none⟩ (.bool X9.1)).setCell ⟨YB, 1, none⟩ (.slice X9.2.1 X9.2.2.1 X9.2.2.2.1)).setCell ⟨YB, 2, none⟩ (.int .i64 X9.2.2.2.2.2)).setCell ⟨YB, 3, none⟩ (.bool X10.1)).setCell ⟨YB, 4, none⟩ (.slice X10.2.1 X10.2.2.1 X10.2.2.2.1)).setCell ⟨YB, 5, none⟩ (.int .i64 X10.2.2.2.2.2)) := bodies A lb _ _ _ _ _ _
       clear O9 O10 ZZ i7 i8
       refine hK.out _ _ (SS.out _ A) (fun _ => ?_)
       generalize ((((((wv.setCell ⟨YB, 0, none⟩ (.bool X9.1)).setCell ⟨YB, 1, none⟩ (.slice X9.2.1 X9.2.2.1 X9.2.2.2.1)).setCell ⟨YB, 2, none⟩ (.int .i64 X9.2.2.2.2.2)).setCell ⟨YB, 3, none⟩ (.bool X10.1)).setCell ⟨YB, 4, none⟩ (.slice X10.2.1 X10.2.2.1 X10.2.2.2.1)).setCell ⟨YB, 5, none⟩ (.int .i64 X10.2.2.2.2.2)) = wn at *
       generalize wn = wv at *
       clear hK K; (try simp only [sA, sZ, sS]); have g9 := True.intro)
    | (have _q := mk10; clear _q mk10
       go_simp
       refine hK.out _ _ (SS.out _ A) (fun _ => ?_)
       clear hK K; (try simp only [sA, sZ, sS]); have g10 := True.intro)
  all_goals
   refine wpAnyH_done (by kernel_rfl) ?_ _
   go_wp2_with fail
   go_meet
   case rel => exact ⟨X9, X10, YB, rfl, rfl, p9, p10, i9, i10, y9, A⟩
 case rest =>
  obtain ⟨X9, X10, YB, rfl, rfl, p9, p10, i9, i10, S9, bN⟩ := hcut
  clear SS i3 i4 p3 p4
  replace i5 := i5.keep bN
  replace i6 := i6.keep bN
  replace S3 := S3.keep bN
  replace tt := tt.kept bN
  replace bA := nT bA bN
  clear bN
  have ZS : Hid (AtT YB X9 X10 wc) := S9
  obtain ⟨k0, k1, k2, k3, k4, k5⟩ := S9
  go_wp2_with fail
  clear k0 k1 k2 k3 k4 k5
  have S9 := ZS.out
  clear ZS
  refine cM (be_sign X9 X10 wc p9 p10 i9 i10 tt) ?_
  rintro r w6 ⟨rfl, bN⟩
  replace i5 := i5.keep bN
  replace i6 := i6.keep bN
  replace S3 := S3.keep bN
  replace i9 := i9.keep bN
  replace i10 := i10.keep bN
  replace S9 := S9.keep bN
  replace tt := tt.kept bN
  replace bA := nT bA bN
  clear bN
  go_upto_region 6 with fail
  have SS : Hid (∀ W, Below w6.heap.size w6 W → AtT B3 X5 X6 W ∧ AtT YB X9 X10 W) := fun W b => ⟨S3.keep b, S9.keep b⟩
  clear S3 S9 I1 I2 I3
  have R : Below w6.heap.size w6 (World.drew w6) := (Below.refl _ _).drew
  refine wp_region_held (S := fun w' => AtT B3 X5 X6 w' ∧ AtT YB X9 X10 w') (by kernel_rfl) ?_
  change wpAnyH _ _ _ _ _ 35 #[false, false, false, false, false, false, false, false, false, false, false, false, false, false, false, false, false, false, false, false, false, false, false, false, false, false, false, false, false, false, false, false, false, false, false] _ (World.drew w6)
  generalize World.drew w6 = wv at R ⊢
  refine rd1 0 (by kernel_rfl) rfl fun K hK => ?_
  go_simp
  refine hK.out _ _ (SS.out _ R) (fun _ => ?_)
  clear hK K
  try simp only [sA, sZ]
  refine rd1 1 (by kernel_rfl) rfl fun K hK => ?_
  go_simp
  refine hK.out _ _ (SS.out _ R) (fun _ => ?_)
  clear hK K
  try simp only [sA, sZ, sS]
  refine rd1 2 (by kernel_rfl) rfl fun K hK => ?_
  go_simp
  refine hK.out _ _ (SS.out _ R) (fun _ => ?_)
  clear hK K
  try simp only [sA, sZ, sS]
  refine wpAnyH_tk (i := 3) (d := some 37) (v := ivT X5 X6) rfl rfl (by kernel_rfl) (by kernel_rfl) (by kernel_rfl) (fun _ _ _ h => h) (Or.inl ⟨by rfl, ?_⟩) (SS.out _ R) ?_
  ·intro ww hS
   obtain ⟨⟨q0, q1, q2, q3, q4, q5⟩, p0, p1, p2, p3, p4, p5⟩ := id hS
   clear hS
   go_simp
   try with_reducible rfl
  try simp only [Act.put, sA, sZ, sS]
  iterate 2
   all_goals
    first
    | (have _q := g4; refine wpAnyH_tk (i := 5) (d := some 39) (v := dyV false (some ⟨G4, 0, none⟩) 1 1 (-2)) rfl rfl (by kernel_rfl) (by kernel_rfl) (by kernel_rfl) (fun _ _ _ h => h) (Or.inl ⟨by rfl, by (intro ww hS;  clear hS; go_simp; try with_reducible rfl)⟩) (SS.out _ R) ?_; (try simp only [Act.put, sA, sZ, sS]); have tk5 := True.intro; refine wpAnyH_ready (rs := [6]) (by kernel_rfl) (by simp) ?_; refine AllReadyH.cons rfl (fun K hK => have mk6 := True.intro; ?_) (AllReadyH.nil))
    | (have _q := g6; refine wpAnyH_tk (i := 7) (d := some 41) (v := dyV false (some ⟨G6, 0, none⟩) 1 1 (-3)) rfl rfl (by kernel_rfl) (by kernel_rfl) (by kernel_rfl) (fun _ _ _ h => h) (Or.inl ⟨by rfl, by (intro ww hS;  clear hS; go_simp; try with_reducible rfl)⟩) (SS.out _ R) ?_; (try simp only [Act.put, sA, sZ, sS]); have tk7 := True.intro; refine wpAnyH_ready (rs := [4]) (by kernel_rfl) (by simp) ?_; refine AllReadyH.cons rfl (fun K hK => have mk4 := True.intro; ?_) (AllReadyH.nil))
    | (refine wpAnyH_ready (rs := [4, 6]) (by kernel_rfl) (by simp) ?_; refine AllReadyH.cons rfl (fun K hK => have mk4 := True.intro; ?_) (AllReadyH.cons rfl (fun K hK => have mk6 := True.intro; ?_) (AllReadyH.nil)))
   all_goals
    first
    | (have _q := mk4; clear _q mk4
       go_simp
       have lw4 := isW_lit wv 1 (by omega) (by omega)
       have bN := below_one wv (.cells #[.int .u64 1] 53)
       replace R := nT R bN
       try replace lw6 := lw6.keep bN
       refine hK.out _ _ (SS.out _ R) (fun _ => ?_)
       clear bN
       generalize wv.alloc (.cells #[.int .u64 1] 53) = wn at *
       generalize wv.heap.size = G4 at *
       generalize wn = wv at *
       clear hK K; (try simp only [sA, sZ, sS]); have g4 := True.intro)
    | (have _q := mk6; clear _q mk6
       go_simp
       have lw6 := isW_lit wv 3 (by omega) (by omega)
       have bN := below_one wv (.cells #[.int .u64 3] 53)
       replace R := nT R bN
       try replace lw4 := lw4.keep bN
       refine hK.out _ _ (SS.out _ R) (fun _ => ?_)
       clear bN
       generalize wv.alloc (.cells #[.int .u64 3] 53) = wn at *
       generalize wv.heap.size = G6 at *
       generalize wn = wv at *
       clear hK K; (try simp only [sA, sZ, sS]); have g6 := True.intro)
  all_goals
   first
   | (have _q := tk7; refine wpAnyH_tk (i := 5) (d := some 39) (v := dyV false (some ⟨G4, 0, none⟩) 1 1 (-2)) rfl rfl (by kernel_rfl) (by kernel_rfl) (by kernel_rfl) (fun _ _ _ h => h) (Or.inl ⟨by rfl, by (intro ww hS;  clear hS; go_simp; try with_reducible rfl)⟩) (SS.out _ R) ?_; (try simp only [Act.put, sA, sZ, sS]))
   | (have _q := tk5; refine wpAnyH_tk (i := 7) (d := some 41) (v := dyV false (some ⟨G6, 0, none⟩) 1 1 (-3)) rfl rfl (by kernel_rfl) (by kernel_rfl) (by kernel_rfl) (fun _ _ _ h => h) (Or.inl ⟨by rfl, by (intro ww hS;  clear hS; go_simp; try with_reducible rfl)⟩) (SS.out _ R) ?_; (try simp only [Act.put, sA, sZ, sS]))
  all_goals
   refine wpAnyH_tk (i := 8) (d := some 42) (v := ivT (false, some ⟨G4, 0, none⟩, 1, 1, [1], -2) (false, some ⟨G6, 0, none⟩, 1, 1, [3], -3)) rfl rfl (by kernel_rfl) (by kernel_rfl) (by kernel_rfl) (fun _ _ _ h => h) (Or.inl ⟨by rfl, ?_⟩) (SS.out _ R) ?_
   ·intro ww hS
    clear hS
    go_simp
    try with_reducible rfl
   try simp only [Act.put, sA, sZ, sS]
   refine rd1 9 (by kernel_rfl) rfl fun K hK => ?_
   go_simp
   refine cM (be_same X5 X6 (false, some ⟨G4, 0, none⟩, 1, 1, [1], -2) (false, some ⟨G6, 0, none⟩, 1, 1, [3], -3) _ _ _ p5.isP p6.isP (isP_lit (-2) 1 (by decide +kernel) G4) (isP_lit (-3) 3 (by decide +kernel) G6) (i5.keep R) (i6.keep R) ⟨lw4, by show 1 ≤ 17592186044000; omega⟩ ⟨lw6, by show 1 ≤ 17592186044000; omega⟩) ?_
   rintro r wn ⟨rfl, bN⟩
   replace R := nT R bN
   clear lw4 lw6
   clear bN
   refine hK.out _ _ (SS.out _ R) (fun _ => ?_)
   clear hK K
   generalize wn = wv at *
   try simp only [sA, sZ, sS]
   refine rd1 10 (by kernel_rfl) rfl fun K hK => ?_
   go_simp
   refine hK.out _ _ (SS.out _ R) (fun _ => ?_)
   clear hK K
   try simp only [sA, sZ, sS]
   refine rd1 11 (by kernel_rfl) rfl fun K hK => ?_
   go_simp
   refine hK.out _ _ (SS.out _ R) (fun _ => ?_)
   clear hK K
   try simp only [sA, sZ, sS]
   refine rd1 12 (by kernel_rfl) rfl fun K hK => ?_
   go_simp
   refine hK.out _ _ (SS.out _ R) (fun _ => ?_)
   clear hK K
   try simp only [sA, sZ, sS]
   refine rd1 13 (by kernel_rfl) rfl fun K hK => ?_
   go_simp
   refine hK.out _ _ (SS.out _ R) (fun _ => ?_)
   clear hK K
   try simp only [sA, sZ, sS]
   refine rd1 14 (by kernel_rfl) rfl fun K hK => ?_
   go_simp
   refine hK.out _ _ (SS.out _ R) (fun _ => ?_)
   clear hK K
   try simp only [sA, sZ, sS]
   refine rd1 15 (by kernel_rfl) rfl fun K hK => ?_
   go_simp
   refine hK.out _ _ (SS.out _ R) (fun _ => ?_)
   clear hK K
   try simp only [sA, sZ, sS]
   refine wpAnyH_tk (i := 16) (d := some 50) (v := ivT X9 X10) rfl rfl (by kernel_rfl) (by kernel_rfl) (by kernel_rfl) (fun _ _ _ h => h) (Or.inl ⟨by rfl, ?_⟩) (SS.out _ R) ?_
   ·intro ww hS
    obtain ⟨⟨q0, q1, q2, q3, q4, q5⟩, p0, p1, p2, p3, p4, p5⟩ := id hS
    clear hS
    go_simp
    try with_reducible rfl
   try simp only [Act.put, sA, sZ, sS]
   refine rd1 17 (by kernel_rfl) rfl fun K hK => ?_
   go_simp
   refine cM (I4.out _) ?_
   rintro r wn ⟨X11, rfl, p11, O11, bN⟩
   replace R := nT R bN
   have i11 := O11.inT
   clear O11
   clear bN
   refine hK.out _ _ (SS.out _ R) (fun _ => ?_)
   clear hK K
   generalize wn = wv at *
   try simp only [sA, sZ, sS]
   refine rd1 18 (by kernel_rfl) rfl fun K hK => ?_
   go_simp
   refine cM (I6.out _) ?_
   rintro r wn ⟨X12, rfl, p12, O12, bN⟩
   replace R := nT R bN
   replace i11 := i11.keep bN
   have i12 := O12.inT
   clear O12
   clear bN
   refine hK.out _ _ (SS.out _ R) (fun _ => ?_)
   clear hK K
   generalize wn = wv at *
   try simp only [sA, sZ, sS]
   refine wpAnyH_tk (i := 19) (d := some 53) (v := ivT X11 X12) rfl rfl (by kernel_rfl) (by kernel_rfl) (by kernel_rfl) (fun _ _ _ h => h) (Or.inl ⟨by rfl, ?_⟩) (SS.out _ R) ?_
   ·intro ww hS
    clear hS
    go_simp
    try with_reducible rfl
   try simp only [Act.put, sA, sZ, sS]
   refine rd1 20 (by kernel_rfl) rfl fun K hK => ?_
   go_simp
   refine cM (be_same X9 X10 X11 X12 _ _ _ p9.isP p10.isP p11.isP p12.isP (i9.keep R) (i10.keep R) i11 i12) ?_
   rintro r wn ⟨rfl, bN⟩
   replace R := nT R bN
   clear i11 i12
   clear bN
   refine hK.out _ _ (SS.out _ R) (fun _ => ?_)
   clear hK K
   generalize wn = wv at *
   try simp only [sA, sZ, sS]
   refine rd1 21 (by kernel_rfl) rfl fun K hK => ?_
   go_simp
   refine hK.out _ _ (SS.out _ R) (fun _ => ?_)
   clear hK K
   try simp only [sA, sZ, sS]
   refine rd1 22 (by kernel_rfl) rfl fun K hK => ?_
   go_simp
   refine hK.out _ _ (SS.out _ R) (fun _ => ?_)
   clear hK K
   try simp only [sA, sZ, sS]
   refine rd1 23 (by kernel_rfl) rfl fun K hK => ?_
   go_simp
   refine hK.out _ _ (SS.out _ R) (fun _ => ?_)
   clear hK K
   try simp only [sA, sZ, sS]
   refine rd1 24 (by kernel_rfl) rfl fun K hK => ?_
   go_simp
   refine hK.out _ _ (SS.out _ R) (fun _ => ?_)
   clear hK K
   try simp only [sA, sZ, sS]
   refine rd1 25 (by kernel_rfl) rfl fun K hK => ?_
   go_simp
   refine hK.out _ _ (SS.out _ R) (fun _ => ?_)
   clear hK K
   try simp only [sA, sZ, sS]
   refine rd1 26 (by kernel_rfl) rfl fun K hK => ?_
   go_simp
   refine hK.out _ _ (SS.out _ R) (fun _ => ?_)
   clear hK K
   try simp only [sA, sZ, sS]
   refine rd1 27 (by kernel_rfl) rfl fun K hK => ?_
   go_simp
   refine hK.out _ _ (SS.out _ R) (fun _ => ?_)
   clear hK K
   try simp only [sA, sZ, sS]
   refine rd1 28 (by kernel_rfl) rfl fun K hK => ?_
   go_simp
   refine hK.out _ _ (SS.out _ R) (fun _ => ?_)
   clear hK K
   try simp only [sA, sZ, sS]
   refine rd1 29 (by kernel_rfl) rfl fun K hK => ?_
   go_simp
   refine hK.out _ _ (SS.out _ R) (fun _ => ?_)
   clear hK K
   try simp only [sA, sZ, sS]
   refine wpAnyH_tk (i := 30) (d := some 64) (v := ivT X5 X6) rfl rfl (by kernel_rfl) (by kernel_rfl) (by kernel_rfl) (fun _ _ _ h => h) (Or.inl ⟨by rfl, ?_⟩) (SS.out _ R) ?_
   ·intro ww hS
    obtain ⟨⟨q0, q1, q2, q3, q4, q5⟩, p0, p1, p2, p3, p4, p5⟩ := id hS
    clear hS
    go_simp
    try with_reducible rfl
   try simp only [Act.put, sA, sZ, sS]
   refine wpAnyH_tk (i := 31) (d := some 65) (v := ivT X5 X6) rfl rfl (by kernel_rfl) (by kernel_rfl) (by kernel_rfl) (fun _ _ _ h => h) (Or.inl ⟨by rfl, ?_⟩) (SS.out _ R) ?_
   ·intro ww hS
    obtain ⟨⟨q0, q1, q2, q3, q4, q5⟩, p0, p1, p2, p3, p4, p5⟩ := id hS
    clear hS
    go_simp
    try with_reducible rfl
   try simp only [Act.put, sA, sZ, sS]
   refine rd1 32 (by kernel_rfl) rfl fun K hK => ?_
   go_simp
   refine cM (be_meets X5 X6 _ p5 p6 (i5.keep R) (i6.keep R) (tt.kept R)) ?_
   rintro r wn ⟨rfl, bN⟩
   replace R := nT R bN
   clear bN
   refine hK.out _ _ (SS.out _ R) (fun _ => ?_)
   clear hK K
   generalize wn = wv at *
   try simp only [sA, sZ, sS]
   refine rd1 33 (by kernel_rfl) rfl fun K hK => ?_
   go_simp
   refine hK.out _ _ (SS.out _ R) (fun _ => ?_)
   clear hK K
   try simp only [sA, sZ, sS]
   refine rd1 34 (by kernel_rfl) rfl fun K hK => ?_
   go_simp
   refine hK.out _ _ (SS.out _ R) (fun _ => ?_)
   clear hK K
   try simp only [sA, sZ, sS]
   refine wpAnyH_done (by kernel_rfl) ?_ _
   replace bA := nT bA R
   go_wp2_with fail
   go_ret
   exact ⟨rfl, bA⟩
end Go.Proofs.YtahpdcbmekgkfaaGreatDoor
