/- Intervals' cells, answers, as one fact each. The document's intervals: room; Canon. Package ival: less an enclosure, an enclosure cut. Package ival: an enclosure times a power of two. A step of a drawn region whose temp is named. -/
import Derived.Test.YtahpdcbmekgkfaaGreatDoorTMP
import Derived.Test.YtahpdcbmekgkfaaGreatDoorIVR
import Derived.Test.YtahpdcbmekgkfaaGreatDoorCR
import Derived.Test.YtahpdcbmekgkfaaGreatDoorTMO
import Derived.Test.YtahpdcbmekgkfaaGreatDoorFX
import Derived.Test.YtahpdcbmekgkfaaGreatDoorTMQ

namespace Go.Proofs.YtahpdcbmekgkfaaGreatDoor
open Go.RowKit
abbrev obT (x y : DT) : Obj := .cells #[.bool x.1, .slice x.2.1 x.2.2.1 x.2.2.2.1, .int .i64 x.2.2.2.2.2, .bool y.1, .slice y.2.1 y.2.2.1 y.2.2.2.1, .int .i64 y.2.2.2.2.2] 27
abbrev obZ : Obj := .cells #[.bool false, .slice none 0 0, .int .i64 0, .bool false, .slice none 0 0, .int .i64 0] 27
def AtT (b : Nat) (x y : DT) (w : World) : Prop := AtI b (.bool x.1) (.slice x.2.1 x.2.2.1 x.2.2.2.1) (.int .i64 x.2.2.2.2.2) (.bool y.1) (.slice y.2.1 y.2.2.1 y.2.2.2.1) (.int .i64 y.2.2.2.2.2) w
theorem AtT.keep {b : Nat} {x y : DT} {w w' : World} (h : AtT b x y w) (r : Below w.heap.size w w') : AtT b x y w' := AtI.keep h r
theorem att_new (x y : DT) (w : World) : AtT w.heap.size x y (w.alloc (obT x y)) := by
 refine ⟨?_, ?_, ?_, ?_, ?_, ?_⟩ <;> go_simp
def FzI (b : Nat) (w : World) : Prop := w.frozen? ⟨b, 0, none⟩ = false ∧ w.frozen? ⟨b, 1, none⟩ = false ∧ w.frozen? ⟨b, 2, none⟩ = false ∧ w.frozen? ⟨b, 3, none⟩ = false ∧ w.frozen? ⟨b, 4, none⟩ = false ∧ w.frozen? ⟨b, 5, none⟩ = false
theorem AtT.frozen {b : Nat} {x y : DT} {w w' : World} (h : AtT b x y w) (f : FzI b w) (r : Below w.heap.size w w') : FzI b w' := by
 obtain ⟨z0, z1, z2, z3, z4, z5⟩ := h
 obtain ⟨f0, f1, f2, f3, f4, f5⟩ := f
 exact ⟨kF r z0 f0, kF r z1 f1, kF r z2 f2, kF r z3 f3, kF r z4 f4, kF r z5 f5⟩
def zDT : DT := (false, none, 0, 0, [], 0)
def ZI (b : Nat) (w : World) : Prop := AtT b zDT zDT w ∧ FzI b w
theorem ZI.keep {b : Nat} {w w' : World} (h : ZI b w) (r : Below w.heap.size w w') : ZI b w' := ⟨h.1.keep r, h.1.frozen h.2 r⟩
theorem zi_new (w : World) : ZI w.heap.size (w.alloc obZ) := by
 refine ⟨⟨?_, ?_, ?_, ?_, ?_, ?_⟩, ?_, ?_, ?_, ?_, ?_, ?_⟩ <;> go_simp <;> (first | rfl | exact ⟨rfl, rfl, rfl⟩)
theorem fz_new (x y : DT) (w : World) : FzI w.heap.size (w.alloc (obT x y)) := by
 refine ⟨?_, ?_, ?_, ?_, ?_, ?_⟩ <;> go_simp
def At3 (b o o1 o2 : Nat) (z : DT) (w : World) : Prop := w.cell? ⟨b, o, none⟩ = some (.bool z.1) ∧ w.cell? ⟨b, o1, none⟩ = some (.slice z.2.1 z.2.2.1 z.2.2.2.1) ∧ w.cell? ⟨b, o2, none⟩ = some (.int .i64 z.2.2.2.2.2)
theorem At3.keep {b o o1 o2 : Nat} {z : DT} {w w' : World} (h : At3 b o o1 o2 z w) (r : Below w.heap.size w w') : At3 b o o1 o2 z w' := ⟨kC r h.1, kC r h.2.1, kC r h.2.2⟩
abbrev obD (x : DT) : Obj := .cells #[.bool x.1, .slice x.2.1 x.2.2.1 x.2.2.2.1, .int .i64 x.2.2.2.2.2] 25
theorem at3_new (x : DT) (w : World) : At3 w.heap.size 0 1 2 x (w.alloc (obD x)) := by
 refine ⟨?_, ?_, ?_⟩ <;> go_simp
theorem bodies {w wA : World} {b : Nat} (A : Below wA.heap.size wA w) (lb : wA.heap.size ≤ b) (v0 v1 v2 v3 v4 v5 : Value) : Below wA.heap.size wA ((((((w.setCell ⟨b, 0, none⟩ v0).setCell ⟨b, 1, none⟩ v1).setCell ⟨b, 2, none⟩ v2).setCell ⟨b, 3, none⟩ v3).setCell ⟨b, 4, none⟩ v4).setCell ⟨b, 5, none⟩ v5) := by
 repeat (first | (with_reducible exact A) | (with_reducible refine Below.setCell ?_ (by simpa using lb) _))
def ZD (b : Nat) (w : World) : Prop := At3 b 0 1 2 zDT w ∧ (w.frozen? ⟨b, 0, none⟩ = false ∧ w.frozen? ⟨b, 1, none⟩ = false ∧ w.frozen? ⟨b, 2, none⟩ = false)
theorem ZD.keep {b : Nat} {w w' : World} (h : ZD b w) (r : Below w.heap.size w w') : ZD b w' := by
 obtain ⟨⟨z0, z1, z2⟩, f0, f1, f2⟩ := id h
 exact ⟨h.1.keep r, kF r z0 f0, kF r z1 f1, kF r z2 f2⟩
theorem zd_new (w : World) : ZD w.heap.size (w.alloc (.cells #[.bool false, .slice none 0 0, .int .i64 0] 25)) := by
 refine ⟨⟨?_, ?_, ?_⟩, ?_, ?_, ?_⟩ <;> go_simp <;> (first | rfl | exact ⟨rfl, rfl, rfl⟩)
theorem cell_other {W : World} {b r o k : Nat} {x : Value} (h : W.cell? ⟨b, o, none⟩ = some x) (ne : r ≠ b) (u : Value) : (W.setCell ⟨r, k, none⟩ u).cell? ⟨b, o, none⟩ = some x :=
 (World.cell?_setCell_other W _ _ _ (fun e => by have := congrArg Addr.block e; simp at this; omega)).trans h
theorem At3.three {b r o o1 o2 : Nat} {z : DT} {w : World} (h : At3 b o o1 o2 z w) (ne : r ≠ b) (v0 v1 v2 : Value) : At3 b o o1 o2 z (((w.setCell ⟨r, 0, none⟩ v0).setCell ⟨r, 1, none⟩ v1).setCell ⟨r, 2, none⟩ v2) :=
 ⟨cell_other (cell_other (cell_other h.1 ne _) ne _) ne _, cell_other (cell_other (cell_other h.2.1 ne _) ne _) ne _, cell_other (cell_other (cell_other h.2.2 ne _) ne _) ne _⟩
theorem At3.six {b r o o1 o2 : Nat} {z : DT} {w : World} (h : At3 b o o1 o2 z w) (ne : b ≠ r) (v0 v1 v2 v3 v4 v5 : Value) : At3 b o o1 o2 z ((((((w.setCell ⟨r, 0, none⟩ v0).setCell ⟨r, 1, none⟩ v1).setCell ⟨r, 2, none⟩ v2).setCell ⟨r, 3, none⟩ v3).setCell ⟨r, 4, none⟩ v4).setCell ⟨r, 5, none⟩ v5) := by
 have k : ∀ {oo : Nat} {x : Value}, w.cell? ⟨b, oo, none⟩ = some x → ((((((w.setCell ⟨r, 0, none⟩ v0).setCell ⟨r, 1, none⟩ v1).setCell ⟨r, 2, none⟩ v2).setCell ⟨r, 3, none⟩ v3).setCell ⟨r, 4, none⟩ v4).setCell ⟨r, 5, none⟩ v5).cell? ⟨b, oo, none⟩ = some x := fun q => cell_other (cell_other (cell_other (cell_other (cell_other (cell_other q ne.symm _) ne.symm _) ne.symm _) ne.symm _) ne.symm _) ne.symm _
 exact ⟨k h.1, k h.2.1, k h.2.2⟩
def isP (x : DT) (P : Bool × Nat × Int) : Prop := x.1 = P.1 ∧ x.2.2.2.2.1 = wO P.2.1 ∧ x.2.2.2.2.2 = P.2.2
def ownT (B : Nat) (w : World) (x : DT) : Prop := OwnW B w x.2.1 x.2.2.1 x.2.2.2.1 x.2.2.2.2.1 ∧ x.2.2.1 ≤ 17592186044000
theorem ownT.keep {B : Nat} {w w' : World} {x : DT} (h : ownT B w x) (b : Below w.heap.size w w') : ownT B w' x := ⟨h.1.keep b, h.2⟩
theorem ownT.inT {B : Nat} {w : World} {x : DT} (h : ownT B w x) : inT w x := ⟨h.1.1, h.2⟩
def IvA (B : Nat) (w : World) (v : Value) (R : Int × (Bool × Nat × Int) × (Bool × Nat × Int)) : Prop := ∃ X Y : DT, v = .tuple #[ivT X Y, .int .i64 R.1] ∧ isP X R.2.1 ∧ isP Y R.2.2 ∧ ownT B w X ∧ ownT B w Y
theorem ivA_of {B : Nat} {w : World} {E : Int} {L H : Bool × Nat × Int} {al ah : Option Addr} {nl cl nh ch : Nat} (h1 : nl ≤ 1024) (h2 : nh ≤ 1024) (O1 : OwnW B w al nl cl (wO L.2.1)) (O2 : OwnW B w ah nh ch (wO H.2.1)) : IvA B w (.tuple #[ivI L.1 al nl cl L.2.2 H.1 ah nh ch H.2.2, .int .i64 E]) (E, L, H) :=
 ⟨(L.1, al, nl, cl, wO L.2.1, L.2.2), (H.1, ah, nh, ch, wO H.2.1, H.2.2), rfl, ⟨rfl, rfl, rfl⟩, ⟨rfl, rfl, rfl⟩, ⟨O1, by show nl ≤ _; omega⟩, ⟨O2, by show nh ≤ _; omega⟩⟩
def nilR (k : Int) : Int × (Bool × Nat × Int) × (Bool × Nat × Int) := (k, (false, 0, 0), (false, 0, 0))
theorem ivA_nil (B : Nat) (w : World) (k : Int) : IvA B w (.tuple #[zIvI, .int .i64 k]) (nilR k) :=
 ⟨zDT, zDT, rfl, ⟨rfl, words_zero.symm, rfl⟩, ⟨rfl, words_zero.symm, rfl⟩, ⟨ownW_nil _ _, by decide⟩, ⟨ownW_nil _ _, by decide⟩⟩
def roomR (L H : Bool × Nat × Int) : Int × (Bool × Nat × Int) × (Bool × Nat × Int) := if (roomB L && roomB H) = true then (0, L, H) else nilR 3
def flT (x : DT) : DT := (!x.1, x.2)
theorem flT.keep {w : World} {x : DT} (h : inT w x) : inT w (flT x) := h
theorem six_zi {b : Nat} {w : World} (h : ZI b w) : ∀ i, i < 6 → ∃ x, w.cell? ⟨b, i, none⟩ = some x ∧ ∀ j : Int, x ≠ .int .u64 j := by
 obtain ⟨z0, z1, z2, z3, z4, z5⟩ := h.1
 exact six_ofI z0 z1 z2 z3 z4 z5 (fun _ q => by cases q) (fun _ q => by cases q) (fun _ q => by cases q) (fun _ q => by cases q) (fun _ q => by cases q) (fun _ q => by cases q)
theorem ownT.six {B b : Nat} {w : World} {x : DT} (h : ownT B w x) (z : ZI b w) (v0 v1 v2 v3 v4 v5 : Value) : ownT B ((((((w.setCell ⟨b, 0, none⟩ v0).setCell ⟨b, 1, none⟩ v1).setCell ⟨b, 2, none⟩ v2).setCell ⟨b, 3, none⟩ v3).setCell ⟨b, 4, none⟩ v4).setCell ⟨b, 5, none⟩ v5) x := ⟨ownW_sixI h.1 (six_zi z) _ _ _ _ _ _, h.2⟩
theorem cn_words (x y : DT) : cnE x.1 (val x.2.2.2.2.1) x.2.2.2.2.2 y.1 (val y.2.2.2.2.1) y.2.2.2.2.2 = if rtT x y = true then (if (roomB (formD x.1 (val x.2.2.2.2.1) x.2.2.2.2.2) && roomB (formD y.1 (val y.2.2.2.2.1) y.2.2.2.2.2)) = true then 0 else 3) else 2 := by
 by_cases h : rtT x y = true
 ·have b := rt_both h
  have h2 : rtI x.1 (val x.2.2.2.2.1) x.2.2.2.2.2 y.1 (val y.2.2.2.2.1) y.2.2.2.2.2 = true := h
  unfold cnE canE
  rw [if_pos h2, if_pos b.1, if_pos b.2, if_pos h]
  unfold roomE
  cases roomB (formD x.1 (val x.2.2.2.2.1) x.2.2.2.2.2) <;> cases roomB (formD y.1 (val y.2.2.2.2.1) y.2.2.2.2.2) <;> rfl
 ·have h2 : ¬ rtI x.1 (val x.2.2.2.2.1) x.2.2.2.2.2 y.1 (val y.2.2.2.2.1) y.2.2.2.2.2 = true := h
  unfold cnE
  rw [if_neg h2, if_neg h]
theorem cn_words2 (x y : DT) (h : rtT x y = true) (q : (roomB (formD x.1 (val x.2.2.2.2.1) x.2.2.2.2.2) && roomB (formD y.1 (val y.2.2.2.2.1) y.2.2.2.2.2)) = true) : cnL x.1 (val x.2.2.2.2.1) x.2.2.2.2.2 y.1 (val y.2.2.2.2.1) y.2.2.2.2.2 = (formD x.1 (val x.2.2.2.2.1) x.2.2.2.2.2) ∧ cnH x.1 (val x.2.2.2.2.1) x.2.2.2.2.2 y.1 (val y.2.2.2.2.1) y.2.2.2.2.2 = (formD y.1 (val y.2.2.2.2.1) y.2.2.2.2.2) := by
 have e : cnE x.1 (val x.2.2.2.2.1) x.2.2.2.2.2 y.1 (val y.2.2.2.2.1) y.2.2.2.2.2 = 0 := by rw [cn_words x y, if_pos h, if_pos q]
 have b := rt_both h
 rw [Bool.and_eq_true] at q
 unfold cnL cnH canP
 rw [if_pos e, if_pos e, if_pos b.1, if_pos b.2]
 unfold roomP
 rw [if_pos q.1, if_pos q.2]
 exact ⟨rfl, rfl⟩
set_option maxRecDepth 100000 in
set_option maxHeartbeats 4000000 in
theorem vRoom_calls (x y : DT) (w : World) (hx : inT w x) (hy : inT w y) :
  Calls Tryz.prog 39 #[ivT x y] w fun r w' => r = .returned (if (rgT x && rgT y) = true then .tuple #[ivT x y, .int .i64 0] else .tuple #[zIvI, .int .i64 3]) ∧ Below w.heap.size w w' := by
 have bA : Below w.heap.size w ((w.alloc (.cells #[.bool x.1, .slice x.2.1 x.2.2.1 x.2.2.2.1, .int .i64 x.2.2.2.2.2, .bool y.1, .slice y.2.1 y.2.2.1 y.2.2.2.1, .int .i64 y.2.2.2.2.2] 27)).alloc (.cells #[.bool false, .slice none 0 0, .int .i64 0, .bool false, .slice none 0 0, .int .i64 0] 27)) := nT (below_one _ _) (below_one _ _)
 obtain ⟨k0, k1, k2, k3, k4, k5, z0, f0, z1, f1, z2, f2, z3, f3, z4, f4, z5, f5⟩ := fX11 w x y _ rfl
 have H1 : Hid _ := fun w' (q : IsW w' x.2.1 x.2.2.1 x.2.2.2.1 x.2.2.2.2.1) => qRight_calls x.1 x.2.1 x.2.2.1 x.2.2.2.1 x.2.2.2.2.1 x.2.2.2.2.2 w' q (by have := hx.2; omega)
 have H2 : Hid _ := fun w' (q : IsW w' y.2.1 y.2.2.1 y.2.2.2.1 y.2.2.2.2.1) => qRight_calls y.1 y.2.1 y.2.2.1 y.2.2.2.1 y.2.2.2.2.1 y.2.2.2.2.2 w' q (by have := hy.2; omega)
 have g1 : rightB (val x.2.2.2.2.1) x.2.2.2.2.2 = rgT x := rfl
 have g2 : rightB (val y.2.2.2.2.1) y.2.2.2.2.2 = rgT y := rfl
 rw [g1] at H1
 rw [g2] at H2
 generalize rgT x = r1 at *
 generalize rgT y = r2 at *
 have hI := IsW.keep hx.1 bA
 have hJ := IsW.keep hy.1 bA
 clear g1 g2 hx hy
 go_enter Tryz.func39, Tryz.ntmps39
 go_wp2_with fail
 generalize ((w.alloc (.cells #[.bool x.1, .slice x.2.1 x.2.2.1 x.2.2.2.1, .int .i64 x.2.2.2.2.2, .bool y.1, .slice y.2.1 y.2.2.1 y.2.2.2.1, .int .i64 y.2.2.2.2.2] 27)).alloc (.cells #[.bool false, .slice none 0 0, .int .i64 0, .bool false, .slice none 0 0, .int .i64 0] 27)) = w0 at *
 refine Calls.mono (H1.out _ hI) ?_
 rintro r w1 ⟨rfl, bN⟩
 revert z0 f0 z1 f1 z2 f2 z3 f3 z4 f4 z5 f5; refine zf6 bN ?_; intro z0 f0 z1 f1 z2 f2 z3 f3 z4 f4 z5 f5
 revert k0 k1 k2 k3 k4 k5; refine cc6 bN ?_; intro k0 k1 k2 k3 k4 k5
 replace hI := hI.keep bN
 replace hJ := hJ.keep bN
 replace bA := nT bA bN
 clear bN
 cases r1
 ·go_wp2_with fail
  exact bodyPost_ret (v := .tuple #[zIvI, .int .i64 3]) (by simp [results, Tryz.results39, go_sem, z0, z1, z2, z3, z4, z5]) rfl ⟨by first | rfl | simp, by repeat (first | (with_reducible exact bA) | (with_reducible refine Below.setCell ?_ (by simp; try omega) _))⟩
 go_wp2_with fail
 refine Calls.mono (H2.out _ hJ) ?_
 rintro r w2 ⟨rfl, bN⟩
 revert z0 f0 z1 f1 z2 f2 z3 f3 z4 f4 z5 f5; refine zf6 bN ?_; intro z0 f0 z1 f1 z2 f2 z3 f3 z4 f4 z5 f5
 revert k0 k1 k2 k3 k4 k5; refine cc6 bN ?_; intro k0 k1 k2 k3 k4 k5
 replace hI := hI.keep bN
 replace hJ := hJ.keep bN
 replace bA := nT bA bN
 clear bN
 cases r2
 ·go_wp2_with fail
  exact bodyPost_ret (v := .tuple #[zIvI, .int .i64 3]) (by simp [results, Tryz.results39, go_sem, z0, z1, z2, z3, z4, z5]) rfl ⟨by first | rfl | simp, by repeat (first | (with_reducible exact bA) | (with_reducible refine Below.setCell ?_ (by simp; try omega) _))⟩
 go_wp2_with fail
 exact bodyPost_ret (v := .tuple #[ivT x y, .int .i64 0]) (by simp [results, Tryz.results39, go_sem, z0, z1, z2, z3, z4, z5]) rfl ⟨by first | rfl | simp, by repeat (first | (with_reducible exact bA) | (with_reducible refine Below.setCell ?_ (by simp; try omega) _))⟩
set_option maxHeartbeats 2000000
set_option maxRecDepth 100000
theorem turned_calls (x y : DT) (w : World) :
  Calls Tryz.prog 94 #[ivT x y] w fun r w' => r = .returned (ivT (flT y) (flT x)) ∧ Below w.heap.size w w' := by
 go_enter Tryz.func94, Tryz.ntmps94
 go_wp2_with fail
 exact bodyPost_ret (v := ivT (flT y) (flT x)) (by simp [results, Tryz.results94, go_sem, flT]) rfl ⟨rfl, nT (below_one _ _) (below_one _ _)⟩
def cnR (x y : DT) : Int × (Bool × Nat × Int) × (Bool × Nat × Int) := (cnE x.1 (val x.2.2.2.2.1) x.2.2.2.2.2 y.1 (val y.2.2.2.2.1) y.2.2.2.2.2, cnL x.1 (val x.2.2.2.2.1) x.2.2.2.2.2 y.1 (val y.2.2.2.2.1) y.2.2.2.2.2, cnH x.1 (val x.2.2.2.2.1) x.2.2.2.2.2 y.1 (val y.2.2.2.2.1) y.2.2.2.2.2)
theorem canonR_calls (x y : DT) (w : World) (hx : inT w x) (hy : inT w y) (hT : Tab w) :
  Calls Tryz.prog 38 #[ivT x y] w fun r w' => ∃ v, r = .returned v ∧ IvA w.heap.size w' v (cnR x y) ∧ Below w.heap.size w w' := by
 refine (icanon_calls x.1 x.2.1 x.2.2.1 x.2.2.2.1 x.2.2.2.2.1 x.2.2.2.2.2 y.1 y.2.1 y.2.2.1 y.2.2.2.1 y.2.2.2.2.1 y.2.2.2.2.2 w hx.1 hx.2 hy.1 hy.2 hT).mono ?_
 rintro r w' ⟨al, nl, cl, ah, nh, ch, rfl, h1, h2, O1, O2, hb⟩
 exact ⟨_, rfl, ivA_of h1 h2 O1 O2, hb⟩
theorem iNeg_calls (x y : DT) (w : World) (hx : inT w x) (hy : inT w y) (hT : Tab w) :
  Calls Tryz.prog 50 #[ivT x y] w fun r w' => ∃ v, r = .returned v ∧ IvA w.heap.size w' v (cnR (flT y) (flT x)) ∧ Below w.heap.size w w' := by
 have A := att_new x y w
 have b1 := below_one w (obT x y)
 have Z := zi_new (w.alloc (obT x y))
 have b2 := below_one (w.alloc (obT x y)) obZ
 replace A := A.keep b2
 have bA := nT b1 b2
 rw [show (w.alloc (obT x y)).heap.size = w.heap.size + 1 by simp] at Z
 have CC : Hid (∀ W, inT W (flT y) → inT W (flT x) → Tab W → _) := fun W i j t => canonR_calls (flT y) (flT x) W i j t
 generalize cnR (flT y) (flT x) = R at *
 clear b1 b2
 go_enter Tryz.func50, Tryz.ntmps50
 go_upto_region 1 with fail
 generalize (w.alloc (obT x y)).alloc obZ = wA at *
 obtain ⟨k0, k1, k2, k3, k4, k5⟩ := A
 go_wp2_with fail
 refine cM (turned_calls x y _) ?_
 rintro r w1 ⟨rfl, bN⟩
 replace Z := Z.keep bN
 replace bA := nT bA bN
 clear bN k0 k1 k2 k3 k4 k5
 have sA := bA.size
 go_wp2_with fail
 refine cM (CC.out _ (hy.keep bA) (hx.keep bA) (hT.kept bA)) ?_
 rintro r w2 ⟨v, rfl, ⟨X, Y, rfl, pX, pY, oX, oY⟩, bN⟩
 replace Z := Z.keep bN
 replace bA := nT bA bN
 replace oX : ownT w.heap.size w2 X := ⟨oX.1.low sA, oX.2⟩
 replace oY : ownT w.heap.size w2 Y := ⟨oY.1.low sA, oY.2⟩
 have ZZ : Hid (ZI (w.heap.size + 1) w2) := Z
 obtain ⟨⟨z0, z1, z2, z3, z4, z5⟩, f0, f1, f2, f3, f4, f5⟩ := Z
 clear bN
 go_wp2_with fail
 exact bodyPost_ret (v := .tuple #[ivT X Y, .int .i64 R.1]) (by simp [results, Tryz.results50, go_sem, z0, z1, z2, z3, z4, z5]) rfl ⟨_, rfl, ⟨X, Y, rfl, pX, pY, oX.six ZZ.out _ _ _ _ _ _, oY.six ZZ.out _ _ _ _ _ _⟩, by repeat (first | (with_reducible exact bA) | (with_reducible refine Below.setCell ?_ (by simp) _))⟩
theorem rt_rg2 {x y : DT} (h : rtT x y = true) : rgT x = true ∧ rgT y = true := by
 unfold rtT rtI at h
 rw [Bool.and_eq_true, Bool.and_eq_true] at h
 exact h.1
def owR (x y : DT) (p : Int) : Int × (Bool × Nat × Int) × (Bool × Nat × Int) := (owE x.1 (val x.2.2.2.2.1) x.2.2.2.2.2 y.1 (val y.2.2.2.2.1) y.2.2.2.2.2 p, owL x.1 (val x.2.2.2.2.1) x.2.2.2.2.2 y.1 (val y.2.2.2.2.1) y.2.2.2.2.2 p, owH x.1 (val x.2.2.2.2.1) x.2.2.2.2.2 y.1 (val y.2.2.2.2.1) y.2.2.2.2.2 p)
def cuR (x y : DT) (p : Int) : Int × (Bool × Nat × Int) × (Bool × Nat × Int) := if (rtT x y && (decide (1 ≤ p) && decide (p ≤ 8192))) = true then owR x y p else nilR 2
theorem iCut_calls (x y : DT) (p : Int) (w : World) (hx : inT w x) (hy : inT w y) (hT : Tab w) :
  Calls Tryz.prog 52 #[ivT x y, .int .i64 p] w fun r w' => ∃ v, r = .returned v ∧ IvA w.heap.size w' v (cuR x y p) ∧ Below w.heap.size w w' := by
 have A := att_new x y w
 have b1 := below_one w (obT x y)
 have Z := zi_new (w.alloc (obT x y))
 have b2 := below_one (w.alloc (obT x y)) obZ
 have b3 := below_one ((w.alloc (obT x y)).alloc obZ) (obT x y)
 have A3 := att_new x y ((w.alloc (obT x y)).alloc obZ)
 replace A := (A.keep b2).keep b3
 replace Z := Z.keep b3
 have bA := nT (nT b1 b2) b3
 rw [show (w.alloc (obT x y)).heap.size = w.heap.size + 1 by simp] at Z
 rw [show ((w.alloc (obT x y)).alloc obZ).heap.size = w.heap.size + 1 + 1 by simp] at A3
 have RC : Hid (∀ B W, inT W x → inT W y → AtT B x y W → Tab W → Calls Tryz.prog 63 #[.slice (some ⟨B, 0, none⟩) 1 1] W fun r w' => r = .returned (.bool (rtT x y)) ∧ Below W.heap.size W w') := fun B W i j a t => iright1_calls x.1 x.2.1 x.2.2.1 x.2.2.2.1 x.2.2.2.2.1 x.2.2.2.2.2 y.1 y.2.1 y.2.2.1 y.2.2.2.1 y.2.2.2.2.1 y.2.2.2.2.2 B W i.1 i.2 j.1 j.2 a.1 a.2.1 a.2.2.1 a.2.2.2.1 a.2.2.2.2.1 a.2.2.2.2.2 t
 have OC : Hid (∀ W, inT W x → inT W y → Tab W → rtT x y = true → 1 ≤ p → p ≤ 8192 → Calls Tryz.prog 66 #[ivT x y, .int .i64 p] W fun r w' => ∃ v, r = .returned v ∧ IvA W.heap.size w' v (owR x y p) ∧ Below W.heap.size W w') := fun W i j t hr h1 h2 => by
  obtain ⟨r1, r2⟩ := rt_rg2 hr
  obtain ⟨g1, e1⟩ := rightB_yes r1
  obtain ⟨g2, e2⟩ := rightB_yes r2
  refine (outward_calls x.1 x.2.1 x.2.2.1 x.2.2.2.1 x.2.2.2.2.1 x.2.2.2.2.2 y.1 y.2.1 y.2.2.1 y.2.2.2.1 y.2.2.2.2.1 y.2.2.2.2.2 p W i.1 i.2 g1 (by omega) j.1 j.2 g2 (by omega) (by omega) t).mono ?_
  rintro r w' ⟨al, nl, cl, ah, nh, ch, rfl, q1, q2, O1, O2, hb⟩
  exact ⟨_, rfl, ivA_of q1 q2 O1 O2, hb⟩
 have E1 : Hid (rtT x y = true → (decide (1 ≤ p) && decide (p ≤ 8192)) = true → cuR x y p = owR x y p) := fun a b => by unfold cuR; rw [a, b]; rfl
 have E2 : Hid (rtT x y = true → (decide (1 ≤ p) && decide (p ≤ 8192)) = false → cuR x y p = nilR 2) := fun a b => by unfold cuR; rw [a, b]; rfl
 have E3 : Hid (rtT x y = false → cuR x y p = nilR 2) := fun a => by unfold cuR; rw [a]; rfl
 generalize cuR x y p = RR at *
 generalize owR x y p = R at *
 clear b1 b2 b3
 go_enter Tryz.func52, Tryz.ntmps52
 go_wp2_with fail
 generalize ((w.alloc (obT x y)).alloc obZ).alloc (obT x y) = wA at *
 refine cM (RC.out _ _ (hx.keep bA) (hy.keep bA) A3 (hT.kept bA)) ?_
 rintro r w1 ⟨rfl, bN⟩
 replace A := A.keep bN
 replace Z := Z.keep bN
 replace bA := nT bA bN
 clear bN A3 RC
 obtain ⟨k0, k1, k2, k3, k4, k5⟩ := A
 by_cases hr : rtT x y = true
 ·rw [hr]
  by_cases hp : (decide (1 ≤ p) && decide (p ≤ 8192)) = true
  ·have hp2 := hp
   rw [Bool.and_eq_true, decide_eq_true_eq, decide_eq_true_eq] at hp2
   have OC2 : Hid (∀ W, inT W x → inT W y → Tab W → _) := fun W i j t => OC.out W i j t hr hp2.1 hp2.2
   have HP : Hid _ := hp
   clear hp hp2 OC
   have HR : Hid (RR = R) := E1.out hr HP.out
   clear E1 E2 E3
   go_wp2_with fail
   refine cM (workable_calls p _) ?_
   rintro r w2 ⟨rfl, rfl⟩
   rw [HP.out]
   go_wp2_with fail
   refine cM (OC2.out _ (hx.keep bA) (hy.keep bA) (hT.kept bA)) ?_
   rintro r w3 ⟨v, rfl, ⟨X, Y, rfl, pX, pY, oX, oY⟩, bN⟩
   have sA := bA.size
   replace Z := Z.keep bN
   replace bA := nT bA bN
   replace oX : ownT w.heap.size w3 X := ⟨oX.1.low sA, oX.2⟩
   replace oY : ownT w.heap.size w3 Y := ⟨oY.1.low sA, oY.2⟩
   have ZZ : Hid (ZI (w.heap.size + 1) w3) := Z
   obtain ⟨⟨z0, z1, z2, z3, z4, z5⟩, f0, f1, f2, f3, f4, f5⟩ := Z
   clear bN k0 k1 k2 k3 k4 k5
   go_wp2_with fail
   exact bodyPost_ret (v := .tuple #[ivT X Y, .int .i64 R.1]) (by simp [results, Tryz.results52, go_sem, z0, z1, z2, z3, z4, z5]) rfl ⟨_, rfl, by rw [HR.out]; exact ⟨X, Y, rfl, pX, pY, oX.six ZZ.out _ _ _ _ _ _, oY.six ZZ.out _ _ _ _ _ _⟩, by repeat (first | (with_reducible exact bA) | (with_reducible refine Below.setCell ?_ (by simp) _))⟩
  ·rw [Bool.not_eq_true] at hp
   have HP : Hid _ := hp
   clear hp OC
   have HR : Hid (RR = nilR 2) := E2.out hr HP.out
   clear E1 E2 E3
   have ZZ : Hid (ZI (w.heap.size + 1) w1) := Z
   obtain ⟨⟨z0, z1, z2, z3, z4, z5⟩, f0, f1, f2, f3, f4, f5⟩ := Z
   go_wp2_with fail
   refine cM (workable_calls p _) ?_
   rintro r w2 ⟨rfl, rfl⟩
   rw [HP.out]
   go_wp2_with fail
   exact bodyPost_ret (v := .tuple #[zIvI, .int .i64 2]) (by simp [results, Tryz.results52, go_sem, z0, z1, z2, z3, z4, z5]) rfl ⟨_, rfl, by rw [HR.out]; exact ivA_nil _ _ _, by repeat (first | (with_reducible exact bA) | (with_reducible refine Below.setCell ?_ (by simp) _))⟩
 ·rw [Bool.not_eq_true] at hr
  rw [hr]
  have HR : Hid (RR = nilR 2) := E3.out hr
  clear OC E1 E2 E3
  obtain ⟨⟨z0, z1, z2, z3, z4, z5⟩, f0, f1, f2, f3, f4, f5⟩ := Z
  go_wp2_with fail
  exact bodyPost_ret (v := .tuple #[zIvI, .int .i64 2]) (by simp [results, Tryz.results52, go_sem, z0, z1, z2, z3, z4, z5]) rfl ⟨_, rfl, by rw [HR.out]; exact ivA_nil _ _ _, by repeat (first | (with_reducible exact bA) | (with_reducible refine Below.setCell ?_ (by simp) _))⟩
set_option maxHeartbeats 4000000
set_option maxRecDepth 100000
def shTE (d : DT) (n : Int) : Int := if -65536 ≤ n ∧ n ≤ 65536 then roomE (shiftD (tT d) n) else 2
def shTP (d : DT) (n : Int) : Bool × Nat × Int := if -65536 ≤ n ∧ n ≤ 65536 then roomP (shiftD (tT d) n) else (false, 0, 0)
theorem scl_calls (d : DT) (n : Int) (C : Nat) (w : World) (hd : inT w d) (hr : rgT d = true) (hC : w.cell? ⟨C, 0, none⟩ = some (.int .i64 n)) (hT : Tab w) :
  Calls Tryz.prog 95 #[dT d, .pointer (some ⟨C, 0, none⟩)] w fun r w' => ∃ X : DT, r = .returned (.tuple #[dT X, .int .i64 (shTE d n)]) ∧ isP X (shTP d n) ∧ ownT w.heap.size w' X ∧ Below w.heap.size w w' := by
 have SC : Hid (∀ W, inT W d → Tab W → Calls Tryz.prog 96 #[dT d, .int .i64 n] W fun r w' => ∃ X : DT, r = .returned (.tuple #[dT X, .int .i64 (shTE d n)]) ∧ isP X (shTP d n) ∧ ownT W.heap.size w' X ∧ Below W.heap.size W w') := fun W i t => by
  unfold shTE shTP
  by_cases hn : -65536 ≤ n ∧ n ≤ 65536
  ·rw [if_pos hn, if_pos hn]
   refine (dshift_yes d.1 d.2.1 d.2.2.1 d.2.2.2.1 d.2.2.2.2.1 d.2.2.2.2.2 n W i.1 (by have := i.2; omega) t hn hr).mono ?_
   rintro r w' ⟨v, rfl, ⟨ao, m, c, rfl, h1, h2, h3⟩, hb⟩
   exact ⟨(_, ao, m, c, wO _, _), rfl, ⟨rfl, rfl, rfl⟩, ⟨h3, by show m ≤ _; omega⟩, hb⟩
  ·rw [if_neg hn, if_neg hn]
   refine (dshift_far d.1 d.2.1 d.2.2.1 d.2.2.2.1 d.2.2.2.2.2 n W (by omega)).mono ?_
   rintro r w' ⟨rfl, hb⟩
   exact ⟨zDT, rfl, ⟨rfl, words_zero.symm, rfl⟩, ⟨ownW_nil _ _, by decide⟩, hb⟩
 have A := at3_new d w
 have b1 := below_one w (obD d)
 have b2 := below_one (w.alloc (obD d)) (.cells #[.bool false, .slice none 0 0, .int .i64 0] 25)
 have bA := nT b1 b2
 have Z := zd_new (w.alloc (obD d))
 rw [show (w.alloc (obD d)).heap.size = w.heap.size + 1 by simp] at Z
 have hC2 := kC bA hC
 replace A := A.keep b2
 replace hd := hd.keep bA
 replace hT := hT.kept bA
 generalize shTE d n = E at *
 generalize shTP d n = P at *
 clear b1 b2 hC hr
 go_enter Tryz.func95, Tryz.ntmps95
 go_upto_region 1 with fail
 generalize (w.alloc (obD d)).alloc (.cells #[.bool false, .slice none 0 0, .int .i64 0] 25) = wA at *
 obtain ⟨k0, k1, k2⟩ := A
 have sA := bA.size
 go_wp2_with fail
 refine cM (SC.out _ hd hT) ?_
 rintro r w1 ⟨X, rfl, pX, oX, bN⟩
 obtain ⟨⟨z0, z1, z2⟩, f0, f1, f2⟩ := Z.keep bN
 replace bA := nT bA bN
 clear Z bN k0 k1 k2 SC hC2
 go_wp2_with fail
 exact bodyPost_ret (v := .tuple #[dT X, .int .i64 E]) (by simp [results, Tryz.results95, go_sem, z0, z1, z2]) rfl ⟨X, rfl, pX, ⟨(oX.1.low sA).set_dyI (w.heap.size + 1) _ _ _ _ _ (.bool X.1) (.slice X.2.1 X.2.2.1 X.2.2.2.1) (.int .i64 X.2.2.2.2.2) z0 z1 z2, oX.2⟩, by repeat (first | (with_reducible exact bA) | (with_reducible refine Below.setCell ?_ (by simp) _))⟩
def shR (x y : DT) (n : Int) : Int × (Bool × Nat × Int) × (Bool × Nat × Int) := if rtT x y = true then (if shTE x n ≠ 0 then nilR (shTE x n) else if shTE y n ≠ 0 then nilR (shTE y n) else (0, shTP x n, shTP y n)) else nilR 2
theorem eachShift_calls (x y : DT) (n : Int) (C : Nat) (w : World) (hx : inT w x) (hy : inT w y) (hC : w.cell? ⟨C, 0, none⟩ = some (.int .i64 n)) (hT : Tab w) :
  Calls Tryz.prog 87 #[.func (.func 95) #[] #[.pointer (some ⟨C, 0, none⟩)], ivT x y] w fun r w' => ∃ v, r = .returned v ∧ IvA w.heap.size w' v (shR x y n) ∧ Below w.heap.size w w' := by
 have A := att_new x y w
 have b1 := below_one w (obT x y)
 have Z := zi_new (w.alloc (obT x y))
 have b2 := below_one (w.alloc (obT x y)) obZ
 have b3 := below_one ((w.alloc (obT x y)).alloc obZ) (obT x y)
 have A3 := att_new x y ((w.alloc (obT x y)).alloc obZ)
 replace A := (A.keep b2).keep b3
 replace Z := Z.keep b3
 have bA := nT (nT b1 b2) b3
 rw [show (w.alloc (obT x y)).heap.size = w.heap.size + 1 by simp] at Z
 rw [show ((w.alloc (obT x y)).alloc obZ).heap.size = w.heap.size + 1 + 1 by simp] at A3
 have RC : Hid (∀ B W, inT W x → inT W y → AtT B x y W → Tab W → Calls Tryz.prog 63 #[.slice (some ⟨B, 0, none⟩) 1 1] W fun r w' => r = .returned (.bool (rtT x y)) ∧ Below W.heap.size W w') := fun B W i j a t => iright1_calls x.1 x.2.1 x.2.2.1 x.2.2.2.1 x.2.2.2.2.1 x.2.2.2.2.2 y.1 y.2.1 y.2.2.1 y.2.2.2.1 y.2.2.2.2.1 y.2.2.2.2.2 B W i.1 i.2 j.1 j.2 a.1 a.2.1 a.2.2.1 a.2.2.2.1 a.2.2.2.2.1 a.2.2.2.2.2 t
 have WC : Hid (∀ d : DT, rgT d = true → ∀ W, inT W d → W.cell? ⟨C, 0, none⟩ = some (.int .i64 n) → Tab W → _) := fun d hr W i c t => scl_calls d n C W i hr c t
 have RG : Hid (rtT x y = true → rgT x = true ∧ rgT y = true) := fun h => rt_rg2 h
 have E0 : Hid (rtT x y = false → shR x y n = nilR 2) := fun a => by unfold shR; rw [a]; rfl
 have E1 : Hid (rtT x y = true → shTE x n ≠ 0 → shR x y n = nilR (shTE x n)) := fun a b => by unfold shR; rw [if_pos a, if_pos b]
 have E2 : Hid (rtT x y = true → shTE x n = 0 → shTE y n ≠ 0 → shR x y n = nilR (shTE y n)) := fun a b c => by unfold shR; rw [if_pos a, if_neg (fun e => e b), if_pos c]
 have E3 : Hid (rtT x y = true → shTE x n = 0 → shTE y n = 0 → shR x y n = (0, shTP x n, shTP y n)) := fun a b c => by unfold shR; rw [if_pos a, if_neg (fun e => e b), if_neg (fun e => e c)]
 have W1 : Hid _ := WC.out x
 have W2 : Hid _ := WC.out y
 generalize shR x y n = RR at *
 generalize shTE x n = ex at *
 generalize shTE y n = ey at *
 generalize shTP x n = px at *
 generalize shTP y n = py at *
 have cC := kC bA hC
 clear b1 b2 b3 WC hC
 go_enter Tryz.func87, Tryz.ntmps87
 go_wp2_with fail
 generalize ((w.alloc (obT x y)).alloc obZ).alloc (obT x y) = wA at *
 refine cM (RC.out _ _ (hx.keep bA) (hy.keep bA) A3 (hT.kept bA)) ?_
 rintro r w1 ⟨rfl, bN⟩
 replace A := A.keep bN
 replace Z := Z.keep bN
 replace cC := kC bN cC
 replace bA := nT bA bN
 clear bN A3 RC
 obtain ⟨k0, k1, k2, k3, k4, k5⟩ := A
 by_cases hr : rtT x y = true
 ·obtain ⟨r1, r2⟩ := RG.out hr
  have V1 : Hid _ := W1.out r1
  have V2 : Hid _ := W2.out r2
  rw [hr]
  have HR : Hid (rtT x y = true) := hr
  clear W1 W2 RG r1 r2 E0 hr
  go_wp2_with fail
  refine cM (V1.out _ (hx.keep bA) cC (hT.kept bA)) ?_
  rintro r w2 ⟨X, rfl, pX, oX, bN⟩
  have sA := bA.size
  have AX := at3_new X w2
  have bM := below_one w2 (obD X)
  replace oX : ownT w.heap.size _ X := (show ownT w.heap.size w2 X from ⟨oX.1.low sA, oX.2⟩).keep bM
  replace Z := (Z.keep bN).keep bM
  replace bN := nT bN bM
  revert cC k0 k1 k2 k3 k4; refine cc6 bN ?_; intro cC k0 k1 k2 k3 k4
  replace k5 := kC bN k5
  replace bA := nT bA bN
  clear bN bM V1
  by_cases hex : ex = 0
  ·have E2' : Hid _ := E2.out HR.out hex
   have E3' : Hid _ := E3.out HR.out hex
   subst hex
   clear E1 E2 E3
   go_wp2_with fail
   generalize w2.alloc (obD X) = w3 at *
   generalize w2.heap.size = b6 at *
   refine cM (V2.out _ (hy.keep bA) cC (hT.kept bA)) ?_
   rintro r w4 ⟨Y, rfl, pY, oY, bN⟩
   replace sA := bA.size
   have AY := at3_new Y w4
   have bM := below_one w4 (obD Y)
   replace oY : ownT w.heap.size _ Y := (show ownT w.heap.size w4 Y from ⟨oY.1.low sA, oY.2⟩).keep bM
   replace oX := (oX.keep bN).keep bM
   replace Z := (Z.keep bN).keep bM
   replace bN := nT bN bM
   obtain ⟨x0, x1, x2⟩ := AX.keep bN
   replace bA := nT bA bN
   have ZZ : Hid (ZI (w.heap.size + 1) (w4.alloc (obD Y))) := Z
   obtain ⟨⟨z0, z1, z2, z3, z4, z5⟩, f0, f1, f2, f3, f4, f5⟩ := Z
   clear bN bM V2 AX k0 k1 k2 k3 k4 k5 cC
   by_cases hey : ey = 0
   ·have HE : Hid _ := E3'.out hey
    subst hey
    clear E2' E3'
    obtain ⟨y0, y1, y2⟩ := AY
    go_wp2_with fail
    exact bodyPost_ret (v := .tuple #[ivT X Y, .int .i64 0]) (by simp [results, Tryz.results87, go_sem, z0, z1, z2, z3, z4, z5]) rfl ⟨_, rfl, by rw [HE.out]; exact ⟨X, Y, rfl, pX, pY, oX.six ZZ.out _ _ _ _ _ _, oY.six ZZ.out _ _ _ _ _ _⟩, by repeat (first | (with_reducible exact bA) | (with_reducible refine Below.setCell ?_ (by simp) _))⟩
   ·have HE : Hid _ := E2'.out hey
    clear E2' E3' AY
    go_wp2_with fail
    exact bodyPost_ret (v := .tuple #[zIvI, .int .i64 ey]) (by simp [results, Tryz.results87, go_sem, z0, z1, z2, z3, z4, z5]) rfl ⟨_, rfl, by rw [HE.out]; exact ivA_nil _ _ _, by repeat (first | (with_reducible exact bA) | (with_reducible refine Below.setCell ?_ (by simp) _))⟩
  ·have HE : Hid _ := E1.out HR.out hex
   clear E1 E2 E3 AX k0 k1 k2 k3 k4 k5 cC
   obtain ⟨⟨z0, z1, z2, z3, z4, z5⟩, f0, f1, f2, f3, f4, f5⟩ := Z
   go_wp2_with fail
   exact bodyPost_ret (v := .tuple #[zIvI, .int .i64 ex]) (by simp [results, Tryz.results87, go_sem, z0, z1, z2, z3, z4, z5]) rfl ⟨_, rfl, by rw [HE.out]; exact ivA_nil _ _ _, by repeat (first | (with_reducible exact bA) | (with_reducible refine Below.setCell ?_ (by simp) _))⟩
 ·rw [Bool.not_eq_true] at hr
  rw [hr]
  have HR : Hid (RR = nilR 2) := E0.out hr
  clear E0 E1 E2 E3 W1 W2 RG
  obtain ⟨⟨z0, z1, z2, z3, z4, z5⟩, f0, f1, f2, f3, f4, f5⟩ := Z
  go_wp2_with fail
  exact bodyPost_ret (v := .tuple #[zIvI, .int .i64 2]) (by simp [results, Tryz.results87, go_sem, z0, z1, z2, z3, z4, z5]) rfl ⟨_, rfl, by rw [HR.out]; exact ivA_nil _ _ _, by repeat (first | (with_reducible exact bA) | (with_reducible refine Below.setCell ?_ (by simp) _))⟩
theorem iScale_calls (x y : DT) (n : Int) (w : World) (hx : inT w x) (hy : inT w y) (hT : Tab w) :
  Calls Tryz.prog 51 #[ivT x y, .int .i64 n] w fun r w' => ∃ v, r = .returned v ∧ IvA w.heap.size w' v (shR x y n) ∧ Below w.heap.size w w' := by
 have A := att_new x y w
 have b1 := below_one w (obT x y)
 have b2 := below_one (w.alloc (obT x y)) (.cells #[.int .i64 n] 3)
 have c2 : ((w.alloc (obT x y)).alloc (.cells #[.int .i64 n] 3)).cell? ⟨w.heap.size + 1, 0, none⟩ = some (.int .i64 n) := by go_simp
 have b3 := below_one ((w.alloc (obT x y)).alloc (.cells #[.int .i64 n] 3)) obZ
 have Z := zi_new ((w.alloc (obT x y)).alloc (.cells #[.int .i64 n] 3))
 rw [show ((w.alloc (obT x y)).alloc (.cells #[.int .i64 n] 3)).heap.size = w.heap.size + 1 + 1 by simp] at Z
 replace A := (A.keep b2).keep b3
 replace c2 := kC b3 c2
 have bA := nT (nT b1 b2) b3
 have EC : Hid (∀ C W, inT W x → inT W y → W.cell? ⟨C, 0, none⟩ = some (.int .i64 n) → Tab W → _) := fun C W i j c t => eachShift_calls x y n C W i j c t
 generalize shR x y n = R at *
 clear b1 b2 b3
 obtain ⟨k0, k1, k2, k3, k4, k5⟩ := A
 go_enter Tryz.func51, Tryz.ntmps51
 go_upto_region 1 with fail
 generalize ((w.alloc (obT x y)).alloc (.cells #[.int .i64 n] 3)).alloc obZ = wA at *
 go_wp2_with fail
 refine cM (EC.out _ _ (hx.keep bA) (hy.keep bA) c2 (hT.kept bA)) ?_
 rintro r w3 ⟨v, rfl, ⟨X, Y, rfl, pX, pY, oX, oY⟩, bN⟩
 have sA := bA.size
 replace Z := Z.keep bN
 replace bA := nT bA bN
 replace oX : ownT w.heap.size w3 X := ⟨oX.1.low sA, oX.2⟩
 replace oY : ownT w.heap.size w3 Y := ⟨oY.1.low sA, oY.2⟩
 have ZZ : Hid (ZI (w.heap.size + 1 + 1) w3) := Z
 obtain ⟨⟨z0, z1, z2, z3, z4, z5⟩, f0, f1, f2, f3, f4, f5⟩ := Z
 clear bN k0 k1 k2 k3 k4 k5 c2
 go_wp2_with fail
 exact bodyPost_ret (v := .tuple #[ivT X Y, .int .i64 R.1]) (by simp [results, Tryz.results51, go_sem, z0, z1, z2, z3, z4, z5]) rfl ⟨_, rfl, ⟨X, Y, rfl, pX, pY, oX.six ZZ.out _ _ _ _ _ _, oY.six ZZ.out _ _ _ _ _ _⟩, by repeat (first | (with_reducible exact bA) | (with_reducible refine Below.setCell ?_ (by simp; try omega) _))⟩
theorem wpAnyH_tk {P : Program} {md : Region.Mode} {ops : Array Oper} {Q : Exit → Act → World → Prop} {S : World → Prop} {i : Nat} {oi : Oper} {d : Option Nat} {v : Value} {fuel : Nat} {listed : Array Bool} {a : Act} {w : World} (hi : ops[i]? = some oi) (hd : oi.dst = d)
  (hs : Region.noSelect ops = true) (hf : Region.free md ops listed i = true) (hr : (Region.ready md ops listed).contains i = true)
  (hQ : ∀ c a w, Q (.panic c) (a.put d v) w → Q (.panic c) a w) (hy : YieldsIf P ops S oi v a) (hS : S w)
  (h : wpAnyH P md ops Q S fuel (listed.setIfInBounds i true) (a.put d v) w) : wpAnyH P md ops Q S (fuel + 1) listed a w := by
 subst hd
 exact wpAnyH_take hi hs hf hr hQ hy hS h
end Go.Proofs.YtahpdcbmekgkfaaGreatDoor
