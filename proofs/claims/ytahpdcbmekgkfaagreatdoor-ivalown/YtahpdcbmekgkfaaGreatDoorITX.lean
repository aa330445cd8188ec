/- Intervals' cells, answers, as one fact each. A step of a drawn region whose temp is named. The document's intervals: room; Canon. Package ival: less an enclosure, an enclosure cut. -/
import Derived.Test.YtahpdcbmekgkfaaGreatDoorTMP
import Derived.Test.YtahpdcbmekgkfaaGreatDoorIVR
import Derived.Test.YtahpdcbmekgkfaaGreatDoorCR
import Derived.Test.YtahpdcbmekgkfaaGreatDoorTMO
import Derived.Test.YtahpdcbmekgkfaaGreatDoorFX

namespace Go.Proofs.YtahpdcbmekgkfaaGreatDoor
open Go.RowKit
abbrev obT (x y : DT) : Obj := .cells #[.bool x.1, .slice x.2.1 x.2.2.1 x.2.2.2.1, .int .i64 x.2.2.2.2.2, .bool y.1, .slice y.2.1 y.2.2.1 y.2.2.2.1, .int .i64 y.2.2.2.2.2] 27
abbrev obZ : Obj := .cells #[.bool false, .slice none 0 0, .int .i64 0, .bool false, .slice none 0 0, .int .i64 0] 27
def AtT (b : Nat) (x y : DT) (w : World) : Prop := AtI b (.bool x.1) (.slice x.2.1 x.2.2.1 x.2.2.2.1) (.int .i64 x.2.2.2.2.2) (.bool y.1) (.slice y.2.1 y.2.2.1 y.2.2.2.1) (.int .i64 y.2.2.2.2.2) w
theorem AtT.keep {b : Nat} {x y : DT} {w w' : World} (h : AtT b x y w) (r : Below w.heap.size w w') : AtT b x y w' := AtI.keep h r
theorem att_new (x y : DT) (w : World) : AtT w.heap.size x y (w.alloc (obT x y)) := by
 refine ⟨?_, ?_, ?_, ?_, ?_, ?_⟩ <;> go_simp
def FzI (b : Nat) (w : World) : Prop := w.frozen? ⟨b, 0, none⟩ = false ∧ w.frozen? ⟨b, 1, none⟩ = false ∧ w.frozen? ⟨b, 2, none⟩ = false ∧ w.frozen? ⟨b, 3, none⟩ = false ∧ w.frozen? ⟨b, 4, none⟩ = false ∧ w.frozen? ⟨b, 5, none⟩ = false
theorem AtT.frozen {b : Nat} {x y : DT} {w w' : World} (h : AtT b x y w) (f : FzI b w) (r : Below w.heap.size w w') : FzI b w' := by
 obtain ⟨z0, z1, z2, z3, z4, z5⟩ := h
 obtain ⟨f0, f1, f2, f3, f4, f5⟩ := f
 exact ⟨kF r z0 f0, kF r z1 f1, kF r z2 f2, kF r z3 f3, kF r z4 f4, kF r z5 f5⟩
def zDT : DT := (false, none, 0, 0, [], 0)
def ZI (b : Nat) (w : World) : Prop := AtT b zDT zDT w ∧ FzI b w
theorem ZI.keep {b : Nat} {w w' : World} (h : ZI b w) (r : Below w.heap.size w w') : ZI b w' := ⟨h.1.keep r, h.1.frozen h.2 r⟩
theorem zi_new (w : World) : ZI w.heap.size (w.alloc obZ) := by
 refine ⟨⟨?_, ?_, ?_, ?_, ?_, ?_⟩, ?_, ?_, ?_, ?_, ?_, ?_⟩ <;> go_simp <;> (first | rfl | exact ⟨rfl, rfl, rfl⟩)
theorem fz_new (x y : DT) (w : World) : FzI w.heap.size (w.alloc (obT x y)) := by
 refine ⟨?_, ?_, ?_, ?_, ?_, ?_⟩ <;> go_simp
def At3 (b o o1 o2 : Nat) (z : DT) (w : World) : Prop := w.cell? ⟨b, o, none⟩ = some (.bool z.1) ∧ w.cell? ⟨b, o1, none⟩ = some (.slice z.2.1 z.2.2.1 z.2.2.2.1) ∧ w.cell? ⟨b, o2, none⟩ = some (.int .i64 z.2.2.2.2.2)
theorem At3.keep {b o o1 o2 : Nat} {z : DT} {w w' : World} (h : At3 b o o1 o2 z w) (r : Below w.heap.size w w') : At3 b o o1 o2 z w' := ⟨kC r h.1, kC r h.2.1, kC r h.2.2⟩
abbrev obD (x : DT) : Obj := .cells #[.bool x.1, .slice x.2.1 x.2.2.1 x.2.2.2.1, .int .i64 x.2.2.2.2.2] 25
theorem at3_new (x : DT) (w : World) : At3 w.heap.size 0 1 2 x (w.alloc (obD x)) := by
 refine ⟨?_, ?_, ?_⟩ <;> go_simp
theorem bodies {w wA : World} {b : Nat} (A : Below wA.heap.size wA w) (lb : wA.heap.size ≤ b) (v0 v1 v2 v3 v4 v5 : Value) : Below wA.heap.size wA ((((((w.setCell ⟨b, 0, none⟩ v0).setCell ⟨b, 1, none⟩ v1).setCell ⟨b, 2, none⟩ v2).setCell ⟨b, 3, none⟩ v3).setCell ⟨b, 4, none⟩ v4).setCell ⟨b, 5, none⟩ v5) := by
 repeat (first | (with_reducible exact A) | (with_reducible refine Below.setCell ?_ (by simpa using lb) _))
def ZD (b : Nat) (w : World) : Prop := At3 b 0 1 2 zDT w ∧ (w.frozen? ⟨b, 0, none⟩ = false ∧ w.frozen? ⟨b, 1, none⟩ = false ∧ w.frozen? ⟨b, 2, none⟩ = false)
theorem ZD.keep {b : Nat} {w w' : World} (h : ZD b w) (r : Below w.heap.size w w') : ZD b w' := by
 obtain ⟨⟨z0, z1, z2⟩, f0, f1, f2⟩ := id h
 exact ⟨h.1.keep r, kF r z0 f0, kF r z1 f1, kF r z2 f2⟩
theorem zd_new (w : World) : ZD w.heap.size (w.alloc (.cells #[.bool false, .slice none 0 0, .int .i64 0] 25)) := by
 refine ⟨⟨?_, ?_, ?_⟩, ?_, ?_, ?_⟩ <;> go_simp <;> (first | rfl | exact ⟨rfl, rfl, rfl⟩)
theorem cell_other {W : World} {b r o k : Nat} {x : Value} (h : W.cell? ⟨b, o, none⟩ = some x) (ne : r ≠ b) (u : Value) : (W.setCell ⟨r, k, none⟩ u).cell? ⟨b, o, none⟩ = some x :=
 (World.cell?_setCell_other W _ _ _ (fun e => by have := congrArg Addr.block e; simp at this; omega)).trans h
theorem At3.three {b r o o1 o2 : Nat} {z : DT} {w : World} (h : At3 b o o1 o2 z w) (ne : r ≠ b) (v0 v1 v2 : Value) : At3 b o o1 o2 z (((w.setCell ⟨r, 0, none⟩ v0).setCell ⟨r, 1, none⟩ v1).setCell ⟨r, 2, none⟩ v2) :=
 ⟨cell_other (cell_other (cell_other h.1 ne _) ne _) ne _, cell_other (cell_other (cell_other h.2.1 ne _) ne _) ne _, cell_other (cell_other (cell_other h.2.2 ne _) ne _) ne _⟩
theorem At3.six {b r o o1 o2 : Nat} {z : DT} {w : World} (h : At3 b o o1 o2 z w) (ne : b ≠ r) (v0 v1 v2 v3 v4 v5 : Value) : At3 b o o1 o2 z ((((((w.setCell ⟨r, 0, none⟩ v0).setCell ⟨r, 1, none⟩ v1).setCell ⟨r, 2, none⟩ v2).setCell ⟨r, 3, none⟩ v3).setCell ⟨r, 4, none⟩ v4).setCell ⟨r, 5, none⟩ v5) := by
 have k : ∀ {oo : Nat} {x : Value}, w.cell? ⟨b, oo, none⟩ = some x → ((((((w.setCell ⟨r, 0, none⟩ v0).setCell ⟨r, 1, none⟩ v1).setCell ⟨r, 2, none⟩ v2).setCell ⟨r, 3, none⟩ v3).setCell ⟨r, 4, none⟩ v4).setCell ⟨r, 5, none⟩ v5).cell? ⟨b, oo, none⟩ = some x := fun q => cell_other (cell_other (cell_other (cell_other (cell_other (cell_other q ne.symm _) ne.symm _) ne.symm _) ne.symm _) ne.symm _) ne.symm _
 exact ⟨k h.1, k h.2.1, k h.2.2⟩
def isP (x : DT) (P : Bool × Nat × Int) : Prop := x.1 = P.1 ∧ x.2.2.2.2.1 = wO P.2.1 ∧ x.2.2.2.2.2 = P.2.2
def ownT (B : Nat) (w : World) (x : DT) : Prop := OwnW B w x.2.1 x.2.2.1 x.2.2.2.1 x.2.2.2.2.1 ∧ x.2.2.1 ≤ 17592186044000
theorem ownT.keep {B : Nat} {w w' : World} {x : DT} (h : ownT B w x) (b : Below w.heap.size w w') : ownT B w' x := ⟨h.1.keep b, h.2⟩
theorem ownT.inT {B : Nat} {w : World} {x : DT} (h : ownT B w x) : inT w x := ⟨h.1.1, h.2⟩
def IvA (B : Nat) (w : World) (v : Value) (R : Int × (Bool × Nat × Int) × (Bool × Nat × Int)) : Prop := ∃ X Y : DT, v = .tuple #[ivT X Y, .int .i64 R.1] ∧ isP X R.2.1 ∧ isP Y R.2.2 ∧ ownT B w X ∧ ownT B w Y
theorem ivA_of {B : Nat} {w : World} {E : Int} {L H : Bool × Nat × Int} {al ah : Option Addr} {nl cl nh ch : Nat} (h1 : nl ≤ 1024) (h2 : nh ≤ 1024) (O1 : OwnW B w al nl cl (wO L.2.1)) (O2 : OwnW B w ah nh ch (wO H.2.1)) : IvA B w (.tuple #[ivI L.1 al nl cl L.2.2 H.1 ah nh ch H.2.2, .int .i64 E]) (E, L, H) :=
 ⟨(L.1, al, nl, cl, wO L.2.1, L.2.2), (H.1, ah, nh, ch, wO H.2.1, H.2.2), rfl, ⟨rfl, rfl, rfl⟩, ⟨rfl, rfl, rfl⟩, ⟨O1, by show nl ≤ _; omega⟩, ⟨O2, by show nh ≤ _; omega⟩⟩
def nilR (k : Int) : Int × (Bool × Nat × Int) × (Bool × Nat × Int) := (k, (false, 0, 0), (false, 0, 0))
theorem ivA_nil (B : Nat) (w : World) (k : Int) : IvA B w (.tuple #[zIvI, .int .i64 k]) (nilR k) :=
 ⟨zDT, zDT, rfl, ⟨rfl, words_zero.symm, rfl⟩, ⟨rfl, words_zero.symm, rfl⟩, ⟨ownW_nil _ _, by decide⟩, ⟨ownW_nil _ _, by decide⟩⟩
def roomR (L H : Bool × Nat × Int) : Int × (Bool × Nat × Int) × (Bool × Nat × Int) := if (roomB L && roomB H) = true then (0, L, H) else nilR 3
def flT (x : DT) : DT := (!x.1, x.2)
theorem flT.keep {w : World} {x : DT} (h : inT w x) : inT w (flT x) := h
theorem six_zi {b : Nat} {w : World} (h : ZI b w) : ∀ i, i < 6 → ∃ x, w.cell? ⟨b, i, none⟩ = some x ∧ ∀ j : Int, x ≠ .int .u64 j := by
 obtain ⟨z0, z1, z2, z3, z4, z5⟩ := h.1
 exact six_ofI z0 z1 z2 z3 z4 z5 (fun _ q => by cases q) (fun _ q => by cases q) (fun _ q => by cases q) (fun _ q => by cases q) (fun _ q => by cases q) (fun _ q => by cases q)
theorem ownT.six {B b : Nat} {w : World} {x : DT} (h : ownT B w x) (z : ZI b w) (v0 v1 v2 v3 v4 v5 : Value) : ownT B ((((((w.setCell ⟨b, 0, none⟩ v0).setCell ⟨b, 1, none⟩ v1).setCell ⟨b, 2, none⟩ v2).setCell ⟨b, 3, none⟩ v3).setCell ⟨b, 4, none⟩ v4).setCell ⟨b, 5, none⟩ v5) x := ⟨ownW_sixI h.1 (six_zi z) _ _ _ _ _ _, h.2⟩
theorem wpAnyH_tk {P : Program} {md : Region.Mode} {ops : Array Oper} {Q : Exit → Act → World → Prop} {S : World → Prop} {i : Nat} {oi : Oper} {d : Option Nat} {v : Value} {fuel : Nat} {listed : Array Bool} {a : Act} {w : World} (hi : ops[i]? = some oi) (hd : oi.dst = d)
  (hs : Region.noSelect ops = true) (hf : Region.free md ops listed i = true) (hr : (Region.ready md ops listed).contains i = true)
  (hQ : ∀ c a w, Q (.panic c) (a.put d v) w → Q (.panic c) a w) (hy : YieldsIf P ops S oi v a) (hS : S w)
  (h : wpAnyH P md ops Q S fuel (listed.setIfInBounds i true) (a.put d v) w) : wpAnyH P md ops Q S (fuel + 1) listed a w := by
 subst hd
 exact wpAnyH_take hi hs hf hr hQ hy hS h
theorem cn_words (x y : DT) : cnE x.1 (val x.2.2.2.2.1) x.2.2.2.2.2 y.1 (val y.2.2.2.2.1) y.2.2.2.2.2 = if rtT x y = true then (if (roomB (formD x.1 (val x.2.2.2.2.1) x.2.2.2.2.2) && roomB (formD y.1 (val y.2.2.2.2.1) y.2.2.2.2.2)) = true then 0 else 3) else 2 := by
 by_cases h : rtT x y = true
 ·have b := rt_both h
  have h2 : rtI x.1 (val x.2.2.2.2.1) x.2.2.2.2.2 y.1 (val y.2.2.2.2.1) y.2.2.2.2.2 = true := h
  unfold cnE canE
  rw [if_pos h2, if_pos b.1, if_pos b.2, if_pos h]
  unfold roomE
  cases roomB (formD x.1 (val x.2.2.2.2.1) x.2.2.2.2.2) <;> cases roomB (formD y.1 (val y.2.2.2.2.1) y.2.2.2.2.2) <;> rfl
 ·have h2 : ¬ rtI x.1 (val x.2.2.2.2.1) x.2.2.2.2.2 y.1 (val y.2.2.2.2.1) y.2.2.2.2.2 = true := h
  unfold cnE
  rw [if_neg h2, if_neg h]
theorem cn_words2 (x y : DT) (h : rtT x y = true) (q : (roomB (formD x.1 (val x.2.2.2.2.1) x.2.2.2.2.2) && roomB (formD y.1 (val y.2.2.2.2.1) y.2.2.2.2.2)) = true) : cnL x.1 (val x.2.2.2.2.1) x.2.2.2.2.2 y.1 (val y.2.2.2.2.1) y.2.2.2.2.2 = (formD x.1 (val x.2.2.2.2.1) x.2.2.2.2.2) ∧ cnH x.1 (val x.2.2.2.2.1) x.2.2.2.2.2 y.1 (val y.2.2.2.2.1) y.2.2.2.2.2 = (formD y.1 (val y.2.2.2.2.1) y.2.2.2.2.2) := by
 have e : cnE x.1 (val x.2.2.2.2.1) x.2.2.2.2.2 y.1 (val y.2.2.2.2.1) y.2.2.2.2.2 = 0 := by rw [cn_words x y, if_pos h, if_pos q]
 have b := rt_both h
 rw [Bool.and_eq_true] at q
 unfold cnL cnH canP
 rw [if_pos e, if_pos e, if_pos b.1, if_pos b.2]
 unfold roomP
 rw [if_pos q.1, if_pos q.2]
 exact ⟨rfl, rfl⟩
set_option maxRecDepth 100000 in
set_option maxHeartbeats 4000000 in
theorem vRoom_calls (x y : DT) (w : World) (hx : inT w x) (hy : inT w y) :
  Calls Tryz.prog 39 #[ivT x y] w fun r w' => r = .returned (if (rgT x && rgT y) = true then .tuple #[ivT x y, .int .i64 0] else .tuple #[zIvI, .int .i64 3]) ∧ Below w.heap.size w w' := by
 have bA : Below w.heap.size w ((w.alloc (.cells #[.bool x.1, .slice x.2.1 x.2.2.1 x.2.2.2.1, .int .i64 x.2.2.2.2.2, .bool y.1, .slice y.2.1 y.2.2.1 y.2.2.2.1, .int .i64 y.2.2.2.2.2] 27)).alloc (.cells #[.bool false, .slice none 0 0, .int .i64 0, .bool false, .slice none 0 0, .int .i64 0] 27)) := nT (below_one _ _) (below_one _ _)
 obtain ⟨k0, k1, k2, k3, k4, k5, z0, f0, z1, f1, z2, f2, z3, f3, z4, f4, z5, f5⟩ := fX10 w x y _ rfl
 have H1 : Hid _ := fun w' (q : IsW w' x.2.1 x.2.2.1 x.2.2.2.1 x.2.2.2.2.1) => qRight_calls x.1 x.2.1 x.2.2.1 x.2.2.2.1 x.2.2.2.2.1 x.2.2.2.2.2 w' q (by have := hx.2; omega)
 have H2 : Hid _ := fun w' (q : IsW w' y.2.1 y.2.2.1 y.2.2.2.1 y.2.2.2.2.1) => qRight_calls y.1 y.2.1 y.2.2.1 y.2.2.2.1 y.2.2.2.2.1 y.2.2.2.2.2 w' q (by have := hy.2; omega)
 have g1 : rightB (val x.2.2.2.2.1) x.2.2.2.2.2 = rgT x := rfl
 have g2 : rightB (val y.2.2.2.2.1) y.2.2.2.2.2 = rgT y := rfl
 rw [g1] at H1
 rw [g2] at H2
 generalize rgT x = r1 at *
 generalize rgT y = r2 at *
 have hI := IsW.keep hx.1 bA
 have hJ := IsW.keep hy.1 bA
 clear g1 g2 hx hy
 go_enter Tryz.func39, Tryz.ntmps39
 go_wp2_with fail
 generalize ((w.alloc (.cells #[.bool x.1, .slice x.2.1 x.2.2.1 x.2.2.2.1, .int .i64 x.2.2.2.2.2, .bool y.1, .slice y.2.1 y.2.2.1 y.2.2.2.1, .int .i64 y.2.2.2.2.2] 27)).alloc (.cells #[.bool false, .slice none 0 0, .int .i64 0, .bool false, .slice none 0 0, .int .i64 0] 27)) = w0 at *
 refine Calls.mono (H1.out _ hI) ?_
 rintro r w1 ⟨rfl, bN⟩
 revert z0 f0 z1 f1 z2 f2 z3 f3 z4 f4 z5 f5; refine zf6 bN ?_; intro z0 f0 z1 f1 z2 f2 z3 f3 z4 f4 z5 f5
 revert k0 k1 k2 k3 k4 k5; refine cc6 bN ?_; intro k0 k1 k2 k3 k4 k5
 replace hI := hI.keep bN
 replace hJ := hJ.keep bN
 replace bA := nT bA bN
 clear bN
 cases r1
 ·go_wp2_with fail
  exact bodyPost_ret (v := .tuple #[zIvI, .int .i64 3]) (by simp [results, Tryz.results39, go_sem, z0, z1, z2, z3, z4, z5]) rfl ⟨by first | rfl | simp, by repeat (first | (with_reducible exact bA) | (with_reducible refine Below.setCell ?_ (by simp; try omega) _))⟩
 go_wp2_with fail
 refine Calls.mono (H2.out _ hJ) ?_
 rintro r w2 ⟨rfl, bN⟩
 revert z0 f0 z1 f1 z2 f2 z3 f3 z4 f4 z5 f5; refine zf6 bN ?_; intro z0 f0 z1 f1 z2 f2 z3 f3 z4 f4 z5 f5
 revert k0 k1 k2 k3 k4 k5; refine cc6 bN ?_; intro k0 k1 k2 k3 k4 k5
 replace hI := hI.keep bN
 replace hJ := hJ.keep bN
 replace bA := nT bA bN
 clear bN
 cases r2
 ·go_wp2_with fail
  exact bodyPost_ret (v := .tuple #[zIvI, .int .i64 3]) (by simp [results, Tryz.results39, go_sem, z0, z1, z2, z3, z4, z5]) rfl ⟨by first | rfl | simp, by repeat (first | (with_reducible exact bA) | (with_reducible refine Below.setCell ?_ (by simp; try omega) _))⟩
 go_wp2_with fail
 exact bodyPost_ret (v := .tuple #[ivT x y, .int .i64 0]) (by simp [results, Tryz.results39, go_sem, z0, z1, z2, z3, z4, z5]) rfl ⟨by first | rfl | simp, by repeat (first | (with_reducible exact bA) | (with_reducible refine Below.setCell ?_ (by simp; try omega) _))⟩
def cnR (x y : DT) : Int × (Bool × Nat × Int) × (Bool × Nat × Int) := (cnE x.1 (val x.2.2.2.2.1) x.2.2.2.2.2 y.1 (val y.2.2.2.2.1) y.2.2.2.2.2, cnL x.1 (val x.2.2.2.2.1) x.2.2.2.2.2 y.1 (val y.2.2.2.2.1) y.2.2.2.2.2, cnH x.1 (val x.2.2.2.2.1) x.2.2.2.2.2 y.1 (val y.2.2.2.2.1) y.2.2.2.2.2)
theorem canonR_calls (x y : DT) (w : World) (hx : inT w x) (hy : inT w y) (hT : Tab w) :
  Calls Tryz.prog 38 #[ivT x y] w fun r w' => ∃ v, r = .returned v ∧ IvA w.heap.size w' v (cnR x y) ∧ Below w.heap.size w w' := by
 refine (icanon_calls x.1 x.2.1 x.2.2.1 x.2.2.2.1 x.2.2.2.2.1 x.2.2.2.2.2 y.1 y.2.1 y.2.2.1 y.2.2.2.1 y.2.2.2.2.1 y.2.2.2.2.2 w hx.1 hx.2 hy.1 hy.2 hT).mono ?_
 rintro r w' ⟨al, nl, cl, ah, nh, ch, rfl, h1, h2, O1, O2, hb⟩
 exact ⟨_, rfl, ivA_of h1 h2 O1 O2, hb⟩
theorem rt_rg2 {x y : DT} (h : rtT x y = true) : rgT x = true ∧ rgT y = true := by
 unfold rtT rtI at h
 rw [Bool.and_eq_true, Bool.and_eq_true] at h
 exact h.1
end Go.Proofs.YtahpdcbmekgkfaaGreatDoor
