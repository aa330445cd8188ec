/- The statements' spoil: the words of a list are written over; nothing but words from a block on has turned. Turn, the question's: the four turns. What the loops of the question on ownership may write over, and what they leave. -/
import Derived.Test.YtahpdcbmekgkfaaGreatDoorIVR
import Derived.Test.YtahpdcbmekgkfaaGreatDoorIT3
import Derived.Test.YtahpdcbmekgkfaaGreatDoorITY
import Derived.Test.YtahpdcbmekgkfaaGreatDoorSX3
import Derived.Test.YtahpdcbmekgkfaaGreatDoorIVK

namespace Go.Proofs.YtahpdcbmekgkfaaGreatDoor
open Go.RowKit
def Sp (w w' : World) : Prop := (∀ (p : Addr) (v : Value), w.cell? p = some v → (∀ j : Int, v ≠ .int .u64 j) → w'.cell? p = some v) ∧ (∀ (p : Addr) (j : Int), w.cell? p = some (.int .u64 j) → ∃ j', w'.cell? p = some (.int .u64 j')) ∧ ∀ p, w'.frozen? p = w.frozen? p
theorem Sp.refl (w : World) : Sp w w := ⟨fun _ _ h _ => h, fun _ j h => ⟨j, h⟩, fun _ => rfl⟩
theorem Sp.trans {a b c : World} (h : Sp a b) (k : Sp b c) : Sp a c := ⟨fun p v q n => k.1 p v (h.1 p v q n) n, fun p j q => by
 obtain ⟨j', q'⟩ := h.2.1 p j q
 exact k.2.1 p j' q', fun p => (k.2.2 p).trans (h.2.2 p)⟩
theorem Sp.set {a b : World} (h : Sp a b) (q : Addr) {j0 : Int} (hq : a.cell? q = some (.int .u64 j0)) (x : Int) : Sp a (b.setCell q (.int .u64 x)) := by
 obtain ⟨j1, hq1⟩ := h.2.1 q j0 hq
 refine ⟨fun p v hp hv => ?_, fun p j hp => ?_, fun p => (World.frozen?_setCell b _ _ _).trans (h.2.2 p)⟩
 ·have hne : q ≠ p := fun e => by
   rw [← e, hq] at hp
   injection hp with hp
   exact hv _ hp.symm
  rw [World.cell?_setCell_other _ _ _ _ hne]
  exact h.1 p v hp hv
 ·by_cases e : q = p
  ·subst e
   exact ⟨x, World.cell?_setCell_same _ _ _ hq1⟩
  ·rw [World.cell?_setCell_other _ _ _ _ e]
   exact h.2.1 p j hp
def Wr (B : Nat) (w : World) (a : Option Addr) (n : Nat) : Prop := ∀ i, i < n → ∃ b off j, a = some ⟨b, off, none⟩ ∧ B ≤ b ∧ w.cell? ⟨b, off + i, none⟩ = some (.int .u64 j) ∧ w.frozen? ⟨b, off + i, none⟩ = false
theorem Wr.of {B : Nat} {w : World} {a : Option Addr} {n c : Nat} {xs : List Int} (h : OwnW B w a n c xs) : Wr B w a n := fun i hi => by
 obtain ⟨b, off, e1, e2, e3⟩ := h.1.2.2.2 i hi
 obtain ⟨h1, h2⟩ := h.2 b off i e1 hi
 exact ⟨b, off, _, e1, h1, e3, h2⟩
theorem Wr.sp {B : Nat} {w w' : World} {a : Option Addr} {n : Nat} (h : Wr B w a n) (k : Sp w w') : Wr B w' a n := fun i hi => by
 obtain ⟨b, off, j, e1, e2, e3, e4⟩ := h i hi
 obtain ⟨j', q⟩ := k.2.1 _ _ e3
 exact ⟨b, off, j', e1, e2, q, (k.2.2 _).trans e4⟩
attribute [local go_sem ↓] Go.wp_at_zero Go.wp_at_succ
end Go.Proofs.YtahpdcbmekgkfaaGreatDoor

namespace Go.Proofs.YtahpdcbmekgkfaaGreatDoor
open Go.RowKit
theorem jo_tr (x y u v : DT) (n : Int) : joR x y u v = trR 2 x y u v n := by
 unfold joR
 show _ = if (rtT x y && rtT u v) = true then roomR (tT (pkT true x u)) (tT (pkT false y v)) else nilR 2
 by_cases h : (rtT x y && rtT u v) = true
 ·have h2 := h
  rw [Bool.and_eq_true] at h2
  rw [if_pos h, if_pos h, cnR_eq, pk_rt h2.1 h2.2, if_pos rfl]
 ·rw [if_neg h, if_neg h]
theorem sm_eq {X U : DT} {P : Bool × Nat × Int} (h : isP X P) (h' : isP U P) : smT X U = true := by
 obtain ⟨a1, a2, a3⟩ := h
 obtain ⟨b1, b2, b3⟩ := h'
 unfold smT
 rw [a1, a2, a3, b1, b2, b3]
 exact decide_eq_true ⟨rfl, rfl, rfl⟩
end Go.Proofs.YtahpdcbmekgkfaaGreatDoor

namespace Go.Proofs.YtahpdcbmekgkfaaGreatDoor
open Go.RowKit
theorem Sp.at3 {b o o1 o2 : Nat} {z : DT} {w w' : World} (k : Sp w w') (h : At3 b o o1 o2 z w) : At3 b o o1 o2 z w' :=
 ⟨k.1 _ _ h.1 (fun _ q => by cases q), k.1 _ _ h.2.1 (fun _ q => by cases q), k.1 _ _ h.2.2 (fun _ q => by cases q)⟩
theorem Sp.att {b : Nat} {x y : DT} {w w' : World} (k : Sp w w') (h : AtT b x y w) : AtT b x y w' := by
 obtain ⟨h0, h1, h2, h3, h4, h5⟩ := h
 exact ⟨k.1 _ _ h0 (fun _ q => by cases q), k.1 _ _ h1 (fun _ q => by cases q), k.1 _ _ h2 (fun _ q => by cases q), k.1 _ _ h3 (fun _ q => by cases q), k.1 _ _ h4 (fun _ q => by cases q), k.1 _ _ h5 (fun _ q => by cases q)⟩
theorem Sp.fz {b : Nat} {w w' : World} (k : Sp w w') (h : FzI b w) : FzI b w' := by
 obtain ⟨h0, h1, h2, h3, h4, h5⟩ := h
 exact ⟨(k.2.2 _).trans h0, (k.2.2 _).trans h1, (k.2.2 _).trans h2, (k.2.2 _).trans h3, (k.2.2 _).trans h4, (k.2.2 _).trans h5⟩
theorem Wr.keep {B : Nat} {w w' : World} {a : Option Addr} {n : Nat} (h : Wr B w a n) (b : Below w.heap.size w w') : Wr B w' a n := fun i hi => by
 obtain ⟨b0, off, j, e1, e2, e3, e4⟩ := h i hi
 exact ⟨b0, off, j, e1, e2, kC b e3, kF b e3 e4⟩
abbrev WrT (B : Nat) (w : World) (x : DT) : Prop := Wr B w x.2.1 x.2.2.1 ∧ x.2.2.1 ≤ 17592186044000
theorem WrT.of {B : Nat} {w : World} {x : DT} (h : ownT B w x) : WrT B w x := ⟨Wr.of h.1, h.2⟩
def OW (B S : Nat) (X1 Y1 X2 Y2 X3 Y3 : DT) (w : World) : Prop :=
 (At3 S 0 1 2 X1 w ∧ At3 S 3 4 5 Y1 w ∧ At3 S 6 7 8 X2 w ∧ At3 S 9 10 11 Y2 w ∧ At3 S 12 13 14 X3 w ∧ At3 S 15 16 17 Y3 w) ∧ (WrT B w X1 ∧ WrT B w Y1 ∧ WrT B w X2 ∧ WrT B w Y2 ∧ WrT B w X3 ∧ WrT B w Y3)
theorem OW.keep {B S : Nat} {X1 Y1 X2 Y2 X3 Y3 : DT} {w w' : World} (h : OW B S X1 Y1 X2 Y2 X3 Y3 w) (b : Below w.heap.size w w') : OW B S X1 Y1 X2 Y2 X3 Y3 w' := by
 obtain ⟨⟨a1, a2, a3, a4, a5, a6⟩, c1, c2, c3, c4, c5, c6⟩ := h
 exact ⟨⟨a1.keep b, a2.keep b, a3.keep b, a4.keep b, a5.keep b, a6.keep b⟩, ⟨c1.1.keep b, c1.2⟩, ⟨c2.1.keep b, c2.2⟩, ⟨c3.1.keep b, c3.2⟩, ⟨c4.1.keep b, c4.2⟩, ⟨c5.1.keep b, c5.2⟩, ⟨c6.1.keep b, c6.2⟩⟩
theorem OW.sp {B S : Nat} {X1 Y1 X2 Y2 X3 Y3 : DT} {w w' : World} (h : OW B S X1 Y1 X2 Y2 X3 Y3 w) (k : Sp w w') : OW B S X1 Y1 X2 Y2 X3 Y3 w' := by
 obtain ⟨⟨a1, a2, a3, a4, a5, a6⟩, c1, c2, c3, c4, c5, c6⟩ := h
 exact ⟨⟨k.at3 a1, k.at3 a2, k.at3 a3, k.at3 a4, k.at3 a5, k.at3 a6⟩, ⟨c1.1.sp k, c1.2⟩, ⟨c2.1.sp k, c2.2⟩, ⟨c3.1.sp k, c3.2⟩, ⟨c4.1.sp k, c4.2⟩, ⟨c5.1.sp k, c5.2⟩, ⟨c6.1.sp k, c6.2⟩⟩
abbrev put6 (w : World) (b : Nat) (X Y : DT) : World := (((((w.setCell ⟨b, 0, none⟩ (.bool X.1)).setCell ⟨b, 1, none⟩ (.slice X.2.1 X.2.2.1 X.2.2.2.1)).setCell ⟨b, 2, none⟩ (.int .i64 X.2.2.2.2.2)).setCell ⟨b, 3, none⟩ (.bool Y.1)).setCell ⟨b, 4, none⟩ (.slice Y.2.1 Y.2.2.1 Y.2.2.2.1)).setCell ⟨b, 5, none⟩ (.int .i64 Y.2.2.2.2.2)
theorem AtT.put {b : Nat} {x y : DT} {w : World} (h : AtT b x y w) (X Y : DT) : AtT b X Y (put6 w b X Y) := by
 obtain ⟨h0, h1, h2, h3, h4, h5⟩ := h
 refine ⟨?_, ?_, ?_, ?_, ?_, ?_⟩ <;> simp [World.cell?_setCell_other, go_sem, h0, h1, h2, h3, h4, h5]
theorem AtT.other {b r : Nat} {x y : DT} {w : World} (h : AtT b x y w) (ne : b ≠ r) (X Y : DT) : AtT b x y (put6 w r X Y) := AtI.set6 h ne _ _ _ _ _ _
theorem AtT.own {b B : Nat} {x y u : DT} {w : World} (h : AtT b x y w) (o : ownT B w u) (X Y : DT) : ownT B (put6 w b X Y) u := by
 obtain ⟨z0, z1, z2, z3, z4, z5⟩ := h
 exact ⟨ownW_sixI o.1 (six_ofI z0 z1 z2 z3 z4 z5 (fun _ q => by cases q) (fun _ q => by cases q) (fun _ q => by cases q) (fun _ q => by cases q) (fun _ q => by cases q) (fun _ q => by cases q)) _ _ _ _ _ _, o.2⟩
theorem AtT.lt {b : Nat} {x y : DT} {w : World} (h : AtT b x y w) : b < w.heap.size := World.block_lt_of_cell? _ _ h.1
theorem below_put6 {B b : Nat} {w w' : World} (h : Below B w w') (hb : B ≤ b) (X Y : DT) : Below B w (put6 w' b X Y) := (((((h.setCell hb _).setCell hb _).setCell hb _).setCell hb _).setCell hb _).setCell hb _
theorem vCopyT (x y : DT) (w : World) (hx : inT w x) (hy : inT w y) :
  Calls Tryz.prog 36 #[ivT x y] w fun r w' => ∃ X Y : DT, r = .returned (ivT X Y) ∧ ownT w.heap.size w' X ∧ ownT w.heap.size w' Y ∧ smT X x = true ∧ smT Y y = true ∧ Below w.heap.size w w' := by
 refine (vCopy_calls x y w hx hy).mono ?_
 rintro r w' ⟨ax, cx, ay, cy, rfl, O1, O2, b⟩
 exact ⟨(x.1, ax, x.2.2.1, cx, x.2.2.2.2.1, x.2.2.2.2.2), (y.1, ay, y.2.2.1, cy, y.2.2.2.2.1, y.2.2.2.2.2), rfl, ⟨O1, hx.2⟩, ⟨O2, hy.2⟩, decide_eq_true ⟨rfl, rfl, rfl⟩, decide_eq_true ⟨rfl, rfl, rfl⟩, b⟩
theorem vSameT (x y u v : DT) (w : World) (hx : inT w x) (hy : inT w y) (hu : inT w u) (hv : inT w v) (h1 : smT x u = true) (h2 : smT y v = true) :
  Calls Tryz.prog 12 #[ivT x y, ivT u v] w fun r w' => r = .returned (.bool true) ∧ Below w.heap.size w w' := by
 have h := vSame_calls x y u v w hx hy hu hv
 rw [h1, h2] at h
 exact h
end Go.Proofs.YtahpdcbmekgkfaaGreatDoor
