/- The document's dyadic numbers: the sum; both brought to their one form. -/
import Derived.Test.YtoefhlapfnjbjaaGreatDoorTMH
import Derived.Test.YtoefhlapfnjbjaaGreatDoorTMF
import Derived.Deep.CutRange
import Derived.Deep.RegionHeld3
namespace Go.Proofs.YtoefhlapfnjbjaaGreatDoor
open Go.RowKit

theorem bl_alloc {w W : World} (h : Below w.heap.size w W) (o : Obj) : Below w.heap.size w (W.alloc o) := Below.alloc h h.size o
theorem OwnW.set_one {B : Nat} {W : World} {a : Option Addr} {n c : Nat} {xs : List Int} (h : OwnW B W a n c xs) (p : Addr) (v u : Value) (k : W.cell? p = some v) (hv : ∀ z, v ≠ .int .u64 z) : OwnW B (W.setCell p u) a n c xs := by
  obtain ⟨⟨h1, h2, h3, h4⟩, h5⟩ := h
  refine ⟨⟨h1, h2, h3, fun i hi => ?_⟩, fun b off i e hi => ?_⟩
  · obtain ⟨b, off, e, hb, hc⟩ := h4 i hi
    refine ⟨b, off, e, by simpa using hb, ?_⟩
    rw [World.cell?_setCell_other]
    · exact hc
    · intro q
      rw [← q, k] at hc
      injection hc with hc
      exact hv _ hc
  · obtain ⟨h6, h7⟩ := h5 b off i e hi
    exact ⟨h6, (World.frozen?_setCell W _ _ _).trans h7⟩
theorem OwnW.set_dy {B : Nat} {W : World} {a : Option Addr} {n c : Nat} {xs : List Int} (h : OwnW B W a n c xs) (r : Nat) (b0 : Bool) (s1 : Option Addr) (s2 s3 : Nat) (z : Int) (u0 u1 u2 : Value) (k0 : W.cell? ⟨r, 0, none⟩ = some (.bool b0)) (k1 : W.cell? ⟨r, 1, none⟩ = some (.slice s1 s2 s3)) (k2 : W.cell? ⟨r, 2, none⟩ = some (.int .i64 z)) :
    OwnW B (((W.setCell ⟨r, 0, none⟩ u0).setCell ⟨r, 1, none⟩ u1).setCell ⟨r, 2, none⟩ u2) a n c xs := by
  have o1 : (W.setCell ⟨r, 0, none⟩ u0).cell? ⟨r, 1, none⟩ = some (.slice s1 s2 s3) := (World.cell?_setCell_other W _ _ _ (by simp)).trans k1
  have o2 : ((W.setCell ⟨r, 0, none⟩ u0).setCell ⟨r, 1, none⟩ u1).cell? ⟨r, 2, none⟩ = some (.int .i64 z) := (World.cell?_setCell_other _ _ _ _ (by simp)).trans ((World.cell?_setCell_other W _ _ _ (by simp)).trans k2)
  exact ((h.set_one _ _ u0 k0 (fun z q => by cases q)).set_one _ _ u1 o1 (fun z q => by cases q)).set_one _ _ u2 o2 (fun z q => by cases q)
theorem set3_cell {W : World} {b o r : Nat} {v0 v1 v2 x : Value} (h : W.cell? ⟨b, o, none⟩ = some x) (hne : b ≠ r) : (((W.setCell ⟨r, 0, none⟩ v0).setCell ⟨r, 1, none⟩ v1).setCell ⟨r, 2, none⟩ v2).cell? ⟨b, o, none⟩ = some x := by
  have key : ∀ (V : World) (k : Nat) (v : Value), V.cell? ⟨b, o, none⟩ = some x → (V.setCell ⟨r, k, none⟩ v).cell? ⟨b, o, none⟩ = some x := fun V k v q =>
    (World.cell?_setCell_other V _ _ _ (fun e => by have := congrArg Addr.block e; simp at this; omega)).trans q
  exact key _ _ _ (key _ _ _ (key _ _ _ h))
theorem set3_frozen {W : World} {p : Addr} {r : Nat} {v0 v1 v2 : Value} (h : W.frozen? p = false) : (((W.setCell ⟨r, 0, none⟩ v0).setCell ⟨r, 1, none⟩ v1).setCell ⟨r, 2, none⟩ v2).frozen? p = false := by
  rw [World.frozen?_setCell, World.frozen?_setCell, World.frozen?_setCell]; exact h
theorem set3_same {W : World} {r : Nat} {v0 v1 v2 x0 x1 x2 : Value} (h0 : W.cell? ⟨r, 0, none⟩ = some x0) (h1 : W.cell? ⟨r, 1, none⟩ = some x1) (h2 : W.cell? ⟨r, 2, none⟩ = some x2) :
    (((W.setCell ⟨r, 0, none⟩ v0).setCell ⟨r, 1, none⟩ v1).setCell ⟨r, 2, none⟩ v2).cell? ⟨r, 0, none⟩ = some v0 ∧ (((W.setCell ⟨r, 0, none⟩ v0).setCell ⟨r, 1, none⟩ v1).setCell ⟨r, 2, none⟩ v2).cell? ⟨r, 1, none⟩ = some v1 ∧ (((W.setCell ⟨r, 0, none⟩ v0).setCell ⟨r, 1, none⟩ v1).setCell ⟨r, 2, none⟩ v2).cell? ⟨r, 2, none⟩ = some v2 := by
  refine ⟨?_, ?_, ?_⟩ <;> simp [World.cell?_setCell_other, go_sem, h0, h1, h2]
attribute [local go_sem ↓] Go.wp_at_zero Go.wp_at_succ

end Go.Proofs.YtoefhlapfnjbjaaGreatDoor
