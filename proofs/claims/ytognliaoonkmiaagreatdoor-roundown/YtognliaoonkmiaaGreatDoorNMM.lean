/- The walk of math/bits.Div64: a quotient of two words by one. The walk of the division of a natural by one word, in place. The walks of products of two words, and of a row times a word added in place. The walks of products of naturals. -/
import Derived.Test.YtognliaoonkmiaaGreatDoorTMB
import Derived.Test.YtognliaoonkmiaaGreatDoorNShelf
import Derived.Test.YtognliaoonkmiaaGreatDoorTMA
import Derived.BigRegion

namespace Go.Proofs.YtognliaoonkmiaaGreatDoor
open Go.RowKit

end Go.Proofs.YtognliaoonkmiaaGreatDoor

namespace Go.Proofs.YtognliaoonkmiaaGreatDoor
open Go.RowKit

theorem below_grown {w w' : World} (h : Below w.heap.size w w') (row : Option Nat) : w.grownBy w' row := ⟨h.os, h.tape, h.output, h.size, fun k hk _ => h.block k hk⟩
theorem set_grown (w : World) (p : Addr) (u : Value) : w.grownBy (w.setCell p u) (some p.block) := ⟨rfl, rfl, rfl, by simp, fun k _ hne => Below.heap_setCell _ _ _ _ (fun e => hne (by rw [e]))⟩
theorem grown_refl (w : World) (row : Option Nat) : w.grownBy w row := ⟨rfl, rfl, rfl, Nat.le_refl _, fun _ _ _ => rfl⟩
theorem IsW.grown {w w' : World} {a : Option Addr} {len cap : Nat} {xs : List Int} {row : Option Nat} (h : IsW w a len cap xs) (hg : w.grownBy w' row) (hne : ∀ b off, a = some ⟨b, off, none⟩ → some b ≠ row) : IsW w' a len cap xs := by
  refine ⟨h.1, h.2.1, h.2.2.1, fun i hi => ?_⟩
  obtain ⟨b, off, e1, e2, e3⟩ := h.2.2.2 i hi
  exact ⟨b, off, e1, Nat.lt_of_lt_of_le e2 hg.size, hg.cell e3 (hne b off e1)⟩
theorem OwnW.grown {B : Nat} {w w' : World} {a : Option Addr} {len cap : Nat} {xs : List Int} {row : Option Nat} (h : OwnW B w a len cap xs) (hg : w.grownBy w' row) (hne : ∀ b off, a = some ⟨b, off, none⟩ → some b ≠ row) : OwnW B w' a len cap xs := by
  refine ⟨h.1.grown hg hne, fun b off i e hi => ?_⟩
  obtain ⟨b2, off2, e1, e2, _⟩ := h.1.2.2.2 i hi
  rw [e] at e1
  simp only [Option.some.injEq, Addr.mk.injEq, and_true] at e1
  obtain ⟨rfl, rfl⟩ := e1
  exact ⟨(h.2 b off i e hi).1, (World.frozen?_of_block (a := ⟨b, off + i, none⟩) (hg.block b e2 (hne b off e))).trans (h.2 b off i e hi).2⟩

end Go.Proofs.YtognliaoonkmiaaGreatDoor

namespace Go.Proofs.YtognliaoonkmiaaGreatDoor
open Go.RowKit

/-- Of block g only the n places from off on have turned. -/
structure Upd (g off n : Nat) (w w' : World) : Prop where
  grown : w.grownBy w' (some g)
  cell : ∀ o, (o < off ∨ off + n ≤ o) → w'.cell? ⟨g, o, none⟩ = w.cell? ⟨g, o, none⟩
  frozen : ∀ o, w'.frozen? ⟨g, o, none⟩ = w.frozen? ⟨g, o, none⟩
theorem Upd.refl (g off n : Nat) (w : World) : Upd g off n w w := ⟨grown_refl _ _, fun _ _ => rfl, fun _ => rfl⟩
theorem Upd.trans {g off n : Nat} {a b c : World} (h : Upd g off n a b) (k : Upd g off n b c) : Upd g off n a c := ⟨h.grown.trans k.grown, fun o ho => (k.cell o ho).trans (h.cell o ho), fun o => (k.frozen o).trans (h.frozen o)⟩
theorem Upd.below {g off n : Nat} {a b c : World} (h : Upd g off n a b) (hg : g < b.heap.size) (k : Below b.heap.size b c) : Upd g off n a c := ⟨h.grown.trans (below_grown k _), fun o ho => (k.cell (p := ⟨g, o, none⟩) hg).trans (h.cell o ho), fun o => (k.frozen (p := ⟨g, o, none⟩) hg).trans (h.frozen o)⟩
theorem Upd.set {g off n : Nat} {a b : World} (h : Upd g off n a b) {i : Nat} (hi : i < n) (v : Value) : Upd g off n a (b.setCell ⟨g, off + i, none⟩ v) :=
  ⟨h.grown.trans (set_grown _ _ _), fun o ho => (World.cell?_setCell_other b _ _ _ (fun e => by have := congrArg Addr.off e; simp at this; omega)).trans (h.cell o ho), fun o => (World.frozen?_setCell b _ _ _).trans (h.frozen o)⟩

end Go.Proofs.YtognliaoonkmiaaGreatDoor

namespace Go.Proofs.YtognliaoonkmiaaGreatDoor
open Go.RowKit

end Go.Proofs.YtognliaoonkmiaaGreatDoor
