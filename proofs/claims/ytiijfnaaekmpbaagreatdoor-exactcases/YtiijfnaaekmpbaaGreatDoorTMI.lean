/- The walk of math/bits.Div64: a quotient of two words by one. The walk of the division of a natural by one word, in place. -/
import Derived.Test.YtiijfnaaekmpbaaGreatDoorTMB
import Derived.Test.YtiijfnaaekmpbaaGreatDoorNShelf
import Derived.Test.YtiijfnaaekmpbaaGreatDoorTMA
import Derived.BigRegion

namespace Go.Proofs.YtiijfnaaekmpbaaGreatDoor
open Go.RowKit
theorem nret_two {k l : IntKind} {a b c d : Int} (h : a = b) (h' : c = d) : Ending.returned (.tuple #[.int k a, .int l c]) = .returned (.tuple #[.int k b, .int l d]) := by rw [h, h']
theorem below_grown {w w' : World} (h : Below w.heap.size w w') (row : Option Nat) : w.grownBy w' row := ⟨h.os, h.tape, h.output, h.size, fun k hk _ => h.block k hk⟩
theorem set_grown (w : World) (p : Addr) (u : Value) : w.grownBy (w.setCell p u) (some p.block) := ⟨rfl, rfl, rfl, by simp, fun k _ hne => Below.heap_setCell _ _ _ _ (fun e => hne (by rw [e]))⟩
theorem grown_refl (w : World) (row : Option Nat) : w.grownBy w row := ⟨rfl, rfl, rfl, Nat.le_refl _, fun _ _ _ => rfl⟩
theorem IsW.grown {w w' : World} {a : Option Addr} {len cap : Nat} {xs : List Int} {row : Option Nat} (h : IsW w a len cap xs) (hg : w.grownBy w' row) (hne : ∀ b off, a = some ⟨b, off, none⟩ → some b ≠ row) : IsW w' a len cap xs := by
 refine ⟨h.1, h.2.1, h.2.2.1, fun i hi => ?_⟩
 obtain ⟨b, off, e1, e2, e3⟩ := h.2.2.2 i hi
 exact ⟨b, off, e1, Nat.lt_of_lt_of_le e2 hg.size, hg.cell e3 (hne b off e1)⟩
theorem OwnW.grown {B : Nat} {w w' : World} {a : Option Addr} {len cap : Nat} {xs : List Int} {row : Option Nat} (h : OwnW B w a len cap xs) (hg : w.grownBy w' row) (hne : ∀ b off, a = some ⟨b, off, none⟩ → some b ≠ row) : OwnW B w' a len cap xs := by
 refine ⟨h.1.grown hg hne, fun b off i e hi => ?_⟩
 obtain ⟨b2, off2, e1, e2, _⟩ := h.1.2.2.2 i hi
 rw [e] at e1
 simp only [Option.some.injEq, Addr.mk.injEq, and_true] at e1
 obtain ⟨rfl, rfl⟩ := e1
 exact ⟨(h.2 b off i e hi).1, (World.frozen?_of_block (a := ⟨b, off + i, none⟩) (hg.block b e2 (hne b off e))).trans (h.2 b off i e hi).2⟩
theorem word_nat0 (xs : List Int) (h : AllU xs) (k : Nat) : ∃ x : Nat, xs.getD k 0 = (x : Int) ∧ x < 18446744073709551616 := by
 have := h.get k
 exact ⟨(xs.getD k 0).toNat, by omega, by omega⟩
end Go.Proofs.YtiijfnaaekmpbaaGreatDoor
