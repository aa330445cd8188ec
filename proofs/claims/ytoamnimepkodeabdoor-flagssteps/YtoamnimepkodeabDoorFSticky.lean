/- The walk of the statement FlagsSticky: it answers true for any two lists of bytes, where the names stand. -/
import Derived.Test.YtoamnimepkodeabDoorFHeld
namespace Go.Proofs.YtoamnimepkodeabDoor
open Go.RowKit

/-- A slice of bytes that came in: each element lies in its cell. -/
def IsRow (w : World) (a : Option Addr) (len : Nat) (z : Nat → Int) : Prop :=
  len ≤ maxLen ∧ ∀ i, i < len → ∃ b off, a = some ⟨b, off, none⟩ ∧ b < w.heap.size ∧ w.cell? ⟨b, off + i, none⟩ = some (.int .u8 (z i)) ∧ F (z i)
theorem IsRow.at {w w' : World} {a : Option Addr} {len : Nat} {z : Nat → Int} (h : IsRow w a len z) (hb : Below w.heap.size w w') {i : Nat} (hi : i < len) :
    ∃ b off, a = some ⟨b, off, none⟩ ∧ w'.cell? ⟨b, off + i, none⟩ = some (.int .u8 (z i)) ∧ F (z i) := by
  obtain ⟨b, off, h1, h2, h3, h4⟩ := h.2 i hi
  exact ⟨b, off, h1, (hb.cell (p := ⟨b, off + i, none⟩) h2).trans h3, h4⟩
theorem or_set (a b : Int) (h0 : 0 ≤ a) (h1 : a ≤ 31) (k0 : 0 ≤ b) (k1 : b ≤ 31) :
    updV a b = bits .or .u8 a b ∧ 0 ≤ bits .or .u8 a b ∧ bits .or .u8 a b ≤ 31 :=
  set_two (p := fun a b => updV a b = bits .or .u8 a b ∧ 0 ≤ bits .or .u8 a b ∧ bits .or .u8 a b ≤ 31) (by decide +kernel) a b h0 h1 k0 k1
theorem take_set (a b : Int) (h0 : 0 ≤ a) (h1 : a ≤ 31) (k0 : 0 ≤ b) (k1 : b ≤ 31) :
    clrV a b = bits .andNot .u8 a b ∧ 0 ≤ bits .andNot .u8 a b ∧ bits .andNot .u8 a b ≤ 31 :=
  set_two (p := fun a b => clrV a b = bits .andNot .u8 a b ∧ 0 ≤ bits .andNot .u8 a b ∧ bits .andNot .u8 a b ≤ 31) (by decide +kernel) a b h0 h1 k0 k1
theorem test_set (a : Int) (h0 : 0 ≤ a) (h1 : a ≤ 31) : testV a 31 = a := set_all (p := fun a => testV a 31 = a) (by decide +kernel) a h0 h1