/- The walk of the statement FlagsHeld: it answers true for any two bytes, where the names stand. -/
import Derived.Test.YtoamnimepkodeabDoorFBegins
namespace Go.Proofs.YtoamnimepkodeabDoor
open Go.RowKit

/-- What holds of all 32 right sets holds of every one. -/
theorem set_all {p : Int → Prop} (h : ∀ n : Fin 32, p (n.val : Int)) (f : Int) (h0 : 0 ≤ f) (h1 : f ≤ 31) : p f := by
  obtain ⟨n, rfl⟩ := Int.eq_ofNat_of_zero_le h0
  exact h ⟨n, by omega⟩
theorem set_two {p : Int → Int → Prop} (h : ∀ n m : Fin 32, p (n.val : Int) (m.val : Int)) (f g : Int) (h0 : 0 ≤ f) (h1 : f ≤ 31) (k0 : 0 ≤ g) (k1 : g ≤ 31) : p f g := by
  obtain ⟨n, rfl⟩ := Int.eq_ofNat_of_zero_le h0
  obtain ⟨m, rfl⟩ := Int.eq_ofNat_of_zero_le k0
  exact h ⟨n, by omega⟩ ⟨m, by omega⟩
theorem mask_bd (f : Int) (h : F f) : 0 ≤ bits .and .u8 f 31 ∧ bits .and .u8 f 31 ≤ 31 :=
  byte_all (p := fun f => 0 ≤ bits .and .u8 f 31 ∧ bits .and .u8 f 31 ≤ 31) (by decide +kernel) f h
theorem ref_ok (a : Int) (h0 : 0 ≤ a) (h1 : a ≤ 31) : refV a = 0 := set_all (p := fun a => refV a = 0) (by decide +kernel) a h0 h1
theorem upd_zero (a : Int) (h0 : 0 ≤ a) (h1 : a ≤ 31) : updV 0 a = a := set_all (p := fun a => updV 0 a = a) (by decide +kernel) a h0 h1
theorem held_all (a b : Int) (h0 : 0 ≤ a) (h1 : a ≤ 31) (k0 : 0 ≤ b) (k1 : b ≤ 31) : testV (updV (updV 0 b) (updV 0 a)) 31 = bits .or .u8 a b :=
  set_two (p := fun a b => testV (updV (updV 0 b) (updV 0 a)) 31 = bits .or .u8 a b) (by decide +kernel) a b h0 h1 k0 k1