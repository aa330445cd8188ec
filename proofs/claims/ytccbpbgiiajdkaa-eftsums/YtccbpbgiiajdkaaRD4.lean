/- The document's dyadic numbers, fourth part: Neg, Twice, Shift; the program's Neg, Abs, Shift in the same words. -/
import Derived.Test.YtccbpbgiiajdkaaRD3
import Derived.Test.YtccbpbgiiajdkaaPShift
namespace Go.Proofs.Ytccbpbgiiajdkaa
open Go.RowKit



/-- What Shift answers. -/
def shB (m : Nat) (e i : Int) : Bool := rightB m e && decide (-65536 ≤ i ∧ i ≤ 65536)
def shE (s : Bool) (m : Nat) (e i : Int) : Int := if shB m e i = true then roomE (formD s m (e + i)) else 2
def shP (s : Bool) (m : Nat) (e i : Int) : Bool × Nat × Int := if shB m e i = true then roomP (formD s m (e + i)) else (false, 0, 0)
theorem sh_no {s : Bool} {m : Nat} {e i : Int} (h : shB m e i = false) : shE s m e i = 2 ∧ shP s m e i = (false, 0, 0) := by unfold shE shP; rw [if_neg (by rw [h]; decide), if_neg (by rw [h]; decide)]; exact ⟨rfl, rfl⟩
theorem sh_yes {s : Bool} {m : Nat} {e i : Int} (h : shB m e i = true) : shE s m e i = roomE (formD s m (e + i)) ∧ shP s m e i = roomP (formD s m (e + i)) := by unfold shE shP; rw [if_pos h, if_pos h]; exact ⟨rfl, rfl⟩


theorem room_neg (p : Bool × Nat × Int) : roomE (negD p) = roomE p := rfl
theorem room_abs (p : Bool × Nat × Int) : roomE (absD p) = roomE p := rfl
/-- Neg and Abs of the one form: the error is Canon's. -/
def ngP (s : Bool) (m : Nat) (e : Int) : Bool × Nat × Int := if canE s m e = 0 then negD (canP s m e) else (false, 0, 0)
theorem roomP_neg (p : Bool × Nat × Int) : roomP (negD p) = if roomE p = 0 then negD (roomP p) else (false, 0, 0) := by
  unfold roomP roomE
  have hb : roomB (negD p) = roomB p := rfl
  rw [hb]
  by_cases h : roomB p = true
  · rw [if_pos h, if_pos h, if_pos h]; rfl
  · rw [if_neg h, if_neg h, if_neg h]; rfl
theorem roomP_abs (p : Bool × Nat × Int) : roomP (absD p) = absD (roomP p) := by
  unfold roomP
  have hb : roomB (absD p) = roomB p := rfl
  rw [hb]
  by_cases h : roomB p = true
  · rw [if_pos h, if_pos h]
  · rw [if_neg h, if_neg h]; rfl
theorem canP_can (s : Bool) (m : Nat) (e : Int) : CanD (canP s m e) := by
  unfold canP roomP
  split
  · split
    · exact form_can s m e
    · exact Or.inl rfl
  · exact Or.inl rfl
theorem neg_can {p : Bool × Nat × Int} (h : CanD p) : formD (!p.1) p.2.1 p.2.2 = negD p := by
  rcases h with h | h
  · rw [h, form_zero]; rfl
  · rw [form_odd _ h]
    unfold negD
    rw [decide_eq_false (by omega)]
    simp
end Go.Proofs.Ytccbpbgiiajdkaa
