/- Short names. -/
import Derived.Test.YtahpdcbmekgkfaaGreatDoorProg
import Derived.Calls
namespace Go.Proofs.YtahpdcbmekgkfaaGreatDoor
theorem sA {α : Type} (l : List α) (i : Nat) (a : α) : l.toArray.setIfInBounds i a = (l.set i a).toArray := List.setIfInBounds_toArray ..
theorem sZ {α : Type} (a b : α) (l : List α) : (a :: l).set 0 b = b :: l := rfl
theorem sS {α : Type} (a b : α) (l : List α) (n : Nat) : (a :: l).set (n + 1) b = a :: l.set n b := rfl
theorem le1 (n : Nat) : n ≤ n + 1 := by omega
theorem le2 (n : Nat) : n ≤ n + 1 + 1 := by omega
theorem le3 (n : Nat) : n ≤ n + 1 + 1 + 1 := by omega
theorem cM {P : Program} {f : FuncId} {args : Array Value} {w : World} {R S : Ending → World → Prop} (h : Calls P f args w R) (k : ∀ e W, R e W → S e W) : Calls P f args w S := h.mono k
end Go.Proofs.YtahpdcbmekgkfaaGreatDoor
