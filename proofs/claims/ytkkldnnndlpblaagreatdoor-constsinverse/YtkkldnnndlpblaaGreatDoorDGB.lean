/- The walk of plus. The walks of Add. -/
import Derived.Test.YtkkldnnndlpblaaGreatDoorDGA

namespace Go.Proofs.YtkkldnnndlpblaaGreatDoor
open Go.RowKit

/-- The sum of two numbers in their one form: the amounts brought to the lower exponent. -/
def addHi (s : Bool) (A : Nat) (t : Bool) (b : Nat) (e : Int) : Bool × Nat × Int := if s = t then formD s (A + b) e else if b ≤ A then formD s (A - b) e else formD t (b - A) e

def sumD (x y : Bool × Nat × Int) : Bool × Nat × Int :=
  if x.2.1 = 0 then y else if y.2.1 = 0 then x else
  if x.2.2 < y.2.2 then addHi y.1 (y.2.1 * 2 ^ (y.2.2 - x.2.2).toNat) x.1 x.2.1 x.2.2 else addHi x.1 (x.2.1 * 2 ^ (x.2.2 - y.2.2).toNat) y.1 y.2.1 y.2.2

theorem NumR.low {B B' : Nat} {w : World} {v : Value} {p : Bool × Nat × Int} (h : NumR B w v p) (hB : B' ≤ B) : NumR B' w v p := by
  rcases h with ⟨q, h⟩ | h
  · exact Or.inl ⟨q, h.low hB⟩
  · exact Or.inr h

end Go.Proofs.YtkkldnnndlpblaaGreatDoor

namespace Go.Proofs.YtkkldnnndlpblaaGreatDoor
open Go.RowKit

theorem calls_guard {P : Program} {f : FuncId} {A : Array Value} {w : World} {Q : Ending → World → Prop} (A' : Array Value) (hA : A = A') (h : Calls P f A' w Q) : Calls P f A w Q := by rw [hA]; exact h

theorem NumR.far {B : Nat} {w : World} {v : Value} {p : Bool × Nat × Int} (h : NumR B w v p) (q : Addr) (u : Value) (hq : q.block < B) : NumR B (w.setCell q u) v p := by
  rcases h with ⟨g, ao, n, c, e, h1, h2, h3, h4⟩ | h
  · exact Or.inl ⟨g, ao, n, c, e, h1, h2, h3, h4.far q u hq⟩
  · exact Or.inr h

theorem NumR.keep {B : Nat} {w w' : World} {v : Value} {p : Bool × Nat × Int} (h : NumR B w v p) (hb : Below w.heap.size w w') : NumR B w' v p := by
  rcases h with ⟨q, h⟩ | h
  · exact Or.inl ⟨q, h.keep hb⟩
  · exact Or.inr h

theorem form_bounds (s : Bool) (m : Nat) (e : Int) (h : rightB m e = true) : -100000000 ≤ (formD s m e).2.2 ∧ (formD s m e).2.2 ≤ 100000000 := by
  obtain ⟨h1, h2, h3⟩ := rightB_yes h
  by_cases h0 : m = 0
  · rw [h0, form_zero]; exact ⟨by decide, by decide⟩
  · rw [form_pos s h0]
    have := tz_le_blen m
    have := (great_not m).1 h1
    show _ ≤ e + (tz m : Int) ∧ e + (tz m : Int) ≤ _
    omega

theorem form_fit (s : Bool) (m : Nat) (e : Int) (h : rightB m e = true) : greatB (formD s m e).2.1 = false := great_mono (form_amount_le _ _ _) (rightB_yes h).1

theorem right_exp {m : Nat} {e : Int} (h : rightB m e = true) : -4611686018427387904 ≤ e ∧ e ≤ 4611686018427387904 := by
  have := (rightB_yes h).2; omega

theorem hidN {B : Nat} {w : World} {s : Bool} {a : Option Addr} {n c : Nat} {e : Int} {p : Bool × Nat × Int} (h1 : s = p.1) (h2 : e = p.2.2) (h3 : Hid (n = (wordsOf p.2.1).length)) (h4 : Hid (n = 0 → a = none ∧ c = 0)) (h5 : n ≤ 1024) (h6 : OwnW B w a n c (wordsOf p.2.1)) : NumAt B w (numV s a n c e false) p := by
  subst h1; subst h2
  exact ⟨a, n, c, rfl, h3, h4, h5, h6⟩

attribute [local go_sem ↓] Go.wp_at_zero Go.wp_at_succ

end Go.Proofs.YtkkldnnndlpblaaGreatDoor
