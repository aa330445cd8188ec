/- Package special: lists of lines in memory. -/
import Derived.Test.YtkkccnpmcbpdnaaGreatDoorSPW4b
import Derived.Test.YtkkccnpmcbpdnaaGreatDoorSPW3b
namespace Go.Proofs.YtkkccnpmcbpdnaaGreatDoor
open Go.RowKit

theorem aItself_is (w : World) : IsA w (.func (.func 82) #[] #[]) aItself := ⟨_, _, rfl, Tryz.call82, fun W _ _ x y _ _ => aItself_calls x y W, fun _ _ h _ => h⟩

/-- the cells of a slice of lines, two a line -/
def IsC (w : World) (a : Option Addr) (len cap : Nat) (vs : List Value) : Prop :=
  vs.length = len * 2 ∧ (len ≤ cap ∧ (a = none → cap = 0)) ∧ ∀ i, i < len * 2 → ∃ b off, a = some ⟨b, off, none⟩ ∧ b < w.heap.size ∧ w.cell? ⟨b, off + i, none⟩ = vs[i]?
theorem IsC.keep {w w' : World} {a : Option Addr} {len cap : Nat} {vs : List Value} (h : IsC w a len cap vs) (hb : Below w.heap.size w w') : IsC w' a len cap vs := by
  obtain ⟨h1, h4, h3⟩ := h
  refine ⟨h1, h4, fun i hi => ?_⟩
  obtain ⟨b, off, e1, e2, e3⟩ := h3 i hi
  exact ⟨b, off, e1, Nat.lt_of_lt_of_le e2 hb.size, (hb.cell (p := ⟨b, off + i, none⟩) e2).trans e3⟩
theorem isC_nil (w : World) : IsC w none 0 0 [] := ⟨rfl, ⟨Nat.le_refl _, fun _ => rfl⟩, fun i hi => absurd hi (by omega)⟩
theorem isC_made (W : World) (arr : Array Value) (T : TypeId) (n : Nat) (h : arr.size = n * 2) : IsC (W.alloc (.cells arr T)) (some ⟨W.heap.size, 0, none⟩) n n arr.toList := by
  refine ⟨by simpa using h, ⟨Nat.le_refl _, fun e => by cases e⟩, fun i _ => ⟨W.heap.size, 0, rfl, by simp, ?_⟩⟩
  rw [Nat.zero_add, World.cell?_alloc_new]
  simp

def Fit (w : World) : List Value → List Li → Prop
  | [], [] => True
  | t :: a :: vs, l :: ls => IsT w t l.1 ∧ IsA w a l.2 ∧ Fit w vs ls
  | _, _ => False
theorem Fit.keep {w w' : World} (hb : Below w.heap.size w w') : ∀ {ls : List Li} {vs : List Value}, Fit w vs ls → Fit w' vs ls
  | [], [], _ => trivial
  | _ :: _, _ :: _ :: _, h => ⟨h.1.keep hb, h.2.1.keep hb, Fit.keep hb h.2.2⟩
  | [], _ :: _, h => by simp [Fit] at h
  | _ :: _, [], h => by simp [Fit] at h
  | _ :: _, [_], h => by simp [Fit] at h
theorem Fit.app {w : World} {ms : List Li} {us : List Value} (hu : Fit w us ms) : ∀ {ls : List Li} {vs : List Value}, Fit w vs ls → Fit w (vs ++ us) (ls ++ ms)
  | [], [], _ => hu
  | _ :: _, _ :: _ :: _, h => ⟨h.1, h.2.1, Fit.app hu h.2.2⟩
  | [], _ :: _, h => by simp [Fit] at h
  | _ :: _, [], h => by simp [Fit] at h
  | _ :: _, [_], h => by simp [Fit] at h
theorem Fit.len {w : World} : ∀ {ls : List Li} {vs : List Value}, Fit w vs ls → vs.length = ls.length * 2
  | [], [], _ => rfl
  | _ :: ls, _ :: _ :: vs, h => by have := Fit.len h.2.2; simp only [List.length_cons]; omega
  | [], _ :: _, h => by simp [Fit] at h
  | _ :: _, [], h => by simp [Fit] at h
  | _ :: _, [_], h => by simp [Fit] at h
theorem Fit.get {w : World} : ∀ {ls : List Li} {vs : List Value} (i : Nat) (l : Li), Fit w vs ls → ls[i]? = some l → ∃ t a, vs[i * 2]? = some t ∧ vs[i * 2 + 1]? = some a ∧ IsT w t l.1 ∧ IsA w a l.2
  | [], _, i, l, _, hi => by simp at hi
  | _ :: _, t :: a :: _, 0, l, h, hi => by
    simp only [List.getElem?_cons_zero, Option.some.injEq] at hi
    subst hi
    exact ⟨t, a, rfl, rfl, h.1, h.2.1⟩
  | _ :: ls, t :: a :: vs, i + 1, l, h, hi => by
    obtain ⟨t', a', e1, e2, e3, e4⟩ := Fit.get i l h.2.2 (by simpa using hi)
    refine ⟨t', a', ?_, ?_, e3, e4⟩
    · rw [show (i + 1) * 2 = i * 2 + 1 + 1 by omega]; simpa using e1
    · rw [show (i + 1) * 2 + 1 = i * 2 + 1 + 1 + 1 by omega]; simpa using e2
  | _ :: _, [], _, _, h, _ => by simp [Fit] at h
  | _ :: _, [_], _, _, h, _ => by simp [Fit] at h
theorem Fit.one {w : World} : ∀ {ls : List Li} {vs : List Value}, Fit w vs ls → ∀ u ∈ vs, u.oneCell' = true
  | [], [], _, _, hu => by simp at hu
  | _ :: _, _ :: _ :: _, h, u, hu => by
    simp only [List.mem_cons] at hu
    rcases hu with rfl | rfl | hu
    · obtain ⟨F, c, rfl, _⟩ := h.1; rfl
    · obtain ⟨F, c, rfl, _⟩ := h.2.1; rfl
    · exact Fit.one h.2.2 u hu
  | [], _ :: _, h, _, _ => by simp [Fit] at h
  | _ :: _, [], h, _, _ => by simp [Fit] at h
  | _ :: _, [_], h, _, _ => by simp [Fit] at h

/-- the measures stand in their variables -/
def Meas (w : World) : Prop :=
  (w.cell? ⟨1, 0, none⟩ = some (.int .u64 4605249457297304856) ∧ w.cell? ⟨1, 1, none⟩ = some (.int .u64 4609753056924675352) ∧ w.cell? ⟨1, 2, none⟩ = some (.int .u64 4612488097114038738) ∧ w.cell? ⟨1, 3, none⟩ = some (.int .u64 4614256656552045848)) ∧
  (w.cell? ⟨2, 0, none⟩ = some (.int .u64 4598175219545276416) ∧ w.cell? ⟨2, 1, none⟩ = some (.int .u64 4602678819172646912) ∧ w.cell? ⟨2, 2, none⟩ = some (.int .u64 4604930618986332160) ∧ w.cell? ⟨2, 3, none⟩ = some (.int .u64 4607182418800017408))
theorem Meas.kept {w w' : World} (h : Meas w) (b : Below w.heap.size w w') : Meas w' :=
  ⟨⟨pcell b h.1.1, pcell b h.1.2.1, pcell b h.1.2.2.1, pcell b h.1.2.2.2⟩, ⟨pcell b h.2.1, pcell b h.2.2.1, pcell b h.2.2.2.1, pcell b h.2.2.2.2⟩⟩

def ML (w : World) (ls : List Li) (r : Ending) (w' : World) : Prop := ∃ a n c vs, r = .returned (.slice a n c) ∧ n = ls.length ∧ IsC w' a n c vs ∧ Fit w' vs ls ∧ Below w.heap.size w w'
/-- a function of no arguments that makes lines -/
def CL (F : Nat) (ls : List Li) : Prop := Body F ∧ ∀ W, Meas W → Calls Tryz.prog F #[] W (ML W ls)
end Go.Proofs.YtkkccnpmcbpdnaaGreatDoor
