/- The program's dyadic numbers: times, Sub, Mul. -/
import Derived.Test.YtlbaphijmonjoaaTMC
import Derived.Test.YtlbaphijmonjoaaNMul2
import Derived.Test.YtlbaphijmonjoaaDCan2
import Derived.Deep.CutRange
import Derived.Deep.RegionHeld3
namespace Go.Proofs.Ytlbaphijmonjoaa
open Go.RowKit

/-- The product of two numbers. -/
def mulD (x y : Bool × Nat × Int) : Bool × Nat × Int := formD (!(x.1 == y.1)) (x.2.1 * y.2.1) (x.2.2 + y.2.2)
theorem NumAt.kept {B : Nat} {w w' : World} {v : Value} {p : Bool × Nat × Int} (h : NumAt B w v p) (hb : Below w.heap.size w w') : NumAt B w' v p := by
  obtain ⟨ao, n, c, h0, h1, h2, h3, h4⟩ := h
  exact ⟨ao, n, c, h0, h1, h2, h3, h4.keep hb⟩
theorem NumAt.lows {B B' : Nat} {w : World} {v : Value} {p : Bool × Nat × Int} (h : NumAt B w v p) (hB : B' ≤ B) : NumAt B' w v p := by
  obtain ⟨ao, n, c, h0, h1, h2, h3, h4⟩ := h
  exact ⟨ao, n, c, h0, h1, h2, h3, h4.low hB⟩
theorem numAt_shape {B : Nat} {w : World} {v : Value} {p : Bool × Nat × Int} (h : NumAt B w v p) : ∃ (s : Bool) (a : Option Addr) (n c : Nat) (e : Int), v = numV s a n c e false ∧ Hid (NumAt B w (numV s a n c e false) p) := by
  obtain ⟨ao, n, c, rfl, h⟩ := h
  exact ⟨p.1, ao, n, c, p.2.2, rfl, ⟨ao, n, c, rfl, h⟩⟩
theorem negD_canon {x : Bool × Nat × Int} (h : CanD x) : CanD (negD x) := by
  rcases h with h | h
  · left; rw [h]; rfl
  · right; exact h
theorem mul_odd {x y : Bool × Nat × Int} (cx : CanD x) (cy : CanD y) : greatB (x.2.1 * y.2.1) = true → (x.2.1 * y.2.1) % 2 = 1 := by
  intro hg
  rcases cx with q | q
  · rw [q] at hg; simp [great_zero] at hg
  · rcases cy with q' | q'
    · rw [q'] at hg; simp [great_zero] at hg
    · rw [Nat.mul_mod, q, q']


theorem set4_cell {W : World} {b o r : Nat} {v0 v1 v2 v3 x : Value} (h : W.cell? ⟨b, o, none⟩ = some x) (hne : b ≠ r) : ((((W.setCell ⟨r, 0, none⟩ v0).setCell ⟨r, 1, none⟩ v1).setCell ⟨r, 2, none⟩ v2).setCell ⟨r, 3, none⟩ v3).cell? ⟨b, o, none⟩ = some x := cell_set4 h hne
attribute [local go_sem ↓] Go.wp_at_zero Go.wp_at_succ






end Go.Proofs.Ytlbaphijmonjoaa
