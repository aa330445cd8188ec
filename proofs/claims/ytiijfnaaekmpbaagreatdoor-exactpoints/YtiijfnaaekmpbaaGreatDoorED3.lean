/- The document's exact cases: whole numbers, quarters. -/
import Derived.Test.YtiijfnaaekmpbaaGreatDoorED2
import Derived.Test.YtiijfnaaekmpbaaGreatDoorFX
namespace Go.Proofs.YtiijfnaaekmpbaaGreatDoor
open Go.RowKit

/-- a number's cells that hold 0 and may be written -/
def Zr (r : Nat) (W : World) : Prop := W.cell? ⟨r, 0, none⟩ = some (.bool false) ∧ W.cell? ⟨r, 1, none⟩ = some (.slice none 0 0) ∧ W.cell? ⟨r, 2, none⟩ = some (.int .i64 0) ∧ W.frozen? ⟨r, 0, none⟩ = false ∧ W.frozen? ⟨r, 1, none⟩ = false ∧ W.frozen? ⟨r, 2, none⟩ = false
theorem Zr.keep {r : Nat} {W V : World} (h : Zr r W) (b : Below W.heap.size W V) : Zr r V := by
  obtain ⟨z0, z1, z2, f0, f1, f2⟩ := h
  exact ⟨kC b z0, kC b z1, kC b z2, kF b z0 f0, kF b z1 f1, kF b z2 f2⟩
theorem zrA (w : World) : Zr w.heap.size (w.alloc (.cells #[.bool false, .slice none 0 0, .int .i64 0] 27)) := ⟨by go_simp, by go_simp, by go_simp, by go_simp, by go_simp, by go_simp⟩
theorem dyE {B r n c : Nat} {W : World} {P : E3} {a : Option Addr} {v0 v1 v2 : Value} (HN : Hid (n = (wordsOf P.2.1).length)) (hO : OwnW B W a n c (wordsOf P.2.1)) (z0 : W.cell? ⟨r, 0, none⟩ = some (.bool false)) (z1 : W.cell? ⟨r, 1, none⟩ = some (.slice none 0 0)) (z2 : W.cell? ⟨r, 2, none⟩ = some (.int .i64 0)) : DyQ B (((W.setCell ⟨r, 0, none⟩ v0).setCell ⟨r, 1, none⟩ v1).setCell ⟨r, 2, none⟩ v2) (dyV P.1 a n c P.2.2) P := ⟨a, n, c, rfl, HN, hO.set_dy _ _ _ _ _ _ _ _ _ z0 z1 z2⟩
theorem bl3 {r : Nat} {w W : World} {v0 v1 v2 : Value} (h : Below w.heap.size w W) (hr : w.heap.size ≤ r) : Below w.heap.size w (((W.setCell ⟨r, 0, none⟩ v0).setCell ⟨r, 1, none⟩ v1).setCell ⟨r, 2, none⟩ v2) := ((h.setCell (p := ⟨r, 0, none⟩) hr v0).setCell (p := ⟨r, 1, none⟩) hr v1).setCell (p := ⟨r, 2, none⟩) hr v2
theorem cy3 {w W : World} (b : Below w.heap.size w W) {p q r : Addr} {u v x : Value} {G : Prop} (K : W.cell? p = some u → W.cell? q = some v → W.cell? r = some x → G) : w.cell? p = some u → w.cell? q = some v → w.cell? r = some x → G := fun i j k => K (kC b i) (kC b j) (kC b k)

end Go.Proofs.YtiijfnaaekmpbaaGreatDoor
