/- A list of one word that the text lays. -/
import Derived.Test.YtfafhinjcligaaaDoorNEq
namespace Go.Proofs.YtfafhinjcligaaaDoor
open Go.RowKit

theorem isW_lit1 (w : World) (x : Int) (h0 : 0 ≤ x) (h1 : x ≤ 18446744073709551615) : IsW (w.alloc (.cells #[.int .u64 x] 44)) (some ⟨w.heap.size, 0, none⟩) 1 1 [x] := by
  refine ⟨rfl, fun y hy => by simp at hy; subst hy; exact ⟨h0, h1⟩, ⟨Nat.le_refl _, fun e => by cases e⟩, fun i hi => ?_⟩
  obtain rfl : i = 0 := by omega
  exact ⟨w.heap.size, 0, rfl, by simp, by go_simp⟩
end Go.Proofs.YtfafhinjcligaaaDoor
