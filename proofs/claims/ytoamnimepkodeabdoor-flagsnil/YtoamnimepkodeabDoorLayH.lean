/- A step of an environment that came in: a kind and flags. -/
import Derived.Test.YtoamnimepkodeabDoorLayF
import Derived.Lib.SmallJoins
namespace Go.Proofs.YtoamnimepkodeabDoor
open Go.ChangeShapes Go.WideShapes Go.ChangeAt Go.RowKit

theorem step_cells : Tryd.prog.cellsOf 56 = 2 := by kernel_rfl
theorem open_step {H : Type} {enc : TypeId × Value → H} {W : World} {base : Nat} {v : Value} {d : DataW H} {p : List MemPlace}
    (hv : Value.okWide Tryd.prog W .any base 56 v) (h : DataW.Trod enc Tryd.prog W 0 (fun _ => true) true 56 v d p) :
    ∃ k f : Int, v = .agg #[.int .u8 k, .int .u8 f] ∧ F k ∧ F f := by
  obtain ⟨c0, c1, y0, y1, m, rfl, _, _, hy0, hy1⟩ := Go.Joins.open_agg2 Tryd.underlying56 (by kernel_rfl) step_cells hv h
  obtain ⟨k, e0, _, wk⟩ := DataW.trod_int Tryd.underlying54 hy0
  obtain ⟨f, e1, _, wf⟩ := DataW.trod_int Tryd.underlying34 hy1
  simp at e0 e1
  subst e0 e1
  exact ⟨k, f, rfl, F_of wk, F_of wf⟩
end Go.Proofs.YtoamnimepkodeabDoor
