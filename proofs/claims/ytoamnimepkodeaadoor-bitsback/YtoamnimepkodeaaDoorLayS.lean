/- A value of the struct api.Fields that came in: a sign, an exponent, a fraction. -/
import Derived.Test.YtoamnimepkodeaaDoorLay
import Derived.Lib.SmallJoins
namespace Go.Proofs.YtoamnimepkodeaaDoor
open Go.ChangeShapes Go.WideShapes Go.ChangeAt Go.RowKit

theorem fields_cells : Tryd.prog.cellsOf 24 = 3 := by kernel_rfl
theorem open_fields {H : Type} {enc : TypeId × Value → H} {W : World} {base : Nat} {v : Value} {d : DataW H} {p : List MemPlace}
    (hv : Value.okWide Tryd.prog W .any base 24 v) (h : DataW.Trod enc Tryd.prog W 0 (fun _ => true) true 24 v d p) :
    ∃ (b : Bool) (e f : Int), v = .agg #[.bool b, .int .i64 e, .int .u64 f] ∧ U f := by
  obtain ⟨c0, c1, c2, y0, y1, y2, m, rfl, _, _, hy0, hy1, hy2⟩ := Go.Joins.open_agg3 Tryd.underlying24 (by kernel_rfl) fields_cells hv h
  obtain ⟨b, e0, _⟩ := DataW.trod_bool Tryd.underlying4 hy0
  obtain ⟨e, e1, _, _⟩ := DataW.trod_int Tryd.underlying3 hy1
  obtain ⟨f, e2, _, wf⟩ := DataW.trod_int Tryd.underlying22 hy2
  simp at e0 e1 e2
  subst e0 e1 e2
  exact ⟨b, e, f, rfl, U_of wf⟩
end Go.Proofs.YtoamnimepkodeaaDoor
