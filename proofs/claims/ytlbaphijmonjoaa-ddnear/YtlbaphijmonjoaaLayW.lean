/- Pairs of floats that came in (a row without a card). -/
import Derived.Test.YtlbaphijmonjoaaRows
import Derived.Test.YtlbaphijmonjoaaChecked
import Derived.RowKit
import Derived.ProofKit
import Derived.LaidMore
import Derived.OpenShut
import Derived.Stop.Joined
import Derived.Lib.SmallJoins
import Derived.SizedLaws
import Derived.KernelRfl
import Derived.Deep.DeepHandedRow
namespace Go.Proofs.Ytlbaphijmonjoaa
open Go.ChangeShapes Go.WideShapes Go.ChangeAt Go.RowKit

theorem own : ownKnob Try.prog.godebug = none := by kernel_rfl
theorem laidOut : laidOutB Try.prog = true := by kernel_rfl
theorem pair_cells : Try.prog.cellsOf 24 = 2 := by kernel_rfl
theorem trod_float64 {H : Type} {enc : TypeId × Value → H} {W : World} {base : Nat} {spare : Nat → Bool} {held : Bool} {fuel : Nat} {v : Value} {x : DataW H × List MemPlace}
    (h : DataW.trod enc Try.prog W base spare held fuel 22 [v] = some x) : ∃ b, v = .float .f64 b ∧ b < 18446744073709551616 := by
  cases fuel with
  | zero => simp [DataW.trod] at h
  | succ n =>
    cases v <;> simp [DataW.trod, Try.underlying22] at h
    rename_i k b
    obtain ⟨⟨rfl, hw⟩, -⟩ := h
    exact ⟨b, rfl, by simpa [Lit.wf] using hw⟩
set_option maxRecDepth 100000 in
theorem open_pair {H : Type} {enc : TypeId × Value → H} {W : World} {base : Nat} {v : Value} {d : DataW H} {p : List MemPlace}
    (hv : Value.okWide Try.prog W .any base 24 v) (h : DataW.Trod enc Try.prog W 0 (fun _ => true) true 24 v d p) :
    ∃ x y : Nat, v = .agg #[.float .f64 x, .float .f64 y] ∧ x < 18446744073709551616 ∧ y < 18446744073709551616 := by
  obtain ⟨c0, c1, y0, y1, m, rfl, _, _, hy0, hy1⟩ := Go.Joins.open_agg2 Try.underlying24 (by kernel_rfl) pair_cells hv h
  obtain ⟨x, rfl, h1⟩ := trod_float64 hy0
  obtain ⟨y, rfl, h2⟩ := trod_float64 hy1
  exact ⟨x, y, rfl, h1, h2⟩
end Go.Proofs.Ytlbaphijmonjoaa
