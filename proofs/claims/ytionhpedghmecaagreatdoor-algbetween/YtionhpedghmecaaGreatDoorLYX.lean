/- What the rows' condition on the listed variable gives: math/bits's table stands in its cells; and the start that the initialisers lay meets it. What the rows' conditions give: math/bits's table stands in its cells; dyadic numbers that came in by value. -/
import Derived.Test.YtionhpedghmecaaGreatDoorTMB
import Derived.ProofKit
import Derived.LaidMore
import Derived.OpenShut
import Derived.Stop.Joined
import Derived.Lib.LaidTab
import Derived.Lib.SmallJoins
import Derived.SizedLaws
import Derived.Deep.DeepHandedRow

namespace Go.Proofs.YtionhpedghmecaaGreatDoor
open Go.ChangeShapes Go.WideShapes Go.ChangeAt Go.RowKit
theorem own : ownKnob Tryz.prog.godebug = none := by kernel_rfl
theorem gTab : Tryz.prog.globalNamed "math/bits.deBruijn64tab" = some 0 := by kernel_rfl
theorem tTab : (Tryz.prog.globals[0]?).map (·.type) = some 144 := by kernel_rfl
def lay1 : List (String × DataW Unit) := [("math/bits.deBruijn64tab", Rows.laid_math_bits_deBruijn64tab)]
theorem tab_data : (Rows.laid_math_bits_deBruijn64tab : DataW Unit) = Lib.tabData .u8 (Lib.deBruijn64tab.map fun n : Nat => (n : Int)) := by kernel_rfl
theorem u8_under : Tryz.prog.underlying 5 = some (.int .u8) := Tryz.underlying5
theorem u8_cells : Tryz.prog.cellsOf 5 = 1 := by kernel_rfl
theorem tab_cells : Tryz.prog.cellsOf 144 = 64 := by kernel_rfl
theorem tab_under : Tryz.prog.underlying 144 = some (.array 64 5) := Tryz.underlying144
theorem tab_of {W : World} (h : laidMetH Tryz.prog lay1 W) : Tab W := by
 rw [MakeChecks.laidMetH_plain _ _ _ (by kernel_rfl)] at h
 unfold lay1 at h
 rw [tab_data] at h
 have hT := Lib.tabIs_of_head gTab tTab tab_under u8_under u8_cells tab_cells h
 have hc : ∀ j, j < 64 → W.cell? ⟨0, j, none⟩ = some (.int .u8 (Lib.deBruijn64tab.getD j 0)) := by
  intro j hj
  have hl : Lib.deBruijn64tab.length = 64 := by decide
  have := hT.cell gTab j (by simpa [hl] using hj)
  rw [this]
  have e : ((Lib.deBruijn64tab.map fun n : Nat => (n : Int)).getD j 0) = ((Lib.deBruijn64tab.getD j 0 : Nat) : Int) := by
   rw [List.getD_eq_getElem?_getD, List.getD_eq_getElem?_getD, List.getElem?_map]
   cases Lib.deBruijn64tab[j]? <;> rfl
  rw [e]
 refine ⟨?_, hc⟩
 have h0 := hc 0 (by decide)
 rcases Nat.lt_or_ge 0 W.heap.size with hlt | hge
 ·exact hlt
 ·exfalso
  simp [World.cell?, hge] at h0
theorem U_of {x : Int} (h : (Lit.int .u64 x).wf = true) : U x := by
 simp only [Lit.wf, IntKind.min, IntKind.max, IntKind.signed, IntKind.bits, Bool.and_eq_true] at h
 unfold U
 simp at h
 omega
end Go.Proofs.YtionhpedghmecaaGreatDoor

namespace Go.Proofs.YtionhpedghmecaaGreatDoor
open Go.ChangeShapes Go.WideShapes Go.ChangeAt Go.RowKit
end Go.Proofs.YtionhpedghmecaaGreatDoor
