/- What the rows of exact give: math/bits's table, the heights and the slants stand in their cells. -/
import Derived.Test.YtiijfnaaekmpbaaGreatDoorECI
import Derived.ProofKit
import Derived.LaidMore
import Derived.OpenShut
import Derived.Stop.Joined
import Derived.Lib.LaidTab
import Derived.SizedLaws
import Derived.Deep.DeepHandedRow
import Derived.Lib.SmallJoins
namespace Go.Proofs.YtiijfnaaekmpbaaGreatDoor
open Go.ChangeShapes Go.WideShapes Go.ChangeAt Go.RowKit
theorem own : ownKnob Tryz.prog.godebug = none := by kernel_rfl
theorem gTab : Tryz.prog.globalNamed "math/bits.deBruijn64tab" = some 2 := by kernel_rfl
theorem tTab : (Tryz.prog.globals[2]?).map (·.type) = some 146 := by kernel_rfl
theorem gHei : Tryz.prog.globalNamed "ulp/exact.heights" = some 1 := by kernel_rfl
theorem tHei : (Tryz.prog.globals[1]?).map (·.type) = some 102 := by kernel_rfl
theorem gSla : Tryz.prog.globalNamed "ulp/exact.slants" = some 0 := by kernel_rfl
theorem tSla : (Tryz.prog.globals[0]?).map (·.type) = some 94 := by kernel_rfl
def lay3 : List (String × DataW Unit) := [("math/bits.deBruijn64tab", Rows.laid_math_bits_deBruijn64tab), ("ulp/exact.heights", Rows.laid_ulp_exact_heights), ("ulp/exact.slants", Rows.laid_ulp_exact_slants)]
theorem tab_data : (Rows.laid_math_bits_deBruijn64tab : DataW Unit) = Lib.tabData .u8 (Lib.deBruijn64tab.map fun n : Nat => (n : Int)) := by kernel_rfl
theorem hei_data : (Rows.laid_ulp_exact_heights : DataW Unit) = Lib.tabData .i64 [0, 1, 0, -1] := by kernel_rfl
theorem sla_data : (Rows.laid_ulp_exact_slants : DataW Unit) = Lib.tabData .i64 [3, 2, 1] := by kernel_rfl
theorem u8_cells : Tryz.prog.cellsOf 5 = 1 := by kernel_rfl
theorem i64_cells : Tryz.prog.cellsOf 2 = 1 := by kernel_rfl
theorem tab_cells : Tryz.prog.cellsOf 146 = 64 := by kernel_rfl
theorem hei_cells : Tryz.prog.cellsOf 102 = 4 := by kernel_rfl
theorem sla_cells : Tryz.prog.cellsOf 94 = 3 := by kernel_rfl
theorem laid_rest {P : Program} {x : String × DataW Unit} {rest : List (String × DataW Unit)} {W : World} (h : laidMet P (x :: rest) W) : laidMet P rest W := by
 obtain ⟨ps, ⟨g, t, cs, fuel, p, q, _, _, _, _, hr, rfl⟩, hnd, hall⟩ := h
 exact ⟨q, hr, (List.nodup_append.1 hnd).2.1, fun b off hm => hall b off (List.mem_append_right _ hm)⟩
theorem tab_of {W : World} {rest : List (String × DataW Unit)} (hh : laidMet Tryz.prog (("math/bits.deBruijn64tab", Rows.laid_math_bits_deBruijn64tab) :: rest) W) : Tab W := by
 rw [tab_data] at hh
 have hT := Lib.tabIs_of_head gTab tTab Tryz.underlying146 Tryz.underlying5 u8_cells tab_cells hh
 have hc : ∀ j, j < 64 → W.cell? ⟨2, j, none⟩ = some (.int .u8 (Lib.deBruijn64tab.getD j 0)) := by
  intro j hj
  have hl : Lib.deBruijn64tab.length = 64 := by decide
  have := hT.cell gTab j (by simpa [hl] using hj)
  rw [this]
  have e : ((Lib.deBruijn64tab.map fun n : Nat => (n : Int)).getD j 0) = ((Lib.deBruijn64tab.getD j 0 : Nat) : Int) := by
   rw [List.getD_eq_getElem?_getD, List.getD_eq_getElem?_getD, List.getElem?_map]
   cases Lib.deBruijn64tab[j]? <;> rfl
  rw [e]
 refine ⟨?_, hc⟩
 have h0 := hc 0 (by decide)
 exact World.block_lt_of_cell? _ _ h0
theorem hei_of {W : World} {rest : List (String × DataW Unit)} (hh : laidMet Tryz.prog (("ulp/exact.heights", Rows.laid_ulp_exact_heights) :: rest) W) : 1 < W.heap.size ∧ ∀ j, j < 4 → W.cell? ⟨1, j, none⟩ = some (.int .i64 ([0, 1, 0, -1].getD j 0)) := by
 rw [hei_data] at hh
 have hT := Lib.tabIs_of_head gHei tHei Tryz.underlying102 Tryz.underlying2 i64_cells hei_cells hh
 have hc : ∀ j, j < 4 → W.cell? ⟨1, j, none⟩ = some (.int .i64 ([0, 1, 0, -1].getD j 0)) := fun j hj => hT.cell gHei j (by simpa using hj)
 exact ⟨World.block_lt_of_cell? _ _ (hc 0 (by decide)), hc⟩
theorem sla_of {W : World} {rest : List (String × DataW Unit)} (hh : laidMet Tryz.prog (("ulp/exact.slants", Rows.laid_ulp_exact_slants) :: rest) W) : 0 < W.heap.size ∧ ∀ j, j < 3 → W.cell? ⟨0, j, none⟩ = some (.int .i64 ([3, 2, 1].getD j 0)) := by
 rw [sla_data] at hh
 have hT := Lib.tabIs_of_head gSla tSla Tryz.underlying94 Tryz.underlying2 i64_cells sla_cells hh
 have hc : ∀ j, j < 3 → W.cell? ⟨0, j, none⟩ = some (.int .i64 ([3, 2, 1].getD j 0)) := fun j hj => hT.cell gSla j (by simpa using hj)
 exact ⟨World.block_lt_of_cell? _ _ (hc 0 (by decide)), hc⟩
theorem tabs_of {W : World} (hh : laidMetH Tryz.prog lay3 W) : TabE W := by
 rw [MakeChecks.laidMetH_plain _ _ _ (by kernel_rfl)] at hh
 unfold lay3 at hh
 have h1 := laid_rest hh
 have h2 := laid_rest h1
 exact ⟨tab_of hh, hei_of h1, sla_of h2⟩
theorem U_of {x : Int} (h : (Lit.int .u64 x).wf = true) : U x := by
 simp only [Lit.wf, IntKind.min, IntKind.max, IntKind.signed, IntKind.bits, Bool.and_eq_true] at h
 simp at h
 unfold U
 omega
theorem F_of {x : Int} (h : (Lit.int .u8 x).wf = true) : 0 ≤ x ∧ x ≤ 255 := by
 simp only [Lit.wf, IntKind.min, IntKind.max, IntKind.signed, IntKind.bits, Bool.and_eq_true] at h
 simp at h
 omega
end Go.Proofs.YtiijfnaaekmpbaaGreatDoor
