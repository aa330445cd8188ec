/- What the rows' condition on the listed variable gives: the five names stand in flags.names; and the start that the initialisers lay meets it. -/
import Derived.Test.YtoamnimepkodeabDoorFShow
import Derived.ProofKit
import Derived.LaidMore
import Derived.OpenShut
import Derived.Stop.Joined
namespace Go.Proofs.YtoamnimepkodeabDoor
open Go.ChangeShapes Go.WideShapes Go.ChangeAt Go.RowKit

theorem own : ownKnob Tryd.prog.godebug = none := by kernel_rfl
theorem laidOut : laidOutB Tryd.prog = true := by kernel_rfl
theorem gNames : Tryd.prog.globalNamed "ulp/flags.names" = some 0 := by kernel_rfl
theorem tNames : (Tryd.prog.globals[0]?).map (·.type) = some 81 := by kernel_rfl
def lay1 : List (String × DataW Unit) := [("ulp/flags.names", Rows.laid_ulp_flags_names)]
theorem names_data : (Rows.laid_ulp_flags_names : DataW Unit) = .agg ((List.range 5).map fun j => .lit (.string (nameL j).data.toList)) := by kernel_rfl
theorem str_cells : Tryd.prog.cellsOf 9 = 1 := by kernel_rfl

theorem names_of {W : World} (h : laidMetH Tryd.prog lay1 W) : Names W := by
  rw [MakeChecks.laidMetH_plain _ _ _ (by kernel_rfl)] at h
  unfold lay1 at h
  obtain ⟨ps, ⟨g, t, cs, fuel, p, q, hg, ht, hvar, hd, _, _⟩, _⟩ := h
  obtain rfl := Option.some.inj (gNames.symm.trans hg)
  obtain rfl := Option.some.inj (tNames.symm.trans ht)
  obtain ⟨xs, m, rfl, hx, hlen, hn, hel⟩ := DataW.trod_array Tryd.underlying81 hd
  rw [names_data] at hx
  have hx1 : (List.range 5).map (fun j => (DataW.lit (.string (nameL j).data.toList) : DataW Unit)) = xs.map (·.1) := by
    have := congrArg Prod.fst hx
    simpa using this
  have hc : ∀ j, j < 5 → W.cell? ⟨0, j, none⟩ = some (.string (nameL j)) := by
    intro j hj
    have h1 := hel j hj
    rw [str_cells] at h1
    have h2 : xs[j]? = some xs[j] := List.getElem?_eq_getElem (by omega)
    rw [h2] at h1
    obtain ⟨s, e1, e2, _⟩ := DataW.trod_string Tryd.underlying9 h1
    have h3 := congrArg (·[j]?) hx1
    simp only [List.getElem?_map, h2, e2, Option.map_some, List.getElem?_range hj] at h3
    have h4 : (nameL j).data.toList = s.data.toList := by simpa using h3
    have h5 : nameL j = s := by
      have h6 : (nameL j).data = s.data := Array.toList_inj.1 h4
      cases hA : nameL j; cases s; simp_all
    rw [h5, World.var?_cell hg hvar j]
    have h7 := congrArg (·[0]?) e1
    simp only [List.getElem?_take, List.getElem?_drop] at h7
    simpa using h7
  refine ⟨?_, hc⟩
  have h0 := hc 0 (by decide)
  rcases Nat.lt_or_ge 0 W.heap.size with hlt | hge
  · exact hlt
  · exfalso
    simp [World.cell?, hge] at h0

theorem door_met (os : Os) (args : Array Value) : laidMetH Tryd.prog lay1 ((World.doorLaid Tryd.prog 400 os).forCall (fun _ _ => 0) ⟨#[], args, []⟩).memory :=
  laidMetH_of_parts3 (fuel := 8) (laidMet_of_run' 8 (by kernel_rfl) (by kernel_rfl)) (by kernel_rfl) (by kernel_rfl)
theorem F_of {x : Int} (h : (Lit.int .u8 x).wf = true) : F x := by
  simp only [Lit.wf, IntKind.min, IntKind.max, IntKind.signed, IntKind.bits, Bool.and_eq_true] at h
  unfold F
  simp at h
  omega
end Go.Proofs.YtoamnimepkodeabDoor
