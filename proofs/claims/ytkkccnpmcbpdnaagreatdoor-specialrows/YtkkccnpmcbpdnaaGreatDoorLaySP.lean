/- What the rows of special give: math/bits's table, the names and the measures stand in their cells. -/
import Derived.Test.YtkkccnpmcbpdnaaGreatDoorSPQ
import Derived.ProofKit
import Derived.LaidMore
import Derived.OpenShut
import Derived.Stop.Joined
import Derived.Lib.LaidTab
import Derived.SizedLaws
import Derived.Deep.DeepHandedRow
import Derived.Lib.SmallJoins
namespace Go.Proofs.YtkkccnpmcbpdnaaGreatDoor
open Go.ChangeShapes Go.WideShapes Go.ChangeAt Go.RowKit

theorem own : ownKnob Tryz.prog.godebug = none := by kernel_rfl
theorem laidOut : laidOutB Tryz.prog = true := by kernel_rfl
theorem gTab : Tryz.prog.globalNamed "math/bits.deBruijn64tab" = some 3 := by kernel_rfl
theorem tTab : (Tryz.prog.globals[3]?).map (·.type) = some 104 := by kernel_rfl
theorem gNames : Tryz.prog.globalNamed "ulp/special.names" = some 0 := by kernel_rfl
theorem tNames : (Tryz.prog.globals[0]?).map (·.type) = some 71 := by kernel_rfl
theorem gRad : Tryz.prog.globalNamed "ulp/special.radians" = some 1 := by kernel_rfl
theorem tRad : (Tryz.prog.globals[1]?).map (·.type) = some 87 := by kernel_rfl
theorem gHalf : Tryz.prog.globalNamed "ulp/special.halfTurns" = some 2 := by kernel_rfl
theorem tHalfT : (Tryz.prog.globals[2]?).map (·.type) = some 87 := by kernel_rfl
def lay3 : List (String × DataW Unit) := [("math/bits.deBruijn64tab", Rows.laid_math_bits_deBruijn64tab), ("ulp/special.names", Rows.laid_ulp_special_names), ("ulp/special.radians", Rows.laid_ulp_special_radians), ("ulp/special.halfTurns", Rows.laid_ulp_special_halfTurns)]
theorem tab_data : (Rows.laid_math_bits_deBruijn64tab : DataW Unit) = Lib.tabData .u8 (Lib.deBruijn64tab.map fun n : Nat => (n : Int)) := by kernel_rfl
theorem names_data : (Rows.laid_ulp_special_names : DataW Unit) = .agg ((List.range 37).map fun j => .lit (.string (nmS j).data.toList)) := by kernel_rfl
theorem str_cells : Tryz.prog.cellsOf 9 = 1 := by kernel_rfl
theorem u8_cells : Tryz.prog.cellsOf 5 = 1 := by kernel_rfl
theorem u64_cells : Tryz.prog.cellsOf 23 = 1 := by kernel_rfl
theorem tab_cells : Tryz.prog.cellsOf 104 = 64 := by kernel_rfl
theorem laid_rest {P : Program} {x : String × DataW Unit} {rest : List (String × DataW Unit)} {W : World} (h : laidMet P (x :: rest) W) : laidMet P rest W := by
  obtain ⟨ps, ⟨g, t, cs, fuel, p, q, _, _, _, _, hr, rfl⟩, hnd, hall⟩ := h
  exact ⟨q, hr, (List.nodup_append.1 hnd).2.1, fun b off hm => hall b off (List.mem_append_right _ hm)⟩
theorem tab_of {W : World} {rest : List (String × DataW Unit)} (hh : laidMet Tryz.prog (("math/bits.deBruijn64tab", Rows.laid_math_bits_deBruijn64tab) :: rest) W) : Tab W := by
  rw [tab_data] at hh
  have hT := Lib.tabIs_of_head gTab tTab Tryz.underlying104 Tryz.underlying5 u8_cells tab_cells hh
  have hc : ∀ j, j < 64 → W.cell? ⟨3, j, none⟩ = some (.int .u8 (Lib.deBruijn64tab.getD j 0)) := by
    intro j hj
    have hl : Lib.deBruijn64tab.length = 64 := by decide
    have := hT.cell gTab j (by simpa [hl] using hj)
    rw [this]
    have e : ((Lib.deBruijn64tab.map fun n : Nat => (n : Int)).getD j 0) = ((Lib.deBruijn64tab.getD j 0 : Nat) : Int) := by
      rw [List.getD_eq_getElem?_getD, List.getD_eq_getElem?_getD, List.getElem?_map]
      cases Lib.deBruijn64tab[j]? <;> rfl
    rw [e]
  refine ⟨?_, hc⟩
  have h0 := hc 0 (by decide)
  exact World.block_lt_of_cell? _ _ h0
theorem names_of {W : World} {rest : List (String × DataW Unit)} (h : laidMet Tryz.prog (("ulp/special.names", Rows.laid_ulp_special_names) :: rest) W) : NamesS W := by
  obtain ⟨ps, ⟨g, t, cs, fuel, p, q, hg, ht, hvar, hd, _, _⟩, _⟩ := h
  obtain rfl := Option.some.inj (gNames.symm.trans hg)
  obtain rfl := Option.some.inj (tNames.symm.trans ht)
  obtain ⟨xs, m, rfl, hx, hlen, hn, hel⟩ := DataW.trod_array Tryz.underlying71 hd
  rw [names_data] at hx
  have hx1 : (List.range 37).map (fun j => (DataW.lit (.string (nmS j).data.toList) : DataW Unit)) = xs.map (·.1) := by
    have := congrArg Prod.fst hx
    simpa using this
  intro j hj
  have h1 := hel j hj
  rw [str_cells] at h1
  have h2 : xs[j]? = some xs[j] := List.getElem?_eq_getElem (by omega)
  rw [h2] at h1
  obtain ⟨s, e1, e2, _⟩ := DataW.trod_string Tryz.underlying9 h1
  have h3 := congrArg (·[j]?) hx1
  simp only [List.getElem?_map, h2, e2, Option.map_some, List.getElem?_range hj] at h3
  have h4 : (nmS j).data.toList = s.data.toList := by simpa using h3
  have h5 : nmS j = s := by
    have h6 : (nmS j).data = s.data := Array.toList_inj.1 h4
    cases hA : nmS j; cases s; simp_all
  rw [h5, World.var?_cell hg hvar j]
  have h7 := congrArg (·[0]?) e1
  simp only [List.getElem?_take, List.getElem?_drop] at h7
  simpa using h7
theorem meas_of {W : World} {nm : String} {G : Nat} {D : DataW Unit} {rest : List (String × DataW Unit)} {a b c d : Int} (h : laidMet Tryz.prog ((nm, D) :: rest) W) (hG : Tryz.prog.globalNamed nm = some G) (hT : (Tryz.prog.globals[G]?).map (·.type) = some 87) (hD : D = .agg [.lit (.int .u64 a), .lit (.int .u64 b), .lit (.int .u64 c), .lit (.int .u64 d)]) :
    W.cell? ⟨G, 0, none⟩ = some (.int .u64 a) ∧ W.cell? ⟨G, 1, none⟩ = some (.int .u64 b) ∧ W.cell? ⟨G, 2, none⟩ = some (.int .u64 c) ∧ W.cell? ⟨G, 3, none⟩ = some (.int .u64 d) := by
  obtain ⟨ps, ⟨g, t, cs, fuel, p, q, hg, ht, hvar, hd, _, _⟩, _⟩ := h
  obtain rfl := Option.some.inj (hG.symm.trans hg)
  obtain rfl := Option.some.inj (hT.symm.trans ht)
  subst hD
  obtain ⟨xs, n, _, hx, hl, hlen, hf⟩ := DataW.trod_struct Tryz.underlying87 hd
  have hx1 : [(DataW.lit (.int .u64 a) : DataW Unit), .lit (.int .u64 b), .lit (.int .u64 c), .lit (.int .u64 d)] = xs.map (·.1) := by
    have := congrArg Prod.fst hx
    simpa using this
  have hlen4 : xs.length = 4 := hlen
  have key : ∀ (i : Nat) (v : Int), i < 4 → DataW.trod (fun _ => ()) Tryz.prog W 0 (fun _ => true) false n 23 ((cs.toList.drop i).take (Tryz.prog.cellsOf 23)) = xs[i]? → ([(DataW.lit (.int .u64 a) : DataW Unit), .lit (.int .u64 b), .lit (.int .u64 c), .lit (.int .u64 d)])[i]? = some (.lit (.int .u64 v)) → W.cell? ⟨G, i, none⟩ = some (.int .u64 v) := by
    intro i v hi h1 h3
    rw [u64_cells] at h1
    have h2 : xs[i]? = some xs[i] := List.getElem?_eq_getElem (by omega)
    rw [h2] at h1
    obtain ⟨s, e1, e2, _⟩ := DataW.trod_int Tryz.underlying23 h1
    rw [hx1, List.getElem?_map, h2, e2] at h3
    simp only [Option.map_some, Option.some.injEq, DataW.lit.injEq, Lit.int.injEq, true_and] at h3
    subst h3
    rw [World.var?_cell hg hvar i]
    have h7 := congrArg (·[0]?) e1
    simp only [List.getElem?_take, List.getElem?_drop] at h7
    simpa using h7
  exact ⟨key 0 a (by omega) (hf 0 _ rfl) rfl, key 1 b (by omega) (hf 1 _ rfl) rfl, key 2 c (by omega) (hf 2 _ rfl) rfl, key 3 d (by omega) (hf 3 _ rfl) rfl⟩
theorem tabs_of {W : World} (hh : laidMetH Tryz.prog lay3 W) : TabS W := by
  rw [MakeChecks.laidMetH_plain _ _ _ (by kernel_rfl)] at hh
  unfold lay3 at hh
  have h1 := laid_rest hh
  have h2 := laid_rest h1
  have h3 := laid_rest h2
  exact ⟨tab_of hh, ⟨meas_of h2 gRad tRad rfl, meas_of h3 gHalf tHalfT rfl⟩, names_of h1⟩
theorem U_of {x : Int} (h : (Lit.int .u64 x).wf = true) : U x := by
  simp only [Lit.wf, IntKind.min, IntKind.max, IntKind.signed, IntKind.bits, Bool.and_eq_true] at h
  simp at h
  unfold U
  omega
theorem F_of {x : Int} (h : (Lit.int .u8 x).wf = true) : 0 ≤ x ∧ x ≤ 255 := by
  simp only [Lit.wf, IntKind.min, IntKind.max, IntKind.signed, IntKind.bits, Bool.and_eq_true] at h
  simp at h
  omega
end Go.Proofs.YtkkccnpmcbpdnaaGreatDoor
