/- What the rows' condition on the listed variable gives: math/bits's table stands in its cells; and the start that the initialisers lay meets it. What the rows' conditions give: math/bits's table stands in its cells; dyadic numbers that came in by value. -/
import Derived.Test.YtognliaoonkmiaaDoorTMB
import Derived.ProofKit
import Derived.LaidMore
import Derived.OpenShut
import Derived.Stop.Joined
import Derived.Lib.LaidTab
import Derived.Lib.SmallJoins
import Derived.SizedLaws
import Derived.Deep.DeepHandedRow

namespace Go.Proofs.YtognliaoonkmiaaDoor
open Go.ChangeShapes Go.WideShapes Go.ChangeAt Go.RowKit

theorem own : ownKnob Tryd.prog.godebug = none := by kernel_rfl
theorem laidOut : laidOutB Tryd.prog = true := by kernel_rfl
theorem gTab : Tryd.prog.globalNamed "math/bits.deBruijn64tab" = some 0 := by kernel_rfl
theorem tTab : (Tryd.prog.globals[0]?).map (·.type) = some 102 := by kernel_rfl
def lay1 : List (String × DataW Unit) := [("math/bits.deBruijn64tab", Rows.laid_math_bits_deBruijn64tab)]
theorem tab_data : (Rows.laid_math_bits_deBruijn64tab : DataW Unit) = Lib.tabData .u8 (Lib.deBruijn64tab.map fun n : Nat => (n : Int)) := by kernel_rfl
theorem u8_under : Tryd.prog.underlying 5 = some (.int .u8) := Tryd.underlying5
theorem u8_cells : Tryd.prog.cellsOf 5 = 1 := by kernel_rfl
theorem tab_cells : Tryd.prog.cellsOf 102 = 64 := by kernel_rfl
theorem tab_under : Tryd.prog.underlying 102 = some (.array 64 5) := Tryd.underlying102

theorem tab_of {W : World} (h : laidMetH Tryd.prog lay1 W) : Tab W := by
  rw [MakeChecks.laidMetH_plain _ _ _ (by kernel_rfl)] at h
  unfold lay1 at h
  rw [tab_data] at h
  have hT := Lib.tabIs_of_head gTab tTab tab_under u8_under u8_cells tab_cells h
  have hc : ∀ j, j < 64 → W.cell? ⟨0, j, none⟩ = some (.int .u8 (Lib.deBruijn64tab.getD j 0)) := by
    intro j hj
    have hl : Lib.deBruijn64tab.length = 64 := by decide
    have := hT.cell gTab j (by simpa [hl] using hj)
    rw [this]
    have e : ((Lib.deBruijn64tab.map fun n : Nat => (n : Int)).getD j 0) = ((Lib.deBruijn64tab.getD j 0 : Nat) : Int) := by
      rw [List.getD_eq_getElem?_getD, List.getD_eq_getElem?_getD, List.getElem?_map]
      cases Lib.deBruijn64tab[j]? <;> rfl
    rw [e]
  refine ⟨?_, hc⟩
  have h0 := hc 0 (by decide)
  rcases Nat.lt_or_ge 0 W.heap.size with hlt | hge
  · exact hlt
  · exfalso
    simp [World.cell?, hge] at h0

theorem door_met (os : Os) (args : Array Value) : laidMetH Tryd.prog lay1 ((World.doorLaid Tryd.prog 400 os).forCall (fun _ _ => 0) ⟨#[], args, []⟩).memory :=
  laidMetH_of_parts3 (fuel := 8) (laidMet_of_run' 8 (by kernel_rfl) (by kernel_rfl)) (by kernel_rfl) (by kernel_rfl)
theorem U_of {x : Int} (h : (Lit.int .u64 x).wf = true) : U x := by
  simp only [Lit.wf, IntKind.min, IntKind.max, IntKind.signed, IntKind.bits, Bool.and_eq_true] at h
  unfold U
  simp at h
  omega
end Go.Proofs.YtognliaoonkmiaaDoor

namespace Go.Proofs.YtognliaoonkmiaaDoor
open Go.ChangeShapes Go.WideShapes Go.ChangeAt Go.RowKit

theorem I_of {x : Int} (h : (Lit.int .i64 x).wf = true) : -9223372036854775808 ≤ x ∧ x ≤ 9223372036854775807 := by
  simp only [Lit.wf, IntKind.min, IntKind.max, IntKind.signed, IntKind.bits, Bool.and_eq_true] at h
  simp at h
  omega
theorem u64_cells : Tryd.prog.cellsOf 22 = 1 := by kernel_rfl
theorem u64_bytes : Tryd.prog.bytesOf 22 = 8 := by kernel_rfl
theorem dyad_cells : Tryd.prog.cellsOf 26 = 3 := by kernel_rfl
/-- How long a number's list is that came in, by what its reading says. -/
def LenD {H : Type} (d : DataW H) (l : Nat) : Prop := ∃ x z y, d = .agg [x, y, z] ∧ ((y = .nil ∧ l = 0) ∨ ∃ es sp, y = .slice es sp ∧ l ≤ es.length + sp.length)
set_option maxRecDepth 100000 in
theorem open_dyad {H : Type} {enc : TypeId × Value → H} {W : World} {base : Nat} {v : Value} {d : DataW H} {p : List MemPlace}
    (hv : Value.okWide Tryd.prog W .any base 26 v) (h : DataW.Trod enc Tryd.prog W 0 (fun _ => true) true 26 v d p) :
    ∃ (s : Bool) (a : Option Addr) (l c : Nat) (xs : List Int) (e : Int), v = dyV s a l c e ∧ IsW W a l c xs ∧ (-9223372036854775808 ≤ e ∧ e ≤ 9223372036854775807) ∧ LenD d l := by
  obtain ⟨c0, c1, c2, y0, y1, y2, m, rfl, rfl, _, hy0, hy1, hy2⟩ := Go.Joins.open_agg3 Tryd.underlying26 (by kernel_rfl) dyad_cells hv h
  obtain ⟨b, e0, _⟩ := DataW.trod_bool Tryd.underlying4 hy0
  obtain ⟨e, e2, _, we⟩ := DataW.trod_int Tryd.underlying3 hy2
  simp at e0 e2
  subst e0 e2
  rcases open_ints Tryd.underlying24 Tryd.underlying22 u64_cells hy1 with ⟨hcs, hd⟩ | ⟨x, l, c, zs, hcs, _, hl, hm, hz, hd, hcell, hwz⟩
  · simp at hcs
    subst hcs
    refine ⟨b, none, 0, 0, [], e, rfl, isW_nil W, I_of we, y0.1, y2.1, y1.1, rfl, Or.inl ⟨by rw [hd], rfl⟩⟩
  · simp at hcs
    subst hcs
    have hz' : zs.length = c := by simpa using hz
    refine ⟨b, some x, l, c, zs.take l, e, rfl, ⟨by rw [List.length_take]; omega, fun y hy => U_of (hwz y (List.mem_of_mem_take hy)), ⟨hl, fun e => by cases e⟩, fun i hi => ?_⟩, I_of we, y0.1, y2.1, y1.1, rfl, Or.inr ⟨_, _, by rw [hd], ?_⟩⟩
    · obtain ⟨b, off, spot⟩ := x
      have hc := hcell i (by omega)
      have hspot : spot = none := by simpa [Addr.add] using World.cell?_spot (hcell 0 (by omega))
      subst hspot
      have hc0 : W.cell? ⟨b, off + i, none⟩ = some (.int .u64 (zs.getD i 0)) := by
        by_cases h0 : i = 0
        · subst h0; simpa [Addr.add] using hc
        · simpa [Addr.add, h0] using hc
      refine ⟨b, off, rfl, World.block_lt_of_cell? _ _ hc0, ?_⟩
      rw [hc0]
      simp only [List.getD, List.getElem?_take, hi, if_true]
    · simp [lits]; omega
theorem len_sizedD {H : Type} {ts : List TypeId} {ds : List (DataW H)} (h : (DataW.weightsEach Tryd.prog ts ds).all (· ≤ reachBytes) = true) {j : Nat} {d : DataW H} {l : Nat} (ht : ts[j]? = some 26) (hd : ds[j]? = some d) (hl : LenD d l) : l ≤ 17592186043904 := by
  obtain ⟨x, z, y, rfl, hl⟩ := hl
  rcases hl with ⟨_, rfl⟩ | ⟨es, sp, rfl, hle⟩
  · omega
  · have hmem : (es.length + sp.length) * Tryd.prog.bytesOf 22 ∈ (DataW.agg [x, .slice es sp, z] : DataW H).weights Tryd.prog 26 := by
      simp [DataW.weights, DataW.weightsEach, Tryd.underlying26, Tryd.underlying24]
    have := List.all_eq_true.1 h _ (DataW.weights_mem_each ht hd _ hmem)
    rw [u64_bytes] at this
    unfold reachBytes at this
    simp at this
    omega
theorem len_bulkD {H : Type} {ds : List (DataW H)} (h : Rows.uptoBulkAll ds ≤ 1048576) {d : DataW H} {l : Nat} (hd : d ∈ ds) (hl : LenD d l) : l ≤ 1048576 := by
  have len_le : ∀ l : List (DataW H), l.length ≤ Rows.uptoBulkAll l := fun l => by
    induction l with
    | nil => simp [Rows.uptoBulkAll]
    | cons x r ih =>
      have : 1 ≤ Rows.uptoBulk x := by
        cases x with
        | lit l => cases l <;> simp [Rows.uptoBulk]
        | _ => simp [Rows.uptoBulk]
      simp only [Rows.uptoBulkAll, List.length_cons]; omega
  have part : ∀ l : List (DataW H), d ∈ l → Rows.uptoBulk d ≤ Rows.uptoBulkAll l := fun l => by
    induction l with
    | nil => intro h; cases h
    | cons x r ih =>
      intro h
      simp only [Rows.uptoBulkAll]
      rcases List.mem_cons.1 h with e | e
      · subst e; omega
      · have := ih e; omega
  have hp := part ds hd
  obtain ⟨x, z, y, rfl, hl⟩ := hl
  rcases hl with ⟨_, rfl⟩ | ⟨es, sp, rfl, hle⟩
  · omega
  · have h1 := len_le es
    have h2 := len_le sp
    simp only [Rows.uptoBulk, Rows.uptoBulkAll] at hp
    omega
theorem bulk_ofD {H : Type} {ds : List (DataW H)} (h : Rows.uptoSmall H ds = true) : Rows.uptoBulkAll ds ≤ 1048576 := of_decide_eq_true h
end Go.Proofs.YtognliaoonkmiaaDoor
