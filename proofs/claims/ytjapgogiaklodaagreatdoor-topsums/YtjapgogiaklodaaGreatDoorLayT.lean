/- What TopDyads's row gives: math/bits's table and flags.names stand in their cells; lists of words that came in. -/
import Derived.Test.YtjapgogiaklodaaGreatDoorTMB
import Derived.Test.YtjapgogiaklodaaGreatDoorGFB
import Derived.ProofKit
import Derived.LaidMore
import Derived.OpenShut
import Derived.Stop.Joined
import Derived.Lib.LaidTab
import Derived.SizedLaws
import Derived.Deep.DeepHandedRow
namespace Go.Proofs.YtjapgogiaklodaaGreatDoor
open Go.ChangeShapes Go.WideShapes Go.ChangeAt Go.RowKit
open Fl (Names nameL)

theorem own : ownKnob Tryz.prog.godebug = none := by kernel_rfl
theorem laidOut : laidOutB Tryz.prog = true := by kernel_rfl
theorem gTab : Tryz.prog.globalNamed "math/bits.deBruijn64tab" = some 2 := by kernel_rfl
theorem tTab : (Tryz.prog.globals[2]?).map (·.type) = some 147 := by kernel_rfl
theorem gNames : Tryz.prog.globalNamed "ulp/flags.names" = some 1 := by kernel_rfl
theorem tNames : (Tryz.prog.globals[1]?).map (·.type) = some 107 := by kernel_rfl
def lay3 : List (String × DataW Unit) := [("math/bits.deBruijn64tab", Rows.laid_math_bits_deBruijn64tab), ("ulp/flags.names", Rows.laid_ulp_flags_names)]
theorem tab_data : (Rows.laid_math_bits_deBruijn64tab : DataW Unit) = Lib.tabData .u8 (Lib.deBruijn64tab.map fun n : Nat => (n : Int)) := by kernel_rfl
theorem names_data : (Rows.laid_ulp_flags_names : DataW Unit) = .agg ((List.range 5).map fun j => .lit (.string (nameL j).data.toList)) := by kernel_rfl
theorem str_cells : Tryz.prog.cellsOf 9 = 1 := by kernel_rfl
theorem u8_cells : Tryz.prog.cellsOf 5 = 1 := by kernel_rfl
theorem u64_cells : Tryz.prog.cellsOf 48 = 1 := by kernel_rfl
theorem u64_bytes : Tryz.prog.bytesOf 48 = 8 := by kernel_rfl
theorem tab_cells : Tryz.prog.cellsOf 147 = 64 := by kernel_rfl
theorem laid_rest {P : Program} {x : String × DataW Unit} {rest : List (String × DataW Unit)} {W : World} (h : laidMet P (x :: rest) W) : laidMet P rest W := by
  obtain ⟨ps, ⟨g, t, cs, fuel, p, q, _, _, _, _, hr, rfl⟩, hnd, hall⟩ := h
  exact ⟨q, hr, (List.nodup_append.1 hnd).2.1, fun b off hm => hall b off (List.mem_append_right _ hm)⟩
theorem tabs_of {W : World} (hh : laidMetH Tryz.prog lay3 W) : Tab W ∧ Names W := by
  rw [MakeChecks.laidMetH_plain _ _ _ (by kernel_rfl)] at hh
  unfold lay3 at hh
  have h := laid_rest hh
  rw [tab_data] at hh
  have hT := Lib.tabIs_of_head gTab tTab Tryz.underlying147 Tryz.underlying5 u8_cells tab_cells hh
  have hc : ∀ j, j < 64 → W.cell? ⟨2, j, none⟩ = some (.int .u8 (Lib.deBruijn64tab.getD j 0)) := by
    intro j hj
    have hl : Lib.deBruijn64tab.length = 64 := by decide
    have := hT.cell gTab j (by simpa [hl] using hj)
    rw [this]
    have e : ((Lib.deBruijn64tab.map fun n : Nat => (n : Int)).getD j 0) = ((Lib.deBruijn64tab.getD j 0 : Nat) : Int) := by
      rw [List.getD_eq_getElem?_getD, List.getD_eq_getElem?_getD, List.getElem?_map]
      cases Lib.deBruijn64tab[j]? <;> rfl
    rw [e]
  constructor
  · refine ⟨?_, hc⟩
    have h0 := hc 0 (by decide)
    rcases Nat.lt_or_ge 2 W.heap.size with hlt | hge
    · exact hlt
    · exfalso
      simp [World.cell?, hge] at h0
  · clear hT hc hh
    obtain ⟨ps, ⟨g, t, cs, fuel, p, q, hg, ht, hvar, hd, _, _⟩, _⟩ := h
    obtain rfl := Option.some.inj (gNames.symm.trans hg)
    obtain rfl := Option.some.inj (tNames.symm.trans ht)
    obtain ⟨xs, m, rfl, hx, hlen, hn, hel⟩ := DataW.trod_array Tryz.underlying107 hd
    rw [names_data] at hx
    have hx1 : (List.range 5).map (fun j => (DataW.lit (.string (nameL j).data.toList) : DataW Unit)) = xs.map (·.1) := by
      have := congrArg Prod.fst hx
      simpa using this
    have hc : ∀ j, j < 5 → W.cell? ⟨1, j, none⟩ = some (.string (nameL j)) := by
      intro j hj
      have h1 := hel j hj
      rw [str_cells] at h1
      have h2 : xs[j]? = some xs[j] := List.getElem?_eq_getElem (by omega)
      rw [h2] at h1
      obtain ⟨s, e1, e2, _⟩ := DataW.trod_string Tryz.underlying9 h1
      have h3 := congrArg (·[j]?) hx1
      simp only [List.getElem?_map, h2, e2, Option.map_some, List.getElem?_range hj] at h3
      have h4 : (nameL j).data.toList = s.data.toList := by simpa using h3
      have h5 : nameL j = s := by
        have h6 : (nameL j).data = s.data := Array.toList_inj.1 h4
        cases hA : nameL j; cases s; simp_all
      rw [h5, World.var?_cell hg hvar j]
      have h7 := congrArg (·[0]?) e1
      simp only [List.getElem?_take, List.getElem?_drop] at h7
      simpa using h7
    refine ⟨?_, hc⟩
    have h0 := hc 0 (by decide)
    rcases Nat.lt_or_ge 1 W.heap.size with hlt | hge
    · exact hlt
    · exfalso
      simp [World.cell?, hge] at h0
theorem U_of {x : Int} (h : (Lit.int .u64 x).wf = true) : 0 ≤ x ∧ x ≤ 18446744073709551615 := by
  simp only [Lit.wf, IntKind.min, IntKind.max, IntKind.signed, IntKind.bits, Bool.and_eq_true] at h
  simp at h
  omega
theorem I_of {x : Int} (h : (Lit.int .i64 x).wf = true) : -9223372036854775808 ≤ x ∧ x ≤ 9223372036854775807 := by
  simp only [Lit.wf, IntKind.min, IntKind.max, IntKind.signed, IntKind.bits, Bool.and_eq_true] at h
  simp at h
  omega
/-- How long a list is that came in, by what its reading says. -/
def LenBy {H : Type} (d : DataW H) (l : Nat) : Prop := (d = .nil ∧ l = 0) ∨ ∃ es sp, d = .slice es sp ∧ l ≤ es.length + sp.length
set_option maxRecDepth 100000 in
theorem open_words {H : Type} {enc : TypeId × Value → H} {W : World} {base : Nat} {v : Value} {d : DataW H} {p : List MemPlace}
    (hv : Value.okWide Tryz.prog W .any base 32 v) (h : DataW.Trod enc Tryz.prog W 0 (fun _ => true) true 32 v d p) :
    ∃ (a : Option Addr) (l c : Nat) (xs : List Int), v = .slice a l c ∧ IsW W a l c xs ∧ LenBy d l := by
  obtain ⟨a, l, c, rfl⟩ := okWide_slice Tryz.underlying32 hv
  obtain ⟨fuel, hf⟩ := h
  rcases open_ints Tryz.underlying32 Tryz.underlying48 u64_cells hf with ⟨hcs, hd⟩ | ⟨x, l', c', zs, hcs, _, hl, hm, hz, hd, hcell, hwz⟩
  · simp [Value.cells] at hcs
    obtain ⟨rfl, rfl, rfl⟩ := hcs
    simp only [Prod.mk.injEq] at hd
    exact ⟨none, 0, 0, [], rfl, isW_nil W, Or.inl ⟨hd.1, rfl⟩⟩
  · simp [Value.cells] at hcs
    obtain ⟨rfl, rfl, rfl⟩ := hcs
    have hz' : zs.length = c := by simpa using hz
    simp only [Prod.mk.injEq] at hd
    refine ⟨some x, l, c, zs.take l, rfl, ⟨by rw [List.length_take]; omega, fun y hy => U_of (hwz y (List.mem_of_mem_take hy)), ⟨hl, fun e => by cases e⟩, fun i hi => ?_⟩, Or.inr ⟨_, _, hd.1, ?_⟩⟩
    · obtain ⟨b, off, spot⟩ := x
      have hc := hcell i (by omega)
      have hspot : spot = none := by simpa [Addr.add] using World.cell?_spot (hcell 0 (by omega))
      subst hspot
      have hc0 : W.cell? ⟨b, off + i, none⟩ = some (.int .u64 (zs.getD i 0)) := by
        by_cases h0 : i = 0
        · subst h0; simpa [Addr.add] using hc
        · simpa [Addr.add, h0] using hc
      refine ⟨b, off, rfl, World.block_lt_of_cell? _ _ hc0, ?_⟩
      rw [hc0]
      simp only [List.getD, List.getElem?_take, hi, if_true]
    · simp [lits]; omega
theorem len_sized {H : Type} {ts : List TypeId} {ds : List (DataW H)} (h : (DataW.weightsEach Tryz.prog ts ds).all (· ≤ reachBytes) = true) {j : Nat} {d : DataW H} {l : Nat} (ht : ts[j]? = some 32) (hd : ds[j]? = some d) (hl : LenBy d l) : l ≤ 17592186043904 := by
  rcases hl with ⟨_, rfl⟩ | ⟨es, sp, rfl, hle⟩
  · omega
  · have := sized_slice h ht hd Tryz.underlying32
    rw [u64_bytes] at this
    unfold reachBytes at this
    omega
theorem len_bulk {H : Type} {ds : List (DataW H)} (h : Rows.uptoBulkAll ds ≤ 1048576) {d : DataW H} {l : Nat} (hd : d ∈ ds) (hl : LenBy d l) : l ≤ 1048576 := by
  have len_le : ∀ l : List (DataW H), l.length ≤ Rows.uptoBulkAll l := fun l => by
    induction l with
    | nil => simp [Rows.uptoBulkAll]
    | cons x r ih =>
      have : 1 ≤ Rows.uptoBulk x := by
        cases x with
        | lit l => cases l <;> simp [Rows.uptoBulk]
        | _ => simp [Rows.uptoBulk]
      simp only [Rows.uptoBulkAll, List.length_cons]; omega
  have part : ∀ l : List (DataW H), d ∈ l → Rows.uptoBulk d ≤ Rows.uptoBulkAll l := fun l => by
    induction l with
    | nil => intro h; cases h
    | cons x r ih =>
      intro h
      simp only [Rows.uptoBulkAll]
      rcases List.mem_cons.1 h with e | e
      · subst e; omega
      · have := ih e; omega
  rcases hl with ⟨_, rfl⟩ | ⟨es, sp, rfl, hle⟩
  · omega
  · have h1 := part ds hd
    have h2 := len_le es
    have h3 := len_le sp
    simp only [Rows.uptoBulk] at h1
    omega
theorem bulk_of {H : Type} {l : List (DataW H)} (hk : Rows.uptoSmall H l = true) : Rows.uptoBulkAll l ≤ 1048576 := of_decide_eq_true hk
end Go.Proofs.YtjapgogiaklodaaGreatDoor
