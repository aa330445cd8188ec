/- What the rows' condition on the listed variable gives: math/bits's table stands in its cells; and the start that the initialisers lay meets it. What the rows' conditions give: math/bits's table stands in its cells; dyadic numbers that came in by value. Intervals that came in by value. -/
import Derived.ProofKit
import Derived.LaidMore
import Derived.OpenShut
import Derived.Stop.Joined
import Derived.Lib.LaidTab
import Derived.Test.YtahpdcbmekgkfaaGreatDoorTMB
import Derived.Lib.SmallJoins
import Derived.SizedLaws
import Derived.Deep.DeepHandedRow
import Derived.Deep.Strs

namespace Go.Proofs.YtahpdcbmekgkfaaGreatDoor
open Go.ChangeShapes Go.WideShapes Go.ChangeAt Go.RowKit
theorem own : ownKnob Tryz.prog.godebug = none := by kernel_rfl
theorem laidOut : laidOutB Tryz.prog = true := by kernel_rfl
theorem gTab : Tryz.prog.globalNamed "math/bits.deBruijn64tab" = some 0 := by kernel_rfl
theorem tTab : (Tryz.prog.globals[0]?).map (·.type) = some 169 := by kernel_rfl
def lay1 : List (String × DataW Unit) := [("math/bits.deBruijn64tab", Rows.laid_math_bits_deBruijn64tab)]
theorem tab_data : (Rows.laid_math_bits_deBruijn64tab : DataW Unit) = Lib.tabData .u8 (Lib.deBruijn64tab.map fun n : Nat => (n : Int)) := by kernel_rfl
theorem u8_under : Tryz.prog.underlying 5 = some (.int .u8) := Tryz.underlying5
theorem u8_cells : Tryz.prog.cellsOf 5 = 1 := by kernel_rfl
theorem tab_cells : Tryz.prog.cellsOf 169 = 64 := by kernel_rfl
theorem tab_under : Tryz.prog.underlying 169 = some (.array 64 5) := Tryz.underlying169
theorem tab_of {W : World} (h : laidMetH Tryz.prog lay1 W) : Tab W := by
 rw [MakeChecks.laidMetH_plain _ _ _ (by kernel_rfl)] at h
 unfold lay1 at h
 rw [tab_data] at h
 have hT := Lib.tabIs_of_head gTab tTab tab_under u8_under u8_cells tab_cells h
 have hc : ∀ j, j < 64 → W.cell? ⟨0, j, none⟩ = some (.int .u8 (Lib.deBruijn64tab.getD j 0)) := by
  intro j hj
  have hl : Lib.deBruijn64tab.length = 64 := by decide
  have := hT.cell gTab j (by simpa [hl] using hj)
  rw [this]
  have e : ((Lib.deBruijn64tab.map fun n : Nat => (n : Int)).getD j 0) = ((Lib.deBruijn64tab.getD j 0 : Nat) : Int) := by
   rw [List.getD_eq_getElem?_getD, List.getD_eq_getElem?_getD, List.getElem?_map]
   cases Lib.deBruijn64tab[j]? <;> rfl
  rw [e]
 refine ⟨?_, hc⟩
 have h0 := hc 0 (by decide)
 rcases Nat.lt_or_ge 0 W.heap.size with hlt | hge
 ·exact hlt
 ·exfalso
  simp [World.cell?, hge] at h0
theorem U_of {x : Int} (h : (Lit.int .u64 x).wf = true) : U x := by
 simp only [Lit.wf, IntKind.min, IntKind.max, IntKind.signed, IntKind.bits, Bool.and_eq_true] at h
 unfold U
 simp at h
 omega
end Go.Proofs.YtahpdcbmekgkfaaGreatDoor

namespace Go.Proofs.YtahpdcbmekgkfaaGreatDoor
open Go.ChangeShapes Go.WideShapes Go.ChangeAt Go.RowKit
theorem I_of {x : Int} (h : (Lit.int .i64 x).wf = true) : -9223372036854775808 ≤ x ∧ x ≤ 9223372036854775807 := by
 simp only [Lit.wf, IntKind.min, IntKind.max, IntKind.signed, IntKind.bits, Bool.and_eq_true] at h
 simp at h
 omega
theorem u64_cells : Tryz.prog.cellsOf 53 = 1 := by kernel_rfl
theorem u64_bytes : Tryz.prog.bytesOf 53 = 8 := by kernel_rfl
theorem dyad_cells : Tryz.prog.cellsOf 25 = 3 := by kernel_rfl
def LenD {H : Type} (d : DataW H) (l : Nat) : Prop := ∃ x z y, d = .agg [x, y, z] ∧ ((y = .nil ∧ l = 0) ∨ ∃ es sp, y = .slice es sp ∧ l ≤ es.length + sp.length)
end Go.Proofs.YtahpdcbmekgkfaaGreatDoor

namespace Go.Proofs.YtahpdcbmekgkfaaGreatDoor
set_option maxRecDepth 100000
open Go.ChangeShapes Go.WideShapes Go.ChangeAt Go.RowKit
theorem ival_cells : Tryz.prog.cellsOf 27 = 6 := by kernel_rfl
theorem bool_cells1 : Tryz.prog.cellsOf 4 = 1 := by kernel_rfl
theorem nat_cells1 : Tryz.prog.cellsOf 23 = 1 := by kernel_rfl
theorem int_cells1 : Tryz.prog.cellsOf 3 = 1 := by kernel_rfl
theorem array6 {α : Type} {cs : Array α} (h : cs.size = 6) : ∃ c0 c1 c2 c3 c4 c5, cs = #[c0, c1, c2, c3, c4, c5] := by
 obtain ⟨l⟩ := cs
 match l, h with
 | [c0, c1, c2, c3, c4, c5], _ => exact ⟨c0, c1, c2, c3, c4, c5, rfl⟩
theorem dyad_part {H : Type} {enc : TypeId × Value → H} {W : World} {n : Nat} {c0 c1 c2 : Value} {y : DataW H × List MemPlace} (h : DataW.trod enc Tryz.prog W 0 (fun _ => true) true n 25 [c0, c1, c2] = some y) :
  ∃ (s : Bool) (a : Option Addr) (l c : Nat) (xs : List Int) (e : Int), c0 = .bool s ∧ c1 = .slice a l c ∧ c2 = .int .i64 e ∧ IsW W a l c xs ∧ (-9223372036854775808 ≤ e ∧ e ≤ 9223372036854775807) ∧ LenD y.1 l := by
 obtain ⟨y0, y1, y2, m, hx, _, hy0, hy1, hy2⟩ := Go.Deep.trod_struct3 Tryz.underlying25 h
 simp [bool_cells1, nat_cells1, int_cells1] at hy0 hy1 hy2
 obtain ⟨b, e0, _⟩ := DataW.trod_bool Tryz.underlying4 hy0
 obtain ⟨e, e2, _, we⟩ := DataW.trod_int Tryz.underlying3 hy2
 simp at e0 e2
 subst e0 e2 hx
 rcases open_ints Tryz.underlying23 Tryz.underlying53 u64_cells hy1 with ⟨hcs, hd⟩ | ⟨x, l, c, zs, hcs, _, hl, hm, hz, hd, hcell, hwz⟩
 ·simp at hcs
  subst hcs
  refine ⟨b, none, 0, 0, [], e, rfl, rfl, rfl, isW_nil W, I_of we, y0.1, y2.1, y1.1, rfl, Or.inl ⟨by rw [hd], rfl⟩⟩
 ·simp at hcs
  subst hcs
  have hz' : zs.length = c := by simpa using hz
  refine ⟨b, some x, l, c, zs.take l, e, rfl, rfl, rfl, ⟨by rw [List.length_take]; omega, fun y hy => U_of (hwz y (List.mem_of_mem_take hy)), ⟨hl, fun e => by cases e⟩, fun i hi => ?_⟩, I_of we, y0.1, y2.1, y1.1, rfl, Or.inr ⟨_, _, by rw [hd], ?_⟩⟩
  ·obtain ⟨b, off, spot⟩ := x
   have hc := hcell i (by omega)
   have hspot : spot = none := by simpa [Addr.add] using World.cell?_spot (hcell 0 (by omega))
   subst hspot
   have hc0 : W.cell? ⟨b, off + i, none⟩ = some (.int .u64 (zs.getD i 0)) := by
    by_cases h0 : i = 0
    ·subst h0; simpa [Addr.add] using hc
    ·simpa [Addr.add, h0] using hc
   refine ⟨b, off, rfl, World.block_lt_of_cell? _ _ hc0, ?_⟩
   rw [hc0]
   simp only [List.getD, List.getElem?_take, hi, if_true]
  ·simp [lits]; omega
def LenJ {H : Type} (d : DataW H) (l l' : Nat) : Prop := ∃ d0 d1, d = .agg [d0, d1] ∧ LenD d0 l ∧ LenD d1 l'
theorem open_ival {H : Type} {enc : TypeId × Value → H} {W : World} {base : Nat} {v : Value} {d : DataW H} {p : List MemPlace}
  (hv : Value.okWide Tryz.prog W .any base 27 v) (h : DataW.Trod enc Tryz.prog W 0 (fun _ => true) true 27 v d p) :
  ∃ (s : Bool) (a : Option Addr) (l c : Nat) (xs : List Int) (e : Int) (s' : Bool) (a' : Option Addr) (l' c' : Nat) (ys : List Int) (e' : Int), v = .agg #[.bool s, .slice a l c, .int .i64 e, .bool s', .slice a' l' c', .int .i64 e'] ∧ IsW W a l c xs ∧ (-9223372036854775808 ≤ e ∧ e ≤ 9223372036854775807) ∧ IsW W a' l' c' ys ∧ (-9223372036854775808 ≤ e' ∧ e' ≤ 9223372036854775807) ∧ LenJ d l l' := by
 obtain ⟨cs, rfl, hsz⟩ := okWide_struct Tryz.underlying27 hv
 obtain ⟨c0, c1, c2, c3, c4, c5, rfl⟩ := array6 (hsz.trans ival_cells)
 obtain ⟨fuel, hf⟩ := h
 obtain ⟨y0, y1, n, hx, _, h0, h1⟩ := trod_struct2 Tryz.underlying27 hf
 simp [Value.cells, dyad_cells] at h0 h1
 obtain ⟨s, a, l, c, xs, e, rfl, rfl, rfl, i1, i2, i3⟩ := dyad_part h0
 obtain ⟨s', a', l', c', ys, e', rfl, rfl, rfl, j1, j2, j3⟩ := dyad_part h1
 simp only [Prod.mk.injEq] at hx
 exact ⟨s, a, l, c, xs, e, s', a', l', c', ys, e', rfl, i1, i2, j1, j2, y0.1, y1.1, hx.1, i3, j3⟩
theorem len_sizedJ {H : Type} {ts : List TypeId} {ds : List (DataW H)} (h : (DataW.weightsEach Tryz.prog ts ds).all (· ≤ reachBytes) = true) {j : Nat} {d : DataW H} {l l' : Nat} (ht : ts[j]? = some 27) (hd : ds[j]? = some d) (hl : LenJ d l l') : l ≤ 17592186043904 ∧ l' ≤ 17592186043904 := by
 obtain ⟨d0, d1, rfl, ⟨x, z, y, rfl, hl⟩, ⟨x', z', y', rfl, hl'⟩⟩ := hl
 constructor
 ·rcases hl with ⟨_, rfl⟩ | ⟨es, sp, rfl, hle⟩
  ·omega
  ·have hmem : (es.length + sp.length) * Tryz.prog.bytesOf 53 ∈ (DataW.agg [.agg [x, .slice es sp, z], .agg [x', y', z']] : DataW H).weights Tryz.prog 27 := by
    simp [DataW.weights, DataW.weightsEach, Tryz.underlying27, Tryz.underlying25, Tryz.underlying23]
   have := List.all_eq_true.1 h _ (DataW.weights_mem_each ht hd _ hmem)
   rw [u64_bytes] at this
   unfold reachBytes at this
   simp at this
   omega
 ·rcases hl' with ⟨_, rfl⟩ | ⟨es, sp, rfl, hle⟩
  ·omega
  ·have hmem : (es.length + sp.length) * Tryz.prog.bytesOf 53 ∈ (DataW.agg [.agg [x, y, z], .agg [x', .slice es sp, z']] : DataW H).weights Tryz.prog 27 := by
    simp [DataW.weights, DataW.weightsEach, Tryz.underlying27, Tryz.underlying25, Tryz.underlying23]
   have := List.all_eq_true.1 h _ (DataW.weights_mem_each ht hd _ hmem)
   rw [u64_bytes] at this
   unfold reachBytes at this
   simp at this
   omega
end Go.Proofs.YtahpdcbmekgkfaaGreatDoor
