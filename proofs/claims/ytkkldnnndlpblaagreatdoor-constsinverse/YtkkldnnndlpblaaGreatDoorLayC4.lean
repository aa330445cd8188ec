/- What the rows of consts give: the tables of math/bits and internal/strconv and the recipes stand in their cells. -/
import Derived.ProofKit
import Derived.LaidMore
import Derived.OpenShut
import Derived.Stop.Joined
import Derived.Lib.LaidTab
import Derived.SizedLaws
import Derived.Deep.DeepWitnessRowRef
import Derived.Deep.DeepHandedRow
import Derived.Deep.Slices
import Derived.Test.YtkkldnnndlpblaaGreatDoorCFY
import Derived.Test.YtkkldnnndlpblaaGreatDoorNText
import Derived.Test.YtkkldnnndlpblaaGreatDoorTMB
namespace Go.Proofs.YtkkldnnndlpblaaGreatDoor
open Go.ChangeShapes Go.WideShapes Go.ChangeAt Go.RowKit Ck

theorem own : ownKnob Tryz.prog.godebug = none := by kernel_rfl

theorem gPow : Tryz.prog.globalNamed "internal/strconv.uint64pow10" = some 3 := by kernel_rfl

theorem tPow : (Tryz.prog.globals[3]?).map (·.type) = some 210 := by kernel_rfl

theorem gRec : Tryz.prog.globalNamed "ulp/consts.recipes" = some 0 := by kernel_rfl

theorem tRec : (Tryz.prog.globals[0]?).map (·.type) = some 97 := by kernel_rfl

def lay3 : List (String × DataW Unit) := [("math/bits.deBruijn32tab", Rows.laid_math_bits_deBruijn32tab), ("math/bits.deBruijn64tab", Rows.laid_math_bits_deBruijn64tab), ("internal/strconv.uint64pow10", Rows.laid_internal_strconv_uint64pow10), ("ulp/consts.recipes", Rows.laid_ulp_consts_recipes)]

theorem pow_data : (Rows.laid_internal_strconv_uint64pow10 : DataW Unit) = Lib.tabData .u64 Lib.pow10Tab := by kernel_rfl

def partD (p : Pt) : DataW Unit := .agg [.lit (.int .u8 p.kind), .lit (.int .u64 p.t), .lit (.int .u64 p.a), .lit (.bool p.off)]

def recD (k : Nat) : DataW Unit := .agg [.lit (.int .u8 (ov k)), if k = 0 then .nil else if ov k = 0 then .slice ((rec0 k).map partD) [] else .nil]

theorem rec_data : (Rows.laid_ulp_consts_recipes : DataW Unit) = .agg [recD 0, recD 1, recD 2, recD 3, recD 4, recD 5, recD 6, recD 7] := by kernel_rfl

theorem u64_cells : Tryz.prog.cellsOf 59 = 1 := by kernel_rfl

theorem kind_cells : Tryz.prog.cellsOf 22 = 1 := by kernel_rfl

theorem sk_cells : Tryz.prog.cellsOf 100 = 1 := by kernel_rfl

theorem bool_cells : Tryz.prog.cellsOf 4 = 1 := by kernel_rfl

theorem parts_cells : Tryz.prog.cellsOf 94 = 1 := by kernel_rfl

theorem part_cells : Tryz.prog.cellsOf 102 = 4 := by kernel_rfl

theorem recipe_cells : Tryz.prog.cellsOf 96 = 2 := by kernel_rfl

theorem pow_cells : Tryz.prog.cellsOf 210 = 20 := by kernel_rfl

theorem laid_rest {P : Program} {x : String × DataW Unit} {rest : List (String × DataW Unit)} {W : World} (h : laidMet P (x :: rest) W) : laidMet P rest W := by
  obtain ⟨ps, ⟨g, t, cs, fuel, p, q, _, _, _, _, hr, rfl⟩, hnd, hall⟩ := h
  exact ⟨q, hr, (List.nodup_append.1 hnd).2.1, fun b off hm => hall b off (List.mem_append_right _ hm)⟩

theorem pow_of {W : World} {rest : List (String × DataW Unit)} (hh : laidMet Tryz.prog (("internal/strconv.uint64pow10", Rows.laid_internal_strconv_uint64pow10) :: rest) W) : TabP W := by
  rw [pow_data] at hh
  exact Lib.tabIs_of_head gPow tPow Tryz.underlying210 Tryz.underlying59 u64_cells pow_cells hh

theorem seg1 {cs : List Value} {i : Nat} {v : Value} (h : (cs.drop i).take 1 = [v]) : cs[i]? = some v := by
  have := congrArg (fun l : List Value => l[0]?) h
  simpa [List.getElem?_take, List.getElem?_drop] using this

theorem seg2 {cs : List Value} {i j : Nat} {v : Value} (hj : j < 2) (h : ((cs.drop i).take 2)[j]? = some v) : cs[i + j]? = some v := by
  rw [List.getElem?_take, if_pos hj, List.getElem?_drop] at h
  exact h

theorem part_of {W : World} {a : Addr} {n : Nat} {cs' : List Value} {p : Pt} {Pl : List MemPlace} (hs : a.spot = none) (h : W.cells? 0 a 4 = some cs') (ht : DataW.trod (fun _ => ()) Tryz.prog W 0 (fun _ => true) false n 102 cs' = some (partD p, Pl)) : PAt W a.block a.off p.kind p.t p.a p.off := by
  obtain ⟨b, off, spot⟩ := a
  simp only at hs
  subst hs
  obtain ⟨_, hl, hc⟩ := World.cells?_some h
  obtain ⟨xs, m, _, hx, _, hxl, hf⟩ := DataW.trod_struct Tryz.underlying102 ht
  match xs, hxl with
  | [y0, y1, y2, y3], _ =>
    have g0 : DataW.trod (fun _ => ()) Tryz.prog W 0 (fun _ => true) false m 100 ((cs'.drop 0).take (Tryz.prog.cellsOf 100)) = some y0 := hf 0 _ rfl
    have g1 : DataW.trod (fun _ => ()) Tryz.prog W 0 (fun _ => true) false m 59 ((cs'.drop 1).take (Tryz.prog.cellsOf 59)) = some y1 := hf 1 _ rfl
    have g2 : DataW.trod (fun _ => ()) Tryz.prog W 0 (fun _ => true) false m 59 ((cs'.drop 2).take (Tryz.prog.cellsOf 59)) = some y2 := hf 2 _ rfl
    have g3 : DataW.trod (fun _ => ()) Tryz.prog W 0 (fun _ => true) false m 4 ((cs'.drop 3).take (Tryz.prog.cellsOf 4)) = some y3 := hf 3 _ rfl
    rw [sk_cells] at g0
    rw [u64_cells] at g1 g2
    rw [bool_cells] at g3
    obtain ⟨n0, e0, f0, _⟩ := DataW.trod_int Tryz.underlying100 g0
    obtain ⟨n1, e1, f1, _⟩ := DataW.trod_int Tryz.underlying59 g1
    obtain ⟨n2, e2, f2, _⟩ := DataW.trod_int Tryz.underlying59 g2
    obtain ⟨n3, e3, f3⟩ := DataW.trod_bool Tryz.underlying4 g3
    have hx2 := congrArg Prod.fst hx
    simp only [partD, List.map_cons, List.map_nil, DataW.agg.injEq, List.cons.injEq, and_true, f0, f1, f2, f3, DataW.lit.injEq, Lit.int.injEq, Lit.bool.injEq, true_and] at hx2
    obtain ⟨r0, r1, r2, r3⟩ := hx2
    have h0 := hc 0 (by omega)
    have h1 := hc 1 (by omega)
    have h2 := hc 2 (by omega)
    have h3 := hc 3 (by omega)
    rw [seg1 e0] at h0
    rw [seg1 e1] at h1
    rw [seg1 e2] at h2
    rw [seg1 e3] at h3
    subst r0 r1 r2 r3
    exact ⟨by simpa [Addr.add] using h0, by simpa [Addr.add] using h1, by simpa [Addr.add] using h2, by simpa [Addr.add] using h3⟩

theorem rec_of {W : World} {rest : List (String × DataW Unit)} (hh : laidMet Tryz.prog (("ulp/consts.recipes", Rows.laid_ulp_consts_recipes) :: rest) W) : RecT W := by
  rw [rec_data] at hh
  obtain ⟨ps, ⟨g, t, cs, fuel, p, q, hg, ht, hv, htr, _, _⟩, _, _⟩ := hh
  obtain rfl := Option.some.inj (gRec.symm.trans hg)
  obtain rfl := Option.some.inj (tRec.symm.trans ht)
  obtain ⟨xs, m, _, hx, _, hxl, hf⟩ := DataW.trod_array Tryz.underlying97 htr
  rw [recipe_cells] at hf
  have hcell : ∀ i, W.cell? ⟨0, i, none⟩ = cs.toList[i]? := fun i => by rw [World.var?_cell gRec hv i, Array.getElem?_toList]
  have hx2 := congrArg Prod.fst hx
  simp only [DataW.agg.injEq] at hx2
  have key : ∀ k, k < 8 → ∃ y : DataW Unit × List MemPlace, xs[k]? = some y ∧ y.1 = recD k := fun k hk => by
    have hl : k < xs.length := by omega
    refine ⟨xs[k], List.getElem?_eq_getElem hl, ?_⟩
    have e := congrArg (fun l : List (DataW Unit) => l[k]?) hx2
    simp only [List.getElem?_map, List.getElem?_eq_getElem hl, Option.map_some] at e
    rcases (by omega : k = 0 ∨ k = 1 ∨ k = 2 ∨ k = 3 ∨ k = 4 ∨ k = 5 ∨ k = 6 ∨ k = 7) with rfl | rfl | rfl | rfl | rfl | rfl | rfl | rfl <;> exact (Option.some.inj e).symm
  have each : ∀ k, k < 8 → W.cell? ⟨0, 2 * k, none⟩ = some (.int .u8 (ov k)) ∧ (1 ≤ k → ov k = 0 → ∃ (b o cap : Nat), (rec0 k).length ≤ cap ∧ W.cell? ⟨0, 2 * k + 1, none⟩ = some (.slice (some ⟨b, o, none⟩) (rec0 k).length cap) ∧ ∀ i p, (rec0 k)[i]? = some p → PAt W b (o + 4 * i) p.kind p.t p.a p.off) := fun k hk => by
    obtain ⟨y, hy, hd⟩ := key k hk
    have h1 := hf k hk
    rw [hy] at h1
    obtain ⟨y0, y1, n, hyx, _, h2, h3⟩ := trod_struct2 Tryz.underlying96 h1
    rw [hyx] at hd
    simp only [recD, DataW.agg.injEq, List.cons.injEq, and_true] at hd
    obtain ⟨d0, d1⟩ := hd
    have h2' : DataW.trod (fun _ => ()) Tryz.prog W 0 (fun _ => true) false n 22 ((((cs.toList.drop (k * 2)).take 2).drop 0).take (Tryz.prog.cellsOf 22)) = some y0 := h2
    have h3' : DataW.trod (fun _ => ()) Tryz.prog W 0 (fun _ => true) false n 94 ((((cs.toList.drop (k * 2)).take 2).drop 1).take (Tryz.prog.cellsOf 94)) = some y1 := h3
    rw [kind_cells] at h2'
    rw [parts_cells] at h3'
    obtain ⟨n0, e0, f0, _⟩ := DataW.trod_int Tryz.underlying22 h2'
    rw [f0] at d0
    simp only [DataW.lit.injEq, Lit.int.injEq, true_and] at d0
    subst d0
    refine ⟨by rw [hcell, Nat.mul_comm]; exact seg2 (j := 0) (by decide) (seg1 e0), fun hk1 ho => ?_⟩
    rw [if_neg (by omega), if_pos ho] at d1
    rcases Go.Deep.open_slice Tryz.underlying94 h3' with ⟨ec, ex⟩ | ⟨a, len, cap, mm, nn, D, Pl, ec, _, hlc, _, hmm, ex, hxx⟩
    · rw [ex] at d1; cases d1
    · rw [ex] at d1
      simp only [DataW.slice.injEq] at d1
      obtain ⟨d1, -⟩ := d1
      have hlen : len = (rec0 k).length := by have := congrArg List.length d1; simpa using this
      have hne : 0 < (rec0 k).length := List.length_pos_iff.2 (rec0_ne k).1
      have hml : len ≤ mm := by rw [hmm]; split <;> omega
      obtain ⟨b, off, spot⟩ := a
      have hpc := part_cells
      generalize Tryz.prog.cellsOf 102 = pc at hpc hxx
      subst hpc
      have hspot : spot = none := by
        obtain ⟨cs', c1, _⟩ := hxx 0 (by omega)
        obtain ⟨_, c2, c3⟩ := World.cells?_some c1
        have c4 := c3 0 (by omega)
        rw [List.getElem?_eq_getElem (by omega)] at c4
        simpa [Addr.add] using World.cell?_spot c4
      subst hspot
      refine ⟨b, off, cap, by omega, by rw [hcell, Nat.mul_comm, ← hlen]; exact seg2 (j := 1) (by decide) (seg1 ec), fun i pp hp => ?_⟩
      have hil : i < (rec0 k).length := (List.getElem?_eq_some_iff.1 hp).1
      obtain ⟨cs', c1, c2⟩ := hxx i (by omega)
      have hD : D i = partD pp := by
        have e := congrArg (fun l : List (DataW Unit) => l[i]?) d1
        simp only [List.getElem?_map, hp, Option.map_some] at e
        rw [List.getElem?_range (by omega)] at e
        exact Option.some.inj e
      rw [hD] at c2
      have hadd : (⟨b, off, none⟩ : Addr).add (i * 4) = ⟨b, off + 4 * i, none⟩ := by
        by_cases h0 : i = 0
        · subst h0; rfl
        · have : ¬ i * 4 = 0 := by omega
          simp [Addr.add, this, Nat.mul_comm]
      rw [hadd] at c1
      exact part_of (a := ⟨b, off + 4 * i, none⟩) rfl c1 c2
  refine ⟨World.block_lt_of_cell? _ _ (each 0 (by decide)).1, ?_⟩
  have ch : ∀ k, ∃ q : Nat × Nat, 1 ≤ k → k ≤ 7 → ov k = 0 → ∃ cap, (rec0 k).length ≤ cap ∧ W.cell? ⟨0, 2 * k + 1, none⟩ = some (.slice (some ⟨q.1, q.2, none⟩) (rec0 k).length cap) ∧ ∀ i p, (rec0 k)[i]? = some p → PAt W q.1 (q.2 + 4 * i) p.kind p.t p.a p.off := fun k => by
    by_cases hh : 1 ≤ k ∧ k ≤ 7 ∧ ov k = 0
    · obtain ⟨b, o, cap, z⟩ := (each k (by omega)).2 hh.1 hh.2.2
      exact ⟨(b, o), fun _ _ _ => ⟨cap, z⟩⟩
    · exact ⟨(0, 0), fun h1 h2 h3 => absurd ⟨h1, h2, h3⟩ hh⟩
  refine ⟨fun k => (ch k).choose.1, fun k => (ch k).choose.2, fun k h1 h7 => ⟨(each k (by omega)).1, fun ho => (ch k).choose_spec h1 h7 ho⟩⟩

theorem gTab : Tryz.prog.globalNamed "math/bits.deBruijn64tab" = some 5 := by kernel_rfl

theorem tTab : (Tryz.prog.globals[5]?).map (·.type) = some 218 := by kernel_rfl

theorem tab_data : (Rows.laid_math_bits_deBruijn64tab : DataW Unit) = Lib.tabData .u8 (Lib.deBruijn64tab.map fun n : Nat => (n : Int)) := by kernel_rfl

theorem u8_cells : Tryz.prog.cellsOf 5 = 1 := by kernel_rfl

theorem tab_cells : Tryz.prog.cellsOf 218 = 64 := by kernel_rfl

theorem tab_of {W : World} {rest : List (String × DataW Unit)} (hh : laidMet Tryz.prog (("math/bits.deBruijn64tab", Rows.laid_math_bits_deBruijn64tab) :: rest) W) : Tab W := by
  rw [tab_data] at hh
  have hT := Lib.tabIs_of_head gTab tTab Tryz.underlying218 Tryz.underlying5 u8_cells tab_cells hh
  have hc : ∀ j, j < 64 → W.cell? ⟨5, j, none⟩ = some (.int .u8 (Lib.deBruijn64tab.getD j 0)) := by
    intro j hj
    have hl : Lib.deBruijn64tab.length = 64 := by decide
    have := hT.cell gTab j (by simpa [hl] using hj)
    rw [this]
    have e : ((Lib.deBruijn64tab.map fun n : Nat => (n : Int)).getD j 0) = ((Lib.deBruijn64tab.getD j 0 : Nat) : Int) := by
      rw [List.getD_eq_getElem?_getD, List.getD_eq_getElem?_getD, List.getElem?_map]
      cases Lib.deBruijn64tab[j]? <;> rfl
    rw [e]
  refine ⟨?_, hc⟩
  have h0 := hc 0 (by decide)
  exact World.block_lt_of_cell? _ _ h0

theorem tabs_of {W : World} (hh : laidMetH Tryz.prog lay3 W) : RecT W ∧ TabP W ∧ Tab W := by
  rw [MakeChecks.laidMetH_plain _ _ _ (by kernel_rfl)] at hh
  unfold lay3 at hh
  have h1 := laid_rest hh
  have h2 := laid_rest h1
  have h3 := laid_rest h2
  exact ⟨rec_of h3, pow_of h2, tab_of h1⟩

theorem F_of {x : Int} (h : (Lit.int .u8 x).wf = true) : 0 ≤ x ∧ x ≤ 255 := by
  simp only [Lit.wf, IntKind.min, IntKind.max, IntKind.signed, IntKind.bits, Bool.and_eq_true] at h
  simp at h
  omega

theorem I_of {x : Int} (h : (Lit.int .i64 x).wf = true) : -9223372036854775808 ≤ x ∧ x ≤ 9223372036854775807 := by
  simp only [Lit.wf, IntKind.min, IntKind.max, IntKind.signed, IntKind.bits, Bool.and_eq_true] at h
  simp at h
  omega

end Go.Proofs.YtkkldnnndlpblaaGreatDoor
