/- Package exact: the functions by their numbers, as a map. -/
import Derived.Test.YtoefhlapfnjbjaaGreatDoorECD
import Derived.MapKept
import Derived.Carry
namespace Go.Proofs.YtoefhlapfnjbjaaGreatDoor
open Go.RowKit

def insW (w : World) (r : Nat) (es : Array MapEntry) (ck : Nat) (key v : Value) : World := { w with heap := w.heap.setIfInBounds r (.map (es.push { key := key, val := v, born := ck }) (ck + 1)) }
theorem und_map : Tryz.prog.underlying 53 = some (.map 22 52) := by kernel_rfl
theorem und_key : Tryz.prog.underlying 22 = some (.int .u8) := by kernel_rfl
theorem ins_run {w : World} {r : Nat} {es : Array MapEntry} {ck : Nat} (f : Int) (v : Value) (hb : w.heap[r]? = some (.map es ck)) (hf : Instr.findNow (.int .u8) (.int .u8 f) es.toList 0 = some none) :
    Sem.run Tryz.prog (Instr.mapUpdate 53 (.map (some r)) (.int .u8 f) v) w = .ok () (insW w r es ck (.int .u8 f) v) := by
  have hc : (Instr.checkKey false 10000 22 (.int .u8 f)).run Tryz.prog w = .ok () w := MapKept.run_checkKey (k := .int .u8 f) und_key (by simp [MapKept.IsKey]) false 9999
  simp [Instr.mapUpdate, run_underlying und_map, MapKept.run_getObj_map hb, hc, MapKept.run_findKey und_key hf, MapKept.run_setObj_map _ hb, Result.andThen, insW]
theorem ins_map {w : World} {r : Nat} {es : Array MapEntry} {ck : Nat} {key v : Value} (hb : w.heap[r]? = some (.map es ck)) : (insW w r es ck key v).heap[r]? = some (.map (es.push { key := key, val := v, born := ck }) (ck + 1)) := (MapKept.heap_set hb).1
theorem ins_kr {w : World} {r : Nat} {es : Array MapEntry} {ck : Nat} {key v : Value} (hb : w.heap[r]? = some (.map es ck)) : Kr r w (insW w r es ck key v) := by
  intro b o x hne h
  have := (MapKept.heap_set (o' := .map (es.push { key := key, val := v, born := ck }) (ck + 1)) hb).2 b hne
  unfold World.cell? at h ⊢
  unfold insW
  simp only [this]
  exact h
theorem ins_below {w0 w : World} {r : Nat} {es : Array MapEntry} {ck : Nat} {key v : Value} (b : Below w0.heap.size w0 w) (h0 : w0.heap.size ≤ r) (hb : w.heap[r]? = some (.map es ck)) : Below w0.heap.size w0 (insW w r es ck key v) := by
  refine ⟨b.os, b.tape, b.output, Nat.le_trans b.size (by unfold insW; simp), fun k hk => ?_⟩
  have := (MapKept.heap_set (o' := .map (es.push { key := key, val := v, born := ck }) (ck + 1)) hb).2 k (by omega)
  exact this.trans (b.block k hk)
theorem ins_tab {w : World} {r : Nat} {es : Array MapEntry} {ck : Nat} {key v : Value} : (insW w r es ck key v).heap.size = w.heap.size := by unfold insW; simp
theorem ins_all {w0 w : World} {r : Nat} {es : Array MapEntry} {ck : Nat} (f : Int) (v : Value) (hb : w.heap[r]? = some (.map es ck)) (hf : Instr.findNow (.int .u8) (.int .u8 f) es.toList 0 = some none) (b : Below w0.heap.size w0 w) (h0 : w0.heap.size ≤ r) :
    ∃ u, Sem.run Tryz.prog (Instr.mapUpdate 53 (.map (some r)) (.int .u8 f) v) w = .ok () u ∧ u.heap[r]? = some (.map (es.push { key := .int .u8 f, val := v, born := ck }) (ck + 1)) ∧ Kr r w u ∧ Below w0.heap.size w0 u ∧ u.heap.size = w.heap.size :=
  ⟨_, ins_run f v hb hf, ins_map hb, ins_kr hb, ins_below b h0 hb, ins_tab⟩
theorem fn_skip {f k : Int} {v : Value} {b i : Nat} {es : List MapEntry} (h : f ≠ k) : Instr.findNow (.int .u8) (.int .u8 f) ({ key := .int .u8 k, val := v, born := b } :: es) i = Instr.findNow (.int .u8) (.int .u8 f) es (i + 1) := by
  have : (f == k) = false := by simp [h]
  simp only [Instr.findNow, Instr.sameNow, if_true, this]
/-- the map of functions, as it stands in memory -/
def FnAt (R : Nat) (w : World) : Prop := ∃ es ck, w.heap[R]? = some (.map es ck) ∧ (∀ f : Int, 1 ≤ f → f ≤ 30 → ∃ i d c, Instr.findNow (.int .u8) (.int .u8 f) es.toList 0 = some (some (i, .agg #[d, c])) ∧ IsD R w d (fDom f) ∧ IsC R w c (fCas f)) ∧
  (∀ f : Int, ¬ (1 ≤ f ∧ f ≤ 30) → Instr.findNow (.int .u8) (.int .u8 f) es.toList 0 = some none)

theorem fd1 : dAny = fDom 1 := by simp [fDom]
theorem fc1 : cAt [(0, 4)] = fCas 1 := by simp [fCas]
theorem fd2 : dAny = fDom 2 := by simp [fDom]
theorem fc2 : cPow 1 (-16384) 16384 = fCas 2 := by simp [fCas]
theorem fd3 : dAny = fDom 3 := by simp [fDom]
theorem fc3 : cPow 5 0 23 = fCas 3 := by simp [fCas]
theorem fd4 : dAny = fDom 4 := by simp [fDom]
theorem fc4 : cAt [(0, 0)] = fCas 4 := by simp [fCas]
theorem fd5 : dAny = fDom 5 := by simp [fDom]
theorem fc5 : cLess (cPow 1 (-54) 54) = fCas 5 := by simp [fCas]
theorem fd6 : dAny = fDom 6 := by simp [fDom]
theorem fc6 : cLess (cPow 5 0 16) = fCas 6 := by simp [fCas]
theorem fd7 : dAbove 0 = fDom 7 := by simp [fDom]
theorem fc7 : cAt [(1, 0)] = fCas 7 := by simp [fCas]
theorem fd8 : dAbove 0 = fDom 8 := by simp [fDom]
theorem fc8 : cExp 1 (-1074) 1023 = fCas 8 := by simp [fCas]
theorem fd9 : dAbove 0 = fDom 9 := by simp [fDom]
theorem fc9 : cExp 5 0 22 = fCas 9 := by simp [fCas]
theorem fd10 : dAbove (-1) = fDom 10 := by simp [fDom]
theorem fc10 : cAt [(0, 0)] = fCas 10 := by simp [fCas]
theorem fd11 : dAbove (-1) = fDom 11 := by simp [fDom]
theorem fc11 : cMore (cExp 1 (-1074) 1023) = fCas 11 := by simp [fCas]
theorem fd12 : dAbove (-1) = fDom 12 := by simp [fDom]
theorem fc12 : cMore (cExp 5 0 16) = fCas 12 := by simp [fCas]
theorem fd13 : dAny = fDom 13 := by simp [fDom]
theorem fc13 : cAt [(0, 0)] = fCas 13 := by simp [fCas]
theorem fd14 : dAny = fDom 14 := by simp [fDom]
theorem fc14 : cAt [(0, 4)] = fCas 14 := by simp [fCas]
theorem fd15 : dAny = fDom 15 := by simp [fDom]
theorem fc15 : cAt [(0, 0)] = fCas 15 := by simp [fCas]
theorem fd16 : dAny = fDom 16 := by simp [fDom]
theorem fc16 : cSin = fCas 16 := by simp [fCas]
theorem fd17 : dAny = fDom 17 := by simp [fDom]
theorem fc17 : cCos = fCas 17 := by simp [fCas]
theorem fd18 : dTan = fDom 18 := by simp [fDom]
theorem fc18 : cTan = fCas 18 := by simp [fCas]
theorem fd19 : dTo1 = fDom 19 := by simp [fDom]
theorem fc19 : cAt [(0, 0)] = fCas 19 := by simp [fCas]
theorem fd20 : dTo1 = fDom 20 := by simp [fDom]
theorem fc20 : cAt [(1, 0)] = fCas 20 := by simp [fCas]
theorem fd21 : dAny = fDom 21 := by simp [fDom]
theorem fc21 : cAt [(0, 0)] = fCas 21 := by simp [fCas]
theorem fd22 : dTo1 = fDom 22 := by simp [fDom]
theorem fc22 : cAt [(-1, -2), (0, 0), (1, 2)] = fCas 22 := by simp [fCas]
theorem fd23 : dTo1 = fDom 23 := by simp [fDom]
theorem fc23 : cAt [(-1, 4), (0, 2), (1, 0)] = fCas 23 := by simp [fCas]
theorem fd24 : dAny = fDom 24 := by simp [fDom]
theorem fc24 : cAt [(-1, -1), (0, 0), (1, 1)] = fCas 24 := by simp [fCas]
theorem fd25 : dAny = fDom 25 := by simp [fDom]
theorem fc25 : cAt [(0, 0)] = fCas 25 := by simp [fCas]
theorem fd26 : dAny = fDom 26 := by simp [fDom]
theorem fc26 : cAt [(0, 4)] = fCas 26 := by simp [fCas]
theorem fd27 : dAny = fDom 27 := by simp [fDom]
theorem fc27 : cAt [(0, 0)] = fCas 27 := by simp [fCas]
theorem fd28 : dAny = fDom 28 := by simp [fDom]
theorem fc28 : cAt [(0, 0)] = fCas 28 := by simp [fCas]
theorem fd29 : dFrom1 = fDom 29 := by simp [fDom]
theorem fc29 : cAt [(1, 0)] = fCas 29 := by simp [fCas]
theorem fd30 : dIn1 = fDom 30 := by simp [fDom]
theorem fc30 : cAt [(0, 0)] = fCas 30 := by simp [fCas]

set_option maxRecDepth 100000 in
set_option maxHeartbeats 8000000 in
theorem functions_calls (w : World) :
    Calls Tryz.prog 28 #[] w fun q w' => ∃ R, q = .returned (.map (some R)) ∧ FnAt R w' ∧ Below w.heap.size w w' := by
  have hmf : ∀ (fn : Fn) (first cap : Array Value) (w : World), (Instr.makeFunc fn first cap).run Tryz.prog w = .ok (.func fn first cap) w := fun _ _ _ _ => rfl
  have hmm := @run_makeMap Tryz.prog
  have bA : Below w.heap.size w w := Below.refl _ _
  go_enter Tryz.func28, Tryz.ntmps28
  go_wp2_with fail
  have bD := below_one w (.cells #[.int .i64 0, .int .i64 0] 84)
  have k0 : (w.alloc (.cells #[.int .i64 0, .int .i64 0] 84)).cell? ⟨w.heap.size, 0, none⟩ = some (.int .i64 0) := by go_simp
  have k1 : (w.alloc (.cells #[.int .i64 0, .int .i64 0] 84)).cell? ⟨w.heap.size, 1, none⟩ = some (.int .i64 0) := by go_simp
  have ls : w.heap.size < (w.alloc (.cells #[.int .i64 0, .int .i64 0] 84)).heap.size := by simp
  replace bA := nT bA bD
  clear bD
  generalize w.alloc (.cells #[.int .i64 0, .int .i64 0] 84) = x0 at *
  refine Calls.mono (at_made1 w.heap.size 0 0 x0 ⟨by decide, by decide⟩ ⟨by decide, by decide⟩ ⟨k0, k1, trivial⟩) ?_
  rintro e y0 ⟨FvA, svA, tvA, rfl, hvA0, b1⟩
  have hvA := fun r (hr : y0.heap.size ≤ r) => hvA0 r (.inr hr) (Nat.ne_of_gt (Nat.lt_of_lt_of_le ls (Nat.le_trans b1.size hr)))
  replace bA := nT bA b1
  clear k0 k1 ls b1 hvA0
  go_wp2_with fail
  have bD := below_one y0 (.cells #[.int .i64 0, .int .i64 4] 84)
  have k0 : (y0.alloc (.cells #[.int .i64 0, .int .i64 4] 84)).cell? ⟨y0.heap.size, 0, none⟩ = some (.int .i64 0) := by go_simp
  have k1 : (y0.alloc (.cells #[.int .i64 0, .int .i64 4] 84)).cell? ⟨y0.heap.size, 1, none⟩ = some (.int .i64 4) := by go_simp
  have ls : y0.heap.size < (y0.alloc (.cells #[.int .i64 0, .int .i64 4] 84)).heap.size := by simp
  replace hvA := fun r hr => (hvA r (Nat.le_trans bD.size hr)).keep (Kr.of (r := r) bD)
  replace bA := nT bA bD
  clear bD
  generalize y0.alloc (.cells #[.int .i64 0, .int .i64 4] 84) = x1 at *
  generalize y0.heap.size = g1 at k0 k1 ls ⊢
  refine Calls.mono (at_made1 g1 0 4 x1 ⟨by decide, by decide⟩ ⟨by decide, by decide⟩ ⟨k0, k1, trivial⟩) ?_
  rintro e y1 ⟨FvB, svB, tvB, rfl, hvB0, b1⟩
  replace hvA := fun r hr => (hvA r (Nat.le_trans b1.size hr)).keep (Kr.of (r := r) b1)
  have hvB := fun r (hr : y1.heap.size ≤ r) => hvB0 r (.inr hr) (Nat.ne_of_gt (Nat.lt_of_lt_of_le ls (Nat.le_trans b1.size hr)))
  replace bA := nT bA b1
  clear k0 k1 ls b1 hvB0
  go_wp2_with fail
  have bD := below_one y1 (.cells #[.int .i64 1, .int .i64 0] 84)
  have k0 : (y1.alloc (.cells #[.int .i64 1, .int .i64 0] 84)).cell? ⟨y1.heap.size, 0, none⟩ = some (.int .i64 1) := by go_simp
  have k1 : (y1.alloc (.cells #[.int .i64 1, .int .i64 0] 84)).cell? ⟨y1.heap.size, 1, none⟩ = some (.int .i64 0) := by go_simp
  have ls : y1.heap.size < (y1.alloc (.cells #[.int .i64 1, .int .i64 0] 84)).heap.size := by simp
  replace hvA := fun r hr => (hvA r (Nat.le_trans bD.size hr)).keep (Kr.of (r := r) bD)
  replace hvB := fun r hr => (hvB r (Nat.le_trans bD.size hr)).keep (Kr.of (r := r) bD)
  replace bA := nT bA bD
  clear bD
  generalize y1.alloc (.cells #[.int .i64 1, .int .i64 0] 84) = x2 at *
  generalize y1.heap.size = g2 at k0 k1 ls ⊢
  refine Calls.mono (at_made1 g2 1 0 x2 ⟨by decide, by decide⟩ ⟨by decide, by decide⟩ ⟨k0, k1, trivial⟩) ?_
  rintro e y2 ⟨FvC, svC, tvC, rfl, hvC0, b1⟩
  replace hvA := fun r hr => (hvA r (Nat.le_trans b1.size hr)).keep (Kr.of (r := r) b1)
  replace hvB := fun r hr => (hvB r (Nat.le_trans b1.size hr)).keep (Kr.of (r := r) b1)
  have hvC := fun r (hr : y2.heap.size ≤ r) => hvC0 r (.inr hr) (Nat.ne_of_gt (Nat.lt_of_lt_of_le ls (Nat.le_trans b1.size hr)))
  replace bA := nT bA b1
  clear k0 k1 ls b1 hvC0
  have lR : w.heap.size ≤ y2.heap.size := bA.size
  have bD := below_one y2 (.map #[] 0)
  have hM : (y2.alloc (.map #[] 0)).heap[y2.heap.size]? = some (.map #[] 0) := (MapKept.heap_alloc y2 _).1
  have hR : y2.heap.size < (y2.alloc (.map #[] 0)).heap.size := by simp
  replace hvA := (hvA y2.heap.size (Nat.le_refl _)).keep (Kr.of bD)
  replace hvB := (hvB y2.heap.size (Nat.le_refl _)).keep (Kr.of bD)
  replace hvC := (hvC y2.heap.size (Nat.le_refl _)).keep (Kr.of bD)
  replace bA := nT bA bD
  clear bD
  obtain ⟨u1, hI1, hM2, kr, bA2, hz⟩ := ins_all (w0 := w) 1 (.agg #[(.func (.func 53) #[] #[]), (.func (.func FvB) svB tvB)]) hM (by rfl) bA lR
  replace hM : u1.heap[y2.heap.size]? = some (.map #[{ key := .int .u8 1, val := .agg #[(.func (.func 53) #[] #[]), (.func (.func FvB) svB tvB)], born := 0 }] 1) := hM2
  replace hvA := hvA.keep kr
  replace hvB := hvB.keep kr
  replace hvC := hvC.keep kr
  replace bA := bA2
  rw [← hz] at hR
  clear kr bA2 hM2 hz
  obtain ⟨u2, hI2, hM2, kr, bA2, hz⟩ := ins_all (w0 := w) 2 (.agg #[(.func (.func 53) #[] #[]), (.func (.func 54) #[.agg #[.int .u64 1, .int .i64 (-16384), .int .i64 16384]] #[])]) hM (by rfl) bA lR
  replace hM : u2.heap[y2.heap.size]? = some (.map #[{ key := .int .u8 1, val := .agg #[(.func (.func 53) #[] #[]), (.func (.func FvB) svB tvB)], born := 0 }, { key := .int .u8 2, val := .agg #[(.func (.func 53) #[] #[]), (.func (.func 54) #[.agg #[.int .u64 1, .int .i64 (-16384), .int .i64 16384]] #[])], born := 1 }] 2) := hM2
  replace hvA := hvA.keep kr
  replace hvB := hvB.keep kr
  replace hvC := hvC.keep kr
  replace bA := bA2
  rw [← hz] at hR
  clear kr bA2 hM2 hz
  obtain ⟨u3, hI3, hM2, kr, bA2, hz⟩ := ins_all (w0 := w) 3 (.agg #[(.func (.func 53) #[] #[]), (.func (.func 54) #[.agg #[.int .u64 5, .int .i64 0, .int .i64 23]] #[])]) hM (by rfl) bA lR
  replace hM : u3.heap[y2.heap.size]? = some (.map #[{ key := .int .u8 1, val := .agg #[(.func (.func 53) #[] #[]), (.func (.func FvB) svB tvB)], born := 0 }, { key := .int .u8 2, val := .agg #[(.func (.func 53) #[] #[]), (.func (.func 54) #[.agg #[.int .u64 1, .int .i64 (-16384), .int .i64 16384]] #[])], born := 1 }, { key := .int .u8 3, val := .agg #[(.func (.func 53) #[] #[]), (.func (.func 54) #[.agg #[.int .u64 5, .int .i64 0, .int .i64 23]] #[])], born := 2 }] 3) := hM2
  replace hvA := hvA.keep kr
  replace hvB := hvB.keep kr
  replace hvC := hvC.keep kr
  replace bA := bA2
  rw [← hz] at hR
  clear kr bA2 hM2 hz
  obtain ⟨u4, hI4, hM2, kr, bA2, hz⟩ := ins_all (w0 := w) 4 (.agg #[(.func (.func 53) #[] #[]), (.func (.func FvA) svA tvA)]) hM (by rfl) bA lR
  replace hM : u4.heap[y2.heap.size]? = some (.map #[{ key := .int .u8 1, val := .agg #[(.func (.func 53) #[] #[]), (.func (.func FvB) svB tvB)], born := 0 }, { key := .int .u8 2, val := .agg #[(.func (.func 53) #[] #[]), (.func (.func 54) #[.agg #[.int .u64 1, .int .i64 (-16384), .int .i64 16384]] #[])], born := 1 }, { key := .int .u8 3, val := .agg #[(.func (.func 53) #[] #[]), (.func (.func 54) #[.agg #[.int .u64 5, .int .i64 0, .int .i64 23]] #[])], born := 2 }, { key := .int .u8 4, val := .agg #[(.func (.func 53) #[] #[]), (.func (.func FvA) svA tvA)], born := 3 }] 4) := hM2
  replace hvA := hvA.keep kr
  replace hvB := hvB.keep kr
  replace hvC := hvC.keep kr
  replace bA := bA2
  rw [← hz] at hR
  clear kr bA2 hM2 hz
  go_wp2_with fail
  have hR0 := hR
  refine Calls.mono (less_made 54 #[.agg #[.int .u64 1, .int .i64 (-54), .int .i64 54]] #[] u4) ?_
  rintro e u5 ⟨Fc5, sc5, tc5, rfl, Hc5, b1⟩
  replace Hc5 := Hc5 y2.heap.size _ (Nat.ne_of_lt hR0) (power_is1 _ _ (-54) 54 (by decide) (by decide) (by decide)) (fun p _ => pow_ok1 (-54) 54 (by decide) (by decide) p)
  replace hvA := hvA.keep (Kr.of b1)
  replace hvB := hvB.keep (Kr.of b1)
  replace hvC := hvC.keep (Kr.of b1)
  replace bA := nT bA b1
  replace hR := Nat.lt_of_lt_of_le hR b1.size
  replace hM := (b1.block _ hR0).trans hM
  clear b1 hR0
  obtain ⟨u6, hI5, hM2, kr, bA2, hz⟩ := ins_all (w0 := w) 5 (.agg #[(.func (.func 53) #[] #[]), (.func (.func Fc5) sc5 tc5)]) hM (by rfl) bA lR
  replace hM : u6.heap[y2.heap.size]? = some (.map #[{ key := .int .u8 1, val := .agg #[(.func (.func 53) #[] #[]), (.func (.func FvB) svB tvB)], born := 0 }, { key := .int .u8 2, val := .agg #[(.func (.func 53) #[] #[]), (.func (.func 54) #[.agg #[.int .u64 1, .int .i64 (-16384), .int .i64 16384]] #[])], born := 1 }, { key := .int .u8 3, val := .agg #[(.func (.func 53) #[] #[]), (.func (.func 54) #[.agg #[.int .u64 5, .int .i64 0, .int .i64 23]] #[])], born := 2 }, { key := .int .u8 4, val := .agg #[(.func (.func 53) #[] #[]), (.func (.func FvA) svA tvA)], born := 3 }, { key := .int .u8 5, val := .agg #[(.func (.func 53) #[] #[]), (.func (.func Fc5) sc5 tc5)], born := 4 }] 5) := hM2
  replace hvA := hvA.keep kr
  replace hvB := hvB.keep kr
  replace hvC := hvC.keep kr
  replace Hc5 := Hc5.keep kr
  replace bA := bA2
  rw [← hz] at hR
  clear kr bA2 hM2 hz
  go_wp2_with fail
  have hR0 := hR
  refine Calls.mono (less_made 54 #[.agg #[.int .u64 5, .int .i64 0, .int .i64 16]] #[] u6) ?_
  rintro e u7 ⟨Fc6, sc6, tc6, rfl, Hc6, b1⟩
  replace Hc6 := Hc6 y2.heap.size _ (Nat.ne_of_lt hR0) (power_is5 _ _ 16 (by decide) (by decide)) (fun p _ => pow_ok5 16 (by decide) p)
  replace hvA := hvA.keep (Kr.of b1)
  replace hvB := hvB.keep (Kr.of b1)
  replace hvC := hvC.keep (Kr.of b1)
  replace Hc5 := Hc5.keep (Kr.of b1)
  replace bA := nT bA b1
  replace hR := Nat.lt_of_lt_of_le hR b1.size
  replace hM := (b1.block _ hR0).trans hM
  clear b1 hR0
  obtain ⟨u8, hI6, hM2, kr, bA2, hz⟩ := ins_all (w0 := w) 6 (.agg #[(.func (.func 53) #[] #[]), (.func (.func Fc6) sc6 tc6)]) hM (by rfl) bA lR
  replace hM : u8.heap[y2.heap.size]? = some (.map #[{ key := .int .u8 1, val := .agg #[(.func (.func 53) #[] #[]), (.func (.func FvB) svB tvB)], born := 0 }, { key := .int .u8 2, val := .agg #[(.func (.func 53) #[] #[]), (.func (.func 54) #[.agg #[.int .u64 1, .int .i64 (-16384), .int .i64 16384]] #[])], born := 1 }, { key := .int .u8 3, val := .agg #[(.func (.func 53) #[] #[]), (.func (.func 54) #[.agg #[.int .u64 5, .int .i64 0, .int .i64 23]] #[])], born := 2 }, { key := .int .u8 4, val := .agg #[(.func (.func 53) #[] #[]), (.func (.func FvA) svA tvA)], born := 3 }, { key := .int .u8 5, val := .agg #[(.func (.func 53) #[] #[]), (.func (.func Fc5) sc5 tc5)], born := 4 }, { key := .int .u8 6, val := .agg #[(.func (.func 53) #[] #[]), (.func (.func Fc6) sc6 tc6)], born := 5 }] 6) := hM2
  replace hvA := hvA.keep kr
  replace hvB := hvB.keep kr
  replace hvC := hvC.keep kr
  replace Hc5 := Hc5.keep kr
  replace Hc6 := Hc6.keep kr
  replace bA := bA2
  rw [← hz] at hR
  clear kr bA2 hM2 hz
  go_wp2_with fail
  have hR0 := hR
  refine Calls.mono (above_made2 0 u8 ⟨by decide, by decide⟩) ?_
  rintro e u9 ⟨Fd7, sd7, td7, rfl, Hd7, b1⟩
  replace Hd7 := Hd7 y2.heap.size (Nat.ne_of_lt hR0)
  replace hvA := hvA.keep (Kr.of b1)
  replace hvB := hvB.keep (Kr.of b1)
  replace hvC := hvC.keep (Kr.of b1)
  replace Hc5 := Hc5.keep (Kr.of b1)
  replace Hc6 := Hc6.keep (Kr.of b1)
  replace bA := nT bA b1
  replace hR := Nat.lt_of_lt_of_le hR b1.size
  replace hM := (b1.block _ hR0).trans hM
  clear b1 hR0
  obtain ⟨u10, hI7, hM2, kr, bA2, hz⟩ := ins_all (w0 := w) 7 (.agg #[(.func (.func Fd7) sd7 td7), (.func (.func FvC) svC tvC)]) hM (by rfl) bA lR
  replace hM : u10.heap[y2.heap.size]? = some (.map #[{ key := .int .u8 1, val := .agg #[(.func (.func 53) #[] #[]), (.func (.func FvB) svB tvB)], born := 0 }, { key := .int .u8 2, val := .agg #[(.func (.func 53) #[] #[]), (.func (.func 54) #[.agg #[.int .u64 1, .int .i64 (-16384), .int .i64 16384]] #[])], born := 1 }, { key := .int .u8 3, val := .agg #[(.func (.func 53) #[] #[]), (.func (.func 54) #[.agg #[.int .u64 5, .int .i64 0, .int .i64 23]] #[])], born := 2 }, { key := .int .u8 4, val := .agg #[(.func (.func 53) #[] #[]), (.func (.func FvA) svA tvA)], born := 3 }, { key := .int .u8 5, val := .agg #[(.func (.func 53) #[] #[]), (.func (.func Fc5) sc5 tc5)], born := 4 }, { key := .int .u8 6, val := .agg #[(.func (.func 53) #[] #[]), (.func (.func Fc6) sc6 tc6)], born := 5 }, { key := .int .u8 7, val := .agg #[(.func (.func Fd7) sd7 td7), (.func (.func FvC) svC tvC)], born := 6 }] 7) := hM2
  replace hvA := hvA.keep kr
  replace hvB := hvB.keep kr
  replace hvC := hvC.keep kr
  replace Hc5 := Hc5.keep kr
  replace Hc6 := Hc6.keep kr
  replace Hd7 := Hd7.keep kr
  replace bA := bA2
  rw [← hz] at hR
  clear kr bA2 hM2 hz
  go_wp2_with fail
  have hR0 := hR
  refine Calls.mono (above_made2 0 u10 ⟨by decide, by decide⟩) ?_
  rintro e u11 ⟨Fd8, sd8, td8, rfl, Hd8, b1⟩
  replace Hd8 := Hd8 y2.heap.size (Nat.ne_of_lt hR0)
  replace hvA := hvA.keep (Kr.of b1)
  replace hvB := hvB.keep (Kr.of b1)
  replace hvC := hvC.keep (Kr.of b1)
  replace Hc5 := Hc5.keep (Kr.of b1)
  replace Hc6 := Hc6.keep (Kr.of b1)
  replace Hd7 := Hd7.keep (Kr.of b1)
  replace bA := nT bA b1
  replace hR := Nat.lt_of_lt_of_le hR b1.size
  replace hM := (b1.block _ hR0).trans hM
  clear b1 hR0
  obtain ⟨u12, hI8, hM2, kr, bA2, hz⟩ := ins_all (w0 := w) 8 (.agg #[(.func (.func Fd8) sd8 td8), (.func (.func 57) #[.agg #[.int .u64 1, .int .i64 (-1074), .int .i64 1023]] #[])]) hM (by rfl) bA lR
  replace hM : u12.heap[y2.heap.size]? = some (.map #[{ key := .int .u8 1, val := .agg #[(.func (.func 53) #[] #[]), (.func (.func FvB) svB tvB)], born := 0 }, { key := .int .u8 2, val := .agg #[(.func (.func 53) #[] #[]), (.func (.func 54) #[.agg #[.int .u64 1, .int .i64 (-16384), .int .i64 16384]] #[])], born := 1 }, { key := .int .u8 3, val := .agg #[(.func (.func 53) #[] #[]), (.func (.func 54) #[.agg #[.int .u64 5, .int .i64 0, .int .i64 23]] #[])], born := 2 }, { key := .int .u8 4, val := .agg #[(.func (.func 53) #[] #[]), (.func (.func FvA) svA tvA)], born := 3 }, { key := .int .u8 5, val := .agg #[(.func (.func 53) #[] #[]), (.func (.func Fc5) sc5 tc5)], born := 4 }, { key := .int .u8 6, val := .agg #[(.func (.func 53) #[] #[]), (.func (.func Fc6) sc6 tc6)], born := 5 }, { key := .int .u8 7, val := .agg #[(.func (.func Fd7) sd7 td7), (.func (.func FvC) svC tvC)], born := 6 }, { key := .int .u8 8, val := .agg #[(.func (.func Fd8) sd8 td8), (.func (.func 57) #[.agg #[.int .u64 1, .int .i64 (-1074), .int .i64 1023]] #[])], born := 7 }] 8) := hM2
  replace hvA := hvA.keep kr
  replace hvB := hvB.keep kr
  replace hvC := hvC.keep kr
  replace Hc5 := Hc5.keep kr
  replace Hc6 := Hc6.keep kr
  replace Hd7 := Hd7.keep kr
  replace Hd8 := Hd8.keep kr
  replace bA := bA2
  rw [← hz] at hR
  clear kr bA2 hM2 hz
  go_wp2_with fail
  have hR0 := hR
  refine Calls.mono (above_made2 0 u12 ⟨by decide, by decide⟩) ?_
  rintro e u13 ⟨Fd9, sd9, td9, rfl, Hd9, b1⟩
  replace Hd9 := Hd9 y2.heap.size (Nat.ne_of_lt hR0)
  replace hvA := hvA.keep (Kr.of b1)
  replace hvB := hvB.keep (Kr.of b1)
  replace hvC := hvC.keep (Kr.of b1)
  replace Hc5 := Hc5.keep (Kr.of b1)
  replace Hc6 := Hc6.keep (Kr.of b1)
  replace Hd7 := Hd7.keep (Kr.of b1)
  replace Hd8 := Hd8.keep (Kr.of b1)
  replace bA := nT bA b1
  replace hR := Nat.lt_of_lt_of_le hR b1.size
  replace hM := (b1.block _ hR0).trans hM
  clear b1 hR0
  obtain ⟨u14, hI9, hM2, kr, bA2, hz⟩ := ins_all (w0 := w) 9 (.agg #[(.func (.func Fd9) sd9 td9), (.func (.func 57) #[.agg #[.int .u64 5, .int .i64 0, .int .i64 22]] #[])]) hM (by rfl) bA lR
  replace hM : u14.heap[y2.heap.size]? = some (.map #[{ key := .int .u8 1, val := .agg #[(.func (.func 53) #[] #[]), (.func (.func FvB) svB tvB)], born := 0 }, { key := .int .u8 2, val := .agg #[(.func (.func 53) #[] #[]), (.func (.func 54) #[.agg #[.int .u64 1, .int .i64 (-16384), .int .i64 16384]] #[])], born := 1 }, { key := .int .u8 3, val := .agg #[(.func (.func 53) #[] #[]), (.func (.func 54) #[.agg #[.int .u64 5, .int .i64 0, .int .i64 23]] #[])], born := 2 }, { key := .int .u8 4, val := .agg #[(.func (.func 53) #[] #[]), (.func (.func FvA) svA tvA)], born := 3 }, { key := .int .u8 5, val := .agg #[(.func (.func 53) #[] #[]), (.func (.func Fc5) sc5 tc5)], born := 4 }, { key := .int .u8 6, val := .agg #[(.func (.func 53) #[] #[]), (.func (.func Fc6) sc6 tc6)], born := 5 }, { key := .int .u8 7, val := .agg #[(.func (.func Fd7) sd7 td7), (.func (.func FvC) svC tvC)], born := 6 }, { key := .int .u8 8, val := .agg #[(.func (.func Fd8) sd8 td8), (.func (.func 57) #[.agg #[.int .u64 1, .int .i64 (-1074), .int .i64 1023]] #[])], born := 7 }, { key := .int .u8 9, val := .agg #[(.func (.func Fd9) sd9 td9), (.func (.func 57) #[.agg #[.int .u64 5, .int .i64 0, .int .i64 22]] #[])], born := 8 }] 9) := hM2
  replace hvA := hvA.keep kr
  replace hvB := hvB.keep kr
  replace hvC := hvC.keep kr
  replace Hc5 := Hc5.keep kr
  replace Hc6 := Hc6.keep kr
  replace Hd7 := Hd7.keep kr
  replace Hd8 := Hd8.keep kr
  replace Hd9 := Hd9.keep kr
  replace bA := bA2
  rw [← hz] at hR
  clear kr bA2 hM2 hz
  go_wp2_with fail
  have hR0 := hR
  refine Calls.mono (above_made2 (-1) u14 ⟨by decide, by decide⟩) ?_
  rintro e u15 ⟨Fd10, sd10, td10, rfl, Hd10, b1⟩
  replace Hd10 := Hd10 y2.heap.size (Nat.ne_of_lt hR0)
  replace hvA := hvA.keep (Kr.of b1)
  replace hvB := hvB.keep (Kr.of b1)
  replace hvC := hvC.keep (Kr.of b1)
  replace Hc5 := Hc5.keep (Kr.of b1)
  replace Hc6 := Hc6.keep (Kr.of b1)
  replace Hd7 := Hd7.keep (Kr.of b1)
  replace Hd8 := Hd8.keep (Kr.of b1)
  replace Hd9 := Hd9.keep (Kr.of b1)
  replace bA := nT bA b1
  replace hR := Nat.lt_of_lt_of_le hR b1.size
  replace hM := (b1.block _ hR0).trans hM
  clear b1 hR0
  obtain ⟨u16, hI10, hM2, kr, bA2, hz⟩ := ins_all (w0 := w) 10 (.agg #[(.func (.func Fd10) sd10 td10), (.func (.func FvA) svA tvA)]) hM (by rfl) bA lR
  replace hM : u16.heap[y2.heap.size]? = some (.map #[{ key := .int .u8 1, val := .agg #[(.func (.func 53) #[] #[]), (.func (.func FvB) svB tvB)], born := 0 }, { key := .int .u8 2, val := .agg #[(.func (.func 53) #[] #[]), (.func (.func 54) #[.agg #[.int .u64 1, .int .i64 (-16384), .int .i64 16384]] #[])], born := 1 }, { key := .int .u8 3, val := .agg #[(.func (.func 53) #[] #[]), (.func (.func 54) #[.agg #[.int .u64 5, .int .i64 0, .int .i64 23]] #[])], born := 2 }, { key := .int .u8 4, val := .agg #[(.func (.func 53) #[] #[]), (.func (.func FvA) svA tvA)], born := 3 }, { key := .int .u8 5, val := .agg #[(.func (.func 53) #[] #[]), (.func (.func Fc5) sc5 tc5)], born := 4 }, { key := .int .u8 6, val := .agg #[(.func (.func 53) #[] #[]), (.func (.func Fc6) sc6 tc6)], born := 5 }, { key := .int .u8 7, val := .agg #[(.func (.func Fd7) sd7 td7), (.func (.func FvC) svC tvC)], born := 6 }, { key := .int .u8 8, val := .agg #[(.func (.func Fd8) sd8 td8), (.func (.func 57) #[.agg #[.int .u64 1, .int .i64 (-1074), .int .i64 1023]] #[])], born := 7 }, { key := .int .u8 9, val := .agg #[(.func (.func Fd9) sd9 td9), (.func (.func 57) #[.agg #[.int .u64 5, .int .i64 0, .int .i64 22]] #[])], born := 8 }, { key := .int .u8 10, val := .agg #[(.func (.func Fd10) sd10 td10), (.func (.func FvA) svA tvA)], born := 9 }] 10) := hM2
  replace hvA := hvA.keep kr
  replace hvB := hvB.keep kr
  replace hvC := hvC.keep kr
  replace Hc5 := Hc5.keep kr
  replace Hc6 := Hc6.keep kr
  replace Hd7 := Hd7.keep kr
  replace Hd8 := Hd8.keep kr
  replace Hd9 := Hd9.keep kr
  replace Hd10 := Hd10.keep kr
  replace bA := bA2
  rw [← hz] at hR
  clear kr bA2 hM2 hz
  go_wp2_with fail
  have hR0 := hR
  refine Calls.mono (above_made2 (-1) u16 ⟨by decide, by decide⟩) ?_
  rintro e u17 ⟨Fd11, sd11, td11, rfl, Hd11, b1⟩
  replace Hd11 := Hd11 y2.heap.size (Nat.ne_of_lt hR0)
  replace hvA := hvA.keep (Kr.of b1)
  replace hvB := hvB.keep (Kr.of b1)
  replace hvC := hvC.keep (Kr.of b1)
  replace Hc5 := Hc5.keep (Kr.of b1)
  replace Hc6 := Hc6.keep (Kr.of b1)
  replace Hd7 := Hd7.keep (Kr.of b1)
  replace Hd8 := Hd8.keep (Kr.of b1)
  replace Hd9 := Hd9.keep (Kr.of b1)
  replace Hd10 := Hd10.keep (Kr.of b1)
  replace bA := nT bA b1
  replace hR := Nat.lt_of_lt_of_le hR b1.size
  replace hM := (b1.block _ hR0).trans hM
  clear b1 hR0
  go_wp2_with fail
  have hR0 := hR
  refine Calls.mono (more_made 57 #[.agg #[.int .u64 1, .int .i64 (-1074), .int .i64 1023]] #[] u17) ?_
  rintro e u18 ⟨Fc11, sc11, tc11, rfl, Hc11, b1⟩
  replace Hc11 := Hc11 y2.heap.size _ (Nat.ne_of_lt hR0) (expo_is1 _ _ (-1074) 1023 (by decide) (by decide))
  replace hvA := hvA.keep (Kr.of b1)
  replace hvB := hvB.keep (Kr.of b1)
  replace hvC := hvC.keep (Kr.of b1)
  replace Hc5 := Hc5.keep (Kr.of b1)
  replace Hc6 := Hc6.keep (Kr.of b1)
  replace Hd7 := Hd7.keep (Kr.of b1)
  replace Hd8 := Hd8.keep (Kr.of b1)
  replace Hd9 := Hd9.keep (Kr.of b1)
  replace Hd10 := Hd10.keep (Kr.of b1)
  replace Hd11 := Hd11.keep (Kr.of b1)
  replace bA := nT bA b1
  replace hR := Nat.lt_of_lt_of_le hR b1.size
  replace hM := (b1.block _ hR0).trans hM
  clear b1 hR0
  obtain ⟨u19, hI11, hM2, kr, bA2, hz⟩ := ins_all (w0 := w) 11 (.agg #[(.func (.func Fd11) sd11 td11), (.func (.func Fc11) sc11 tc11)]) hM (by rfl) bA lR
  replace hM : u19.heap[y2.heap.size]? = some (.map #[{ key := .int .u8 1, val := .agg #[(.func (.func 53) #[] #[]), (.func (.func FvB) svB tvB)], born := 0 }, { key := .int .u8 2, val := .agg #[(.func (.func 53) #[] #[]), (.func (.func 54) #[.agg #[.int .u64 1, .int .i64 (-16384), .int .i64 16384]] #[])], born := 1 }, { key := .int .u8 3, val := .agg #[(.func (.func 53) #[] #[]), (.func (.func 54) #[.agg #[.int .u64 5, .int .i64 0, .int .i64 23]] #[])], born := 2 }, { key := .int .u8 4, val := .agg #[(.func (.func 53) #[] #[]), (.func (.func FvA) svA tvA)], born := 3 }, { key := .int .u8 5, val := .agg #[(.func (.func 53) #[] #[]), (.func (.func Fc5) sc5 tc5)], born := 4 }, { key := .int .u8 6, val := .agg #[(.func (.func 53) #[] #[]), (.func (.func Fc6) sc6 tc6)], born := 5 }, { key := .int .u8 7, val := .agg #[(.func (.func Fd7) sd7 td7), (.func (.func FvC) svC tvC)], born := 6 }, { key := .int .u8 8, val := .agg #[(.func (.func Fd8) sd8 td8), (.func (.func 57) #[.agg #[.int .u64 1, .int .i64 (-1074), .int .i64 1023]] #[])], born := 7 }, { key := .int .u8 9, val := .agg #[(.func (.func Fd9) sd9 td9), (.func (.func 57) #[.agg #[.int .u64 5, .int .i64 0, .int .i64 22]] #[])], born := 8 }, { key := .int .u8 10, val := .agg #[(.func (.func Fd10) sd10 td10), (.func (.func FvA) svA tvA)], born := 9 }, { key := .int .u8 11, val := .agg #[(.func (.func Fd11) sd11 td11), (.func (.func Fc11) sc11 tc11)], born := 10 }] 11) := hM2
  replace hvA := hvA.keep kr
  replace hvB := hvB.keep kr
  replace hvC := hvC.keep kr
  replace Hc5 := Hc5.keep kr
  replace Hc6 := Hc6.keep kr
  replace Hd7 := Hd7.keep kr
  replace Hd8 := Hd8.keep kr
  replace Hd9 := Hd9.keep kr
  replace Hd10 := Hd10.keep kr
  replace Hd11 := Hd11.keep kr
  replace Hc11 := Hc11.keep kr
  replace bA := bA2
  rw [← hz] at hR
  clear kr bA2 hM2 hz
  go_wp2_with fail
  have hR0 := hR
  refine Calls.mono (above_made2 (-1) u19 ⟨by decide, by decide⟩) ?_
  rintro e u20 ⟨Fd12, sd12, td12, rfl, Hd12, b1⟩
  replace Hd12 := Hd12 y2.heap.size (Nat.ne_of_lt hR0)
  replace hvA := hvA.keep (Kr.of b1)
  replace hvB := hvB.keep (Kr.of b1)
  replace hvC := hvC.keep (Kr.of b1)
  replace Hc5 := Hc5.keep (Kr.of b1)
  replace Hc6 := Hc6.keep (Kr.of b1)
  replace Hd7 := Hd7.keep (Kr.of b1)
  replace Hd8 := Hd8.keep (Kr.of b1)
  replace Hd9 := Hd9.keep (Kr.of b1)
  replace Hd10 := Hd10.keep (Kr.of b1)
  replace Hd11 := Hd11.keep (Kr.of b1)
  replace Hc11 := Hc11.keep (Kr.of b1)
  replace bA := nT bA b1
  replace hR := Nat.lt_of_lt_of_le hR b1.size
  replace hM := (b1.block _ hR0).trans hM
  clear b1 hR0
  go_wp2_with fail
  have hR0 := hR
  refine Calls.mono (more_made 57 #[.agg #[.int .u64 5, .int .i64 0, .int .i64 16]] #[] u20) ?_
  rintro e u21 ⟨Fc12, sc12, tc12, rfl, Hc12, b1⟩
  replace Hc12 := Hc12 y2.heap.size _ (Nat.ne_of_lt hR0) (expo_is5 _ _ 16 (by decide))
  replace hvA := hvA.keep (Kr.of b1)
  replace hvB := hvB.keep (Kr.of b1)
  replace hvC := hvC.keep (Kr.of b1)
  replace Hc5 := Hc5.keep (Kr.of b1)
  replace Hc6 := Hc6.keep (Kr.of b1)
  replace Hd7 := Hd7.keep (Kr.of b1)
  replace Hd8 := Hd8.keep (Kr.of b1)
  replace Hd9 := Hd9.keep (Kr.of b1)
  replace Hd10 := Hd10.keep (Kr.of b1)
  replace Hd11 := Hd11.keep (Kr.of b1)
  replace Hc11 := Hc11.keep (Kr.of b1)
  replace Hd12 := Hd12.keep (Kr.of b1)
  replace bA := nT bA b1
  replace hR := Nat.lt_of_lt_of_le hR b1.size
  replace hM := (b1.block _ hR0).trans hM
  clear b1 hR0
  obtain ⟨u22, hI12, hM2, kr, bA2, hz⟩ := ins_all (w0 := w) 12 (.agg #[(.func (.func Fd12) sd12 td12), (.func (.func Fc12) sc12 tc12)]) hM (by rfl) bA lR
  replace hM : u22.heap[y2.heap.size]? = some (.map #[{ key := .int .u8 1, val := .agg #[(.func (.func 53) #[] #[]), (.func (.func FvB) svB tvB)], born := 0 }, { key := .int .u8 2, val := .agg #[(.func (.func 53) #[] #[]), (.func (.func 54) #[.agg #[.int .u64 1, .int .i64 (-16384), .int .i64 16384]] #[])], born := 1 }, { key := .int .u8 3, val := .agg #[(.func (.func 53) #[] #[]), (.func (.func 54) #[.agg #[.int .u64 5, .int .i64 0, .int .i64 23]] #[])], born := 2 }, { key := .int .u8 4, val := .agg #[(.func (.func 53) #[] #[]), (.func (.func FvA) svA tvA)], born := 3 }, { key := .int .u8 5, val := .agg #[(.func (.func 53) #[] #[]), (.func (.func Fc5) sc5 tc5)], born := 4 }, { key := .int .u8 6, val := .agg #[(.func (.func 53) #[] #[]), (.func (.func Fc6) sc6 tc6)], born := 5 }, { key := .int .u8 7, val := .agg #[(.func (.func Fd7) sd7 td7), (.func (.func FvC) svC tvC)], born := 6 }, { key := .int .u8 8, val := .agg #[(.func (.func Fd8) sd8 td8), (.func (.func 57) #[.agg #[.int .u64 1, .int .i64 (-1074), .int .i64 1023]] #[])], born := 7 }, { key := .int .u8 9, val := .agg #[(.func (.func Fd9) sd9 td9), (.func (.func 57) #[.agg #[.int .u64 5, .int .i64 0, .int .i64 22]] #[])], born := 8 }, { key := .int .u8 10, val := .agg #[(.func (.func Fd10) sd10 td10), (.func (.func FvA) svA tvA)], born := 9 }, { key := .int .u8 11, val := .agg #[(.func (.func Fd11) sd11 td11), (.func (.func Fc11) sc11 tc11)], born := 10 }, { key := .int .u8 12, val := .agg #[(.func (.func Fd12) sd12 td12), (.func (.func Fc12) sc12 tc12)], born := 11 }] 12) := hM2
  replace hvA := hvA.keep kr
  replace hvB := hvB.keep kr
  replace hvC := hvC.keep kr
  replace Hc5 := Hc5.keep kr
  replace Hc6 := Hc6.keep kr
  replace Hd7 := Hd7.keep kr
  replace Hd8 := Hd8.keep kr
  replace Hd9 := Hd9.keep kr
  replace Hd10 := Hd10.keep kr
  replace Hd11 := Hd11.keep kr
  replace Hc11 := Hc11.keep kr
  replace Hd12 := Hd12.keep kr
  replace Hc12 := Hc12.keep kr
  replace bA := bA2
  rw [← hz] at hR
  clear kr bA2 hM2 hz
  obtain ⟨u23, hI13, hM2, kr, bA2, hz⟩ := ins_all (w0 := w) 13 (.agg #[(.func (.func 53) #[] #[]), (.func (.func FvA) svA tvA)]) hM (by rfl) bA lR
  replace hM : u23.heap[y2.heap.size]? = some (.map #[{ key := .int .u8 1, val := .agg #[(.func (.func 53) #[] #[]), (.func (.func FvB) svB tvB)], born := 0 }, { key := .int .u8 2, val := .agg #[(.func (.func 53) #[] #[]), (.func (.func 54) #[.agg #[.int .u64 1, .int .i64 (-16384), .int .i64 16384]] #[])], born := 1 }, { key := .int .u8 3, val := .agg #[(.func (.func 53) #[] #[]), (.func (.func 54) #[.agg #[.int .u64 5, .int .i64 0, .int .i64 23]] #[])], born := 2 }, { key := .int .u8 4, val := .agg #[(.func (.func 53) #[] #[]), (.func (.func FvA) svA tvA)], born := 3 }, { key := .int .u8 5, val := .agg #[(.func (.func 53) #[] #[]), (.func (.func Fc5) sc5 tc5)], born := 4 }, { key := .int .u8 6, val := .agg #[(.func (.func 53) #[] #[]), (.func (.func Fc6) sc6 tc6)], born := 5 }, { key := .int .u8 7, val := .agg #[(.func (.func Fd7) sd7 td7), (.func (.func FvC) svC tvC)], born := 6 }, { key := .int .u8 8, val := .agg #[(.func (.func Fd8) sd8 td8), (.func (.func 57) #[.agg #[.int .u64 1, .int .i64 (-1074), .int .i64 1023]] #[])], born := 7 }, { key := .int .u8 9, val := .agg #[(.func (.func Fd9) sd9 td9), (.func (.func 57) #[.agg #[.int .u64 5, .int .i64 0, .int .i64 22]] #[])], born := 8 }, { key := .int .u8 10, val := .agg #[(.func (.func Fd10) sd10 td10), (.func (.func FvA) svA tvA)], born := 9 }, { key := .int .u8 11, val := .agg #[(.func (.func Fd11) sd11 td11), (.func (.func Fc11) sc11 tc11)], born := 10 }, { key := .int .u8 12, val := .agg #[(.func (.func Fd12) sd12 td12), (.func (.func Fc12) sc12 tc12)], born := 11 }, { key := .int .u8 13, val := .agg #[(.func (.func 53) #[] #[]), (.func (.func FvA) svA tvA)], born := 12 }] 13) := hM2
  replace hvA := hvA.keep kr
  replace hvB := hvB.keep kr
  replace hvC := hvC.keep kr
  replace Hc5 := Hc5.keep kr
  replace Hc6 := Hc6.keep kr
  replace Hd7 := Hd7.keep kr
  replace Hd8 := Hd8.keep kr
  replace Hd9 := Hd9.keep kr
  replace Hd10 := Hd10.keep kr
  replace Hd11 := Hd11.keep kr
  replace Hc11 := Hc11.keep kr
  replace Hd12 := Hd12.keep kr
  replace Hc12 := Hc12.keep kr
  replace bA := bA2
  rw [← hz] at hR
  clear kr bA2 hM2 hz
  obtain ⟨u24, hI14, hM2, kr, bA2, hz⟩ := ins_all (w0 := w) 14 (.agg #[(.func (.func 53) #[] #[]), (.func (.func FvB) svB tvB)]) hM (by rfl) bA lR
  replace hM : u24.heap[y2.heap.size]? = some (.map #[{ key := .int .u8 1, val := .agg #[(.func (.func 53) #[] #[]), (.func (.func FvB) svB tvB)], born := 0 }, { key := .int .u8 2, val := .agg #[(.func (.func 53) #[] #[]), (.func (.func 54) #[.agg #[.int .u64 1, .int .i64 (-16384), .int .i64 16384]] #[])], born := 1 }, { key := .int .u8 3, val := .agg #[(.func (.func 53) #[] #[]), (.func (.func 54) #[.agg #[.int .u64 5, .int .i64 0, .int .i64 23]] #[])], born := 2 }, { key := .int .u8 4, val := .agg #[(.func (.func 53) #[] #[]), (.func (.func FvA) svA tvA)], born := 3 }, { key := .int .u8 5, val := .agg #[(.func (.func 53) #[] #[]), (.func (.func Fc5) sc5 tc5)], born := 4 }, { key := .int .u8 6, val := .agg #[(.func (.func 53) #[] #[]), (.func (.func Fc6) sc6 tc6)], born := 5 }, { key := .int .u8 7, val := .agg #[(.func (.func Fd7) sd7 td7), (.func (.func FvC) svC tvC)], born := 6 }, { key := .int .u8 8, val := .agg #[(.func (.func Fd8) sd8 td8), (.func (.func 57) #[.agg #[.int .u64 1, .int .i64 (-1074), .int .i64 1023]] #[])], born := 7 }, { key := .int .u8 9, val := .agg #[(.func (.func Fd9) sd9 td9), (.func (.func 57) #[.agg #[.int .u64 5, .int .i64 0, .int .i64 22]] #[])], born := 8 }, { key := .int .u8 10, val := .agg #[(.func (.func Fd10) sd10 td10), (.func (.func FvA) svA tvA)], born := 9 }, { key := .int .u8 11, val := .agg #[(.func (.func Fd11) sd11 td11), (.func (.func Fc11) sc11 tc11)], born := 10 }, { key := .int .u8 12, val := .agg #[(.func (.func Fd12) sd12 td12), (.func (.func Fc12) sc12 tc12)], born := 11 }, { key := .int .u8 13, val := .agg #[(.func (.func 53) #[] #[]), (.func (.func FvA) svA tvA)], born := 12 }, { key := .int .u8 14, val := .agg #[(.func (.func 53) #[] #[]), (.func (.func FvB) svB tvB)], born := 13 }] 14) := hM2
  replace hvA := hvA.keep kr
  replace hvB := hvB.keep kr
  replace hvC := hvC.keep kr
  replace Hc5 := Hc5.keep kr
  replace Hc6 := Hc6.keep kr
  replace Hd7 := Hd7.keep kr
  replace Hd8 := Hd8.keep kr
  replace Hd9 := Hd9.keep kr
  replace Hd10 := Hd10.keep kr
  replace Hd11 := Hd11.keep kr
  replace Hc11 := Hc11.keep kr
  replace Hd12 := Hd12.keep kr
  replace Hc12 := Hc12.keep kr
  replace bA := bA2
  rw [← hz] at hR
  clear kr bA2 hM2 hz
  obtain ⟨u25, hI15, hM2, kr, bA2, hz⟩ := ins_all (w0 := w) 15 (.agg #[(.func (.func 53) #[] #[]), (.func (.func FvA) svA tvA)]) hM (by rfl) bA lR
  replace hM : u25.heap[y2.heap.size]? = some (.map #[{ key := .int .u8 1, val := .agg #[(.func (.func 53) #[] #[]), (.func (.func FvB) svB tvB)], born := 0 }, { key := .int .u8 2, val := .agg #[(.func (.func 53) #[] #[]), (.func (.func 54) #[.agg #[.int .u64 1, .int .i64 (-16384), .int .i64 16384]] #[])], born := 1 }, { key := .int .u8 3, val := .agg #[(.func (.func 53) #[] #[]), (.func (.func 54) #[.agg #[.int .u64 5, .int .i64 0, .int .i64 23]] #[])], born := 2 }, { key := .int .u8 4, val := .agg #[(.func (.func 53) #[] #[]), (.func (.func FvA) svA tvA)], born := 3 }, { key := .int .u8 5, val := .agg #[(.func (.func 53) #[] #[]), (.func (.func Fc5) sc5 tc5)], born := 4 }, { key := .int .u8 6, val := .agg #[(.func (.func 53) #[] #[]), (.func (.func Fc6) sc6 tc6)], born := 5 }, { key := .int .u8 7, val := .agg #[(.func (.func Fd7) sd7 td7), (.func (.func FvC) svC tvC)], born := 6 }, { key := .int .u8 8, val := .agg #[(.func (.func Fd8) sd8 td8), (.func (.func 57) #[.agg #[.int .u64 1, .int .i64 (-1074), .int .i64 1023]] #[])], born := 7 }, { key := .int .u8 9, val := .agg #[(.func (.func Fd9) sd9 td9), (.func (.func 57) #[.agg #[.int .u64 5, .int .i64 0, .int .i64 22]] #[])], born := 8 }, { key := .int .u8 10, val := .agg #[(.func (.func Fd10) sd10 td10), (.func (.func FvA) svA tvA)], born := 9 }, { key := .int .u8 11, val := .agg #[(.func (.func Fd11) sd11 td11), (.func (.func Fc11) sc11 tc11)], born := 10 }, { key := .int .u8 12, val := .agg #[(.func (.func Fd12) sd12 td12), (.func (.func Fc12) sc12 tc12)], born := 11 }, { key := .int .u8 13, val := .agg #[(.func (.func 53) #[] #[]), (.func (.func FvA) svA tvA)], born := 12 }, { key := .int .u8 14, val := .agg #[(.func (.func 53) #[] #[]), (.func (.func FvB) svB tvB)], born := 13 }, { key := .int .u8 15, val := .agg #[(.func (.func 53) #[] #[]), (.func (.func FvA) svA tvA)], born := 14 }] 15) := hM2
  replace hvA := hvA.keep kr
  replace hvB := hvB.keep kr
  replace hvC := hvC.keep kr
  replace Hc5 := Hc5.keep kr
  replace Hc6 := Hc6.keep kr
  replace Hd7 := Hd7.keep kr
  replace Hd8 := Hd8.keep kr
  replace Hd9 := Hd9.keep kr
  replace Hd10 := Hd10.keep kr
  replace Hd11 := Hd11.keep kr
  replace Hc11 := Hc11.keep kr
  replace Hd12 := Hd12.keep kr
  replace Hc12 := Hc12.keep kr
  replace bA := bA2
  rw [← hz] at hR
  clear kr bA2 hM2 hz
  go_wp2_with fail
  have hR0 := hR
  refine Calls.mono (sine_made u25) ?_
  rintro e u26 ⟨Fc16, sc16, tc16, rfl, Hc16, b1⟩
  replace Hc16 := Hc16 y2.heap.size (Nat.ne_of_lt hR0)
  replace hvA := hvA.keep (Kr.of b1)
  replace hvB := hvB.keep (Kr.of b1)
  replace hvC := hvC.keep (Kr.of b1)
  replace Hc5 := Hc5.keep (Kr.of b1)
  replace Hc6 := Hc6.keep (Kr.of b1)
  replace Hd7 := Hd7.keep (Kr.of b1)
  replace Hd8 := Hd8.keep (Kr.of b1)
  replace Hd9 := Hd9.keep (Kr.of b1)
  replace Hd10 := Hd10.keep (Kr.of b1)
  replace Hd11 := Hd11.keep (Kr.of b1)
  replace Hc11 := Hc11.keep (Kr.of b1)
  replace Hd12 := Hd12.keep (Kr.of b1)
  replace Hc12 := Hc12.keep (Kr.of b1)
  replace bA := nT bA b1
  replace hR := Nat.lt_of_lt_of_le hR b1.size
  replace hM := (b1.block _ hR0).trans hM
  clear b1 hR0
  obtain ⟨u27, hI16, hM2, kr, bA2, hz⟩ := ins_all (w0 := w) 16 (.agg #[(.func (.func 53) #[] #[]), (.func (.func Fc16) sc16 tc16)]) hM (by rfl) bA lR
  replace hM : u27.heap[y2.heap.size]? = some (.map #[{ key := .int .u8 1, val := .agg #[(.func (.func 53) #[] #[]), (.func (.func FvB) svB tvB)], born := 0 }, { key := .int .u8 2, val := .agg #[(.func (.func 53) #[] #[]), (.func (.func 54) #[.agg #[.int .u64 1, .int .i64 (-16384), .int .i64 16384]] #[])], born := 1 }, { key := .int .u8 3, val := .agg #[(.func (.func 53) #[] #[]), (.func (.func 54) #[.agg #[.int .u64 5, .int .i64 0, .int .i64 23]] #[])], born := 2 }, { key := .int .u8 4, val := .agg #[(.func (.func 53) #[] #[]), (.func (.func FvA) svA tvA)], born := 3 }, { key := .int .u8 5, val := .agg #[(.func (.func 53) #[] #[]), (.func (.func Fc5) sc5 tc5)], born := 4 }, { key := .int .u8 6, val := .agg #[(.func (.func 53) #[] #[]), (.func (.func Fc6) sc6 tc6)], born := 5 }, { key := .int .u8 7, val := .agg #[(.func (.func Fd7) sd7 td7), (.func (.func FvC) svC tvC)], born := 6 }, { key := .int .u8 8, val := .agg #[(.func (.func Fd8) sd8 td8), (.func (.func 57) #[.agg #[.int .u64 1, .int .i64 (-1074), .int .i64 1023]] #[])], born := 7 }, { key := .int .u8 9, val := .agg #[(.func (.func Fd9) sd9 td9), (.func (.func 57) #[.agg #[.int .u64 5, .int .i64 0, .int .i64 22]] #[])], born := 8 }, { key := .int .u8 10, val := .agg #[(.func (.func Fd10) sd10 td10), (.func (.func FvA) svA tvA)], born := 9 }, { key := .int .u8 11, val := .agg #[(.func (.func Fd11) sd11 td11), (.func (.func Fc11) sc11 tc11)], born := 10 }, { key := .int .u8 12, val := .agg #[(.func (.func Fd12) sd12 td12), (.func (.func Fc12) sc12 tc12)], born := 11 }, { key := .int .u8 13, val := .agg #[(.func (.func 53) #[] #[]), (.func (.func FvA) svA tvA)], born := 12 }, { key := .int .u8 14, val := .agg #[(.func (.func 53) #[] #[]), (.func (.func FvB) svB tvB)], born := 13 }, { key := .int .u8 15, val := .agg #[(.func (.func 53) #[] #[]), (.func (.func FvA) svA tvA)], born := 14 }, { key := .int .u8 16, val := .agg #[(.func (.func 53) #[] #[]), (.func (.func Fc16) sc16 tc16)], born := 15 }] 16) := hM2
  replace hvA := hvA.keep kr
  replace hvB := hvB.keep kr
  replace hvC := hvC.keep kr
  replace Hc5 := Hc5.keep kr
  replace Hc6 := Hc6.keep kr
  replace Hd7 := Hd7.keep kr
  replace Hd8 := Hd8.keep kr
  replace Hd9 := Hd9.keep kr
  replace Hd10 := Hd10.keep kr
  replace Hd11 := Hd11.keep kr
  replace Hc11 := Hc11.keep kr
  replace Hd12 := Hd12.keep kr
  replace Hc12 := Hc12.keep kr
  replace Hc16 := Hc16.keep kr
  replace bA := bA2
  rw [← hz] at hR
  clear kr bA2 hM2 hz
  go_wp2_with fail
  have hR0 := hR
  refine Calls.mono (cosine_made u27) ?_
  rintro e u28 ⟨Fc17, sc17, tc17, rfl, Hc17, b1⟩
  replace Hc17 := Hc17 y2.heap.size (Nat.ne_of_lt hR0)
  replace hvA := hvA.keep (Kr.of b1)
  replace hvB := hvB.keep (Kr.of b1)
  replace hvC := hvC.keep (Kr.of b1)
  replace Hc5 := Hc5.keep (Kr.of b1)
  replace Hc6 := Hc6.keep (Kr.of b1)
  replace Hd7 := Hd7.keep (Kr.of b1)
  replace Hd8 := Hd8.keep (Kr.of b1)
  replace Hd9 := Hd9.keep (Kr.of b1)
  replace Hd10 := Hd10.keep (Kr.of b1)
  replace Hd11 := Hd11.keep (Kr.of b1)
  replace Hc11 := Hc11.keep (Kr.of b1)
  replace Hd12 := Hd12.keep (Kr.of b1)
  replace Hc12 := Hc12.keep (Kr.of b1)
  replace Hc16 := Hc16.keep (Kr.of b1)
  replace bA := nT bA b1
  replace hR := Nat.lt_of_lt_of_le hR b1.size
  replace hM := (b1.block _ hR0).trans hM
  clear b1 hR0
  obtain ⟨u29, hI17, hM2, kr, bA2, hz⟩ := ins_all (w0 := w) 17 (.agg #[(.func (.func 53) #[] #[]), (.func (.func Fc17) sc17 tc17)]) hM (by rfl) bA lR
  replace hM : u29.heap[y2.heap.size]? = some (.map #[{ key := .int .u8 1, val := .agg #[(.func (.func 53) #[] #[]), (.func (.func FvB) svB tvB)], born := 0 }, { key := .int .u8 2, val := .agg #[(.func (.func 53) #[] #[]), (.func (.func 54) #[.agg #[.int .u64 1, .int .i64 (-16384), .int .i64 16384]] #[])], born := 1 }, { key := .int .u8 3, val := .agg #[(.func (.func 53) #[] #[]), (.func (.func 54) #[.agg #[.int .u64 5, .int .i64 0, .int .i64 23]] #[])], born := 2 }, { key := .int .u8 4, val := .agg #[(.func (.func 53) #[] #[]), (.func (.func FvA) svA tvA)], born := 3 }, { key := .int .u8 5, val := .agg #[(.func (.func 53) #[] #[]), (.func (.func Fc5) sc5 tc5)], born := 4 }, { key := .int .u8 6, val := .agg #[(.func (.func 53) #[] #[]), (.func (.func Fc6) sc6 tc6)], born := 5 }, { key := .int .u8 7, val := .agg #[(.func (.func Fd7) sd7 td7), (.func (.func FvC) svC tvC)], born := 6 }, { key := .int .u8 8, val := .agg #[(.func (.func Fd8) sd8 td8), (.func (.func 57) #[.agg #[.int .u64 1, .int .i64 (-1074), .int .i64 1023]] #[])], born := 7 }, { key := .int .u8 9, val := .agg #[(.func (.func Fd9) sd9 td9), (.func (.func 57) #[.agg #[.int .u64 5, .int .i64 0, .int .i64 22]] #[])], born := 8 }, { key := .int .u8 10, val := .agg #[(.func (.func Fd10) sd10 td10), (.func (.func FvA) svA tvA)], born := 9 }, { key := .int .u8 11, val := .agg #[(.func (.func Fd11) sd11 td11), (.func (.func Fc11) sc11 tc11)], born := 10 }, { key := .int .u8 12, val := .agg #[(.func (.func Fd12) sd12 td12), (.func (.func Fc12) sc12 tc12)], born := 11 }, { key := .int .u8 13, val := .agg #[(.func (.func 53) #[] #[]), (.func (.func FvA) svA tvA)], born := 12 }, { key := .int .u8 14, val := .agg #[(.func (.func 53) #[] #[]), (.func (.func FvB) svB tvB)], born := 13 }, { key := .int .u8 15, val := .agg #[(.func (.func 53) #[] #[]), (.func (.func FvA) svA tvA)], born := 14 }, { key := .int .u8 16, val := .agg #[(.func (.func 53) #[] #[]), (.func (.func Fc16) sc16 tc16)], born := 15 }, { key := .int .u8 17, val := .agg #[(.func (.func 53) #[] #[]), (.func (.func Fc17) sc17 tc17)], born := 16 }] 17) := hM2
  replace hvA := hvA.keep kr
  replace hvB := hvB.keep kr
  replace hvC := hvC.keep kr
  replace Hc5 := Hc5.keep kr
  replace Hc6 := Hc6.keep kr
  replace Hd7 := Hd7.keep kr
  replace Hd8 := Hd8.keep kr
  replace Hd9 := Hd9.keep kr
  replace Hd10 := Hd10.keep kr
  replace Hd11 := Hd11.keep kr
  replace Hc11 := Hc11.keep kr
  replace Hd12 := Hd12.keep kr
  replace Hc12 := Hc12.keep kr
  replace Hc16 := Hc16.keep kr
  replace Hc17 := Hc17.keep kr
  replace bA := bA2
  rw [← hz] at hR
  clear kr bA2 hM2 hz
  go_wp2_with fail
  have hR0 := hR
  refine Calls.mono (tangent_made u29) ?_
  rintro e u30 ⟨Fc18, sc18, tc18, rfl, Hc18, b1⟩
  replace Hc18 := Hc18 y2.heap.size (Nat.ne_of_lt hR0)
  replace hvA := hvA.keep (Kr.of b1)
  replace hvB := hvB.keep (Kr.of b1)
  replace hvC := hvC.keep (Kr.of b1)
  replace Hc5 := Hc5.keep (Kr.of b1)
  replace Hc6 := Hc6.keep (Kr.of b1)
  replace Hd7 := Hd7.keep (Kr.of b1)
  replace Hd8 := Hd8.keep (Kr.of b1)
  replace Hd9 := Hd9.keep (Kr.of b1)
  replace Hd10 := Hd10.keep (Kr.of b1)
  replace Hd11 := Hd11.keep (Kr.of b1)
  replace Hc11 := Hc11.keep (Kr.of b1)
  replace Hd12 := Hd12.keep (Kr.of b1)
  replace Hc12 := Hc12.keep (Kr.of b1)
  replace Hc16 := Hc16.keep (Kr.of b1)
  replace Hc17 := Hc17.keep (Kr.of b1)
  replace bA := nT bA b1
  replace hR := Nat.lt_of_lt_of_le hR b1.size
  replace hM := (b1.block _ hR0).trans hM
  clear b1 hR0
  obtain ⟨u31, hI18, hM2, kr, bA2, hz⟩ := ins_all (w0 := w) 18 (.agg #[(.func (.func 62) #[] #[]), (.func (.func Fc18) sc18 tc18)]) hM (by rfl) bA lR
  replace hM : u31.heap[y2.heap.size]? = some (.map #[{ key := .int .u8 1, val := .agg #[(.func (.func 53) #[] #[]), (.func (.func FvB) svB tvB)], born := 0 }, { key := .int .u8 2, val := .agg #[(.func (.func 53) #[] #[]), (.func (.func 54) #[.agg #[.int .u64 1, .int .i64 (-16384), .int .i64 16384]] #[])], born := 1 }, { key := .int .u8 3, val := .agg #[(.func (.func 53) #[] #[]), (.func (.func 54) #[.agg #[.int .u64 5, .int .i64 0, .int .i64 23]] #[])], born := 2 }, { key := .int .u8 4, val := .agg #[(.func (.func 53) #[] #[]), (.func (.func FvA) svA tvA)], born := 3 }, { key := .int .u8 5, val := .agg #[(.func (.func 53) #[] #[]), (.func (.func Fc5) sc5 tc5)], born := 4 }, { key := .int .u8 6, val := .agg #[(.func (.func 53) #[] #[]), (.func (.func Fc6) sc6 tc6)], born := 5 }, { key := .int .u8 7, val := .agg #[(.func (.func Fd7) sd7 td7), (.func (.func FvC) svC tvC)], born := 6 }, { key := .int .u8 8, val := .agg #[(.func (.func Fd8) sd8 td8), (.func (.func 57) #[.agg #[.int .u64 1, .int .i64 (-1074), .int .i64 1023]] #[])], born := 7 }, { key := .int .u8 9, val := .agg #[(.func (.func Fd9) sd9 td9), (.func (.func 57) #[.agg #[.int .u64 5, .int .i64 0, .int .i64 22]] #[])], born := 8 }, { key := .int .u8 10, val := .agg #[(.func (.func Fd10) sd10 td10), (.func (.func FvA) svA tvA)], born := 9 }, { key := .int .u8 11, val := .agg #[(.func (.func Fd11) sd11 td11), (.func (.func Fc11) sc11 tc11)], born := 10 }, { key := .int .u8 12, val := .agg #[(.func (.func Fd12) sd12 td12), (.func (.func Fc12) sc12 tc12)], born := 11 }, { key := .int .u8 13, val := .agg #[(.func (.func 53) #[] #[]), (.func (.func FvA) svA tvA)], born := 12 }, { key := .int .u8 14, val := .agg #[(.func (.func 53) #[] #[]), (.func (.func FvB) svB tvB)], born := 13 }, { key := .int .u8 15, val := .agg #[(.func (.func 53) #[] #[]), (.func (.func FvA) svA tvA)], born := 14 }, { key := .int .u8 16, val := .agg #[(.func (.func 53) #[] #[]), (.func (.func Fc16) sc16 tc16)], born := 15 }, { key := .int .u8 17, val := .agg #[(.func (.func 53) #[] #[]), (.func (.func Fc17) sc17 tc17)], born := 16 }, { key := .int .u8 18, val := .agg #[(.func (.func 62) #[] #[]), (.func (.func Fc18) sc18 tc18)], born := 17 }] 18) := hM2
  replace hvA := hvA.keep kr
  replace hvB := hvB.keep kr
  replace hvC := hvC.keep kr
  replace Hc5 := Hc5.keep kr
  replace Hc6 := Hc6.keep kr
  replace Hd7 := Hd7.keep kr
  replace Hd8 := Hd8.keep kr
  replace Hd9 := Hd9.keep kr
  replace Hd10 := Hd10.keep kr
  replace Hd11 := Hd11.keep kr
  replace Hc11 := Hc11.keep kr
  replace Hd12 := Hd12.keep kr
  replace Hc12 := Hc12.keep kr
  replace Hc16 := Hc16.keep kr
  replace Hc17 := Hc17.keep kr
  replace Hc18 := Hc18.keep kr
  replace bA := bA2
  rw [← hz] at hR
  clear kr bA2 hM2 hz
  obtain ⟨u32, hI19, hM2, kr, bA2, hz⟩ := ins_all (w0 := w) 19 (.agg #[(.func (.func 64) #[] #[]), (.func (.func FvA) svA tvA)]) hM (by rfl) bA lR
  replace hM : u32.heap[y2.heap.size]? = some (.map #[{ key := .int .u8 1, val := .agg #[(.func (.func 53) #[] #[]), (.func (.func FvB) svB tvB)], born := 0 }, { key := .int .u8 2, val := .agg #[(.func (.func 53) #[] #[]), (.func (.func 54) #[.agg #[.int .u64 1, .int .i64 (-16384), .int .i64 16384]] #[])], born := 1 }, { key := .int .u8 3, val := .agg #[(.func (.func 53) #[] #[]), (.func (.func 54) #[.agg #[.int .u64 5, .int .i64 0, .int .i64 23]] #[])], born := 2 }, { key := .int .u8 4, val := .agg #[(.func (.func 53) #[] #[]), (.func (.func FvA) svA tvA)], born := 3 }, { key := .int .u8 5, val := .agg #[(.func (.func 53) #[] #[]), (.func (.func Fc5) sc5 tc5)], born := 4 }, { key := .int .u8 6, val := .agg #[(.func (.func 53) #[] #[]), (.func (.func Fc6) sc6 tc6)], born := 5 }, { key := .int .u8 7, val := .agg #[(.func (.func Fd7) sd7 td7), (.func (.func FvC) svC tvC)], born := 6 }, { key := .int .u8 8, val := .agg #[(.func (.func Fd8) sd8 td8), (.func (.func 57) #[.agg #[.int .u64 1, .int .i64 (-1074), .int .i64 1023]] #[])], born := 7 }, { key := .int .u8 9, val := .agg #[(.func (.func Fd9) sd9 td9), (.func (.func 57) #[.agg #[.int .u64 5, .int .i64 0, .int .i64 22]] #[])], born := 8 }, { key := .int .u8 10, val := .agg #[(.func (.func Fd10) sd10 td10), (.func (.func FvA) svA tvA)], born := 9 }, { key := .int .u8 11, val := .agg #[(.func (.func Fd11) sd11 td11), (.func (.func Fc11) sc11 tc11)], born := 10 }, { key := .int .u8 12, val := .agg #[(.func (.func Fd12) sd12 td12), (.func (.func Fc12) sc12 tc12)], born := 11 }, { key := .int .u8 13, val := .agg #[(.func (.func 53) #[] #[]), (.func (.func FvA) svA tvA)], born := 12 }, { key := .int .u8 14, val := .agg #[(.func (.func 53) #[] #[]), (.func (.func FvB) svB tvB)], born := 13 }, { key := .int .u8 15, val := .agg #[(.func (.func 53) #[] #[]), (.func (.func FvA) svA tvA)], born := 14 }, { key := .int .u8 16, val := .agg #[(.func (.func 53) #[] #[]), (.func (.func Fc16) sc16 tc16)], born := 15 }, { key := .int .u8 17, val := .agg #[(.func (.func 53) #[] #[]), (.func (.func Fc17) sc17 tc17)], born := 16 }, { key := .int .u8 18, val := .agg #[(.func (.func 62) #[] #[]), (.func (.func Fc18) sc18 tc18)], born := 17 }, { key := .int .u8 19, val := .agg #[(.func (.func 64) #[] #[]), (.func (.func FvA) svA tvA)], born := 18 }] 19) := hM2
  replace hvA := hvA.keep kr
  replace hvB := hvB.keep kr
  replace hvC := hvC.keep kr
  replace Hc5 := Hc5.keep kr
  replace Hc6 := Hc6.keep kr
  replace Hd7 := Hd7.keep kr
  replace Hd8 := Hd8.keep kr
  replace Hd9 := Hd9.keep kr
  replace Hd10 := Hd10.keep kr
  replace Hd11 := Hd11.keep kr
  replace Hc11 := Hc11.keep kr
  replace Hd12 := Hd12.keep kr
  replace Hc12 := Hc12.keep kr
  replace Hc16 := Hc16.keep kr
  replace Hc17 := Hc17.keep kr
  replace Hc18 := Hc18.keep kr
  replace bA := bA2
  rw [← hz] at hR
  clear kr bA2 hM2 hz
  obtain ⟨u33, hI20, hM2, kr, bA2, hz⟩ := ins_all (w0 := w) 20 (.agg #[(.func (.func 64) #[] #[]), (.func (.func FvC) svC tvC)]) hM (by rfl) bA lR
  replace hM : u33.heap[y2.heap.size]? = some (.map #[{ key := .int .u8 1, val := .agg #[(.func (.func 53) #[] #[]), (.func (.func FvB) svB tvB)], born := 0 }, { key := .int .u8 2, val := .agg #[(.func (.func 53) #[] #[]), (.func (.func 54) #[.agg #[.int .u64 1, .int .i64 (-16384), .int .i64 16384]] #[])], born := 1 }, { key := .int .u8 3, val := .agg #[(.func (.func 53) #[] #[]), (.func (.func 54) #[.agg #[.int .u64 5, .int .i64 0, .int .i64 23]] #[])], born := 2 }, { key := .int .u8 4, val := .agg #[(.func (.func 53) #[] #[]), (.func (.func FvA) svA tvA)], born := 3 }, { key := .int .u8 5, val := .agg #[(.func (.func 53) #[] #[]), (.func (.func Fc5) sc5 tc5)], born := 4 }, { key := .int .u8 6, val := .agg #[(.func (.func 53) #[] #[]), (.func (.func Fc6) sc6 tc6)], born := 5 }, { key := .int .u8 7, val := .agg #[(.func (.func Fd7) sd7 td7), (.func (.func FvC) svC tvC)], born := 6 }, { key := .int .u8 8, val := .agg #[(.func (.func Fd8) sd8 td8), (.func (.func 57) #[.agg #[.int .u64 1, .int .i64 (-1074), .int .i64 1023]] #[])], born := 7 }, { key := .int .u8 9, val := .agg #[(.func (.func Fd9) sd9 td9), (.func (.func 57) #[.agg #[.int .u64 5, .int .i64 0, .int .i64 22]] #[])], born := 8 }, { key := .int .u8 10, val := .agg #[(.func (.func Fd10) sd10 td10), (.func (.func FvA) svA tvA)], born := 9 }, { key := .int .u8 11, val := .agg #[(.func (.func Fd11) sd11 td11), (.func (.func Fc11) sc11 tc11)], born := 10 }, { key := .int .u8 12, val := .agg #[(.func (.func Fd12) sd12 td12), (.func (.func Fc12) sc12 tc12)], born := 11 }, { key := .int .u8 13, val := .agg #[(.func (.func 53) #[] #[]), (.func (.func FvA) svA tvA)], born := 12 }, { key := .int .u8 14, val := .agg #[(.func (.func 53) #[] #[]), (.func (.func FvB) svB tvB)], born := 13 }, { key := .int .u8 15, val := .agg #[(.func (.func 53) #[] #[]), (.func (.func FvA) svA tvA)], born := 14 }, { key := .int .u8 16, val := .agg #[(.func (.func 53) #[] #[]), (.func (.func Fc16) sc16 tc16)], born := 15 }, { key := .int .u8 17, val := .agg #[(.func (.func 53) #[] #[]), (.func (.func Fc17) sc17 tc17)], born := 16 }, { key := .int .u8 18, val := .agg #[(.func (.func 62) #[] #[]), (.func (.func Fc18) sc18 tc18)], born := 17 }, { key := .int .u8 19, val := .agg #[(.func (.func 64) #[] #[]), (.func (.func FvA) svA tvA)], born := 18 }, { key := .int .u8 20, val := .agg #[(.func (.func 64) #[] #[]), (.func (.func FvC) svC tvC)], born := 19 }] 20) := hM2
  replace hvA := hvA.keep kr
  replace hvB := hvB.keep kr
  replace hvC := hvC.keep kr
  replace Hc5 := Hc5.keep kr
  replace Hc6 := Hc6.keep kr
  replace Hd7 := Hd7.keep kr
  replace Hd8 := Hd8.keep kr
  replace Hd9 := Hd9.keep kr
  replace Hd10 := Hd10.keep kr
  replace Hd11 := Hd11.keep kr
  replace Hc11 := Hc11.keep kr
  replace Hd12 := Hd12.keep kr
  replace Hc12 := Hc12.keep kr
  replace Hc16 := Hc16.keep kr
  replace Hc17 := Hc17.keep kr
  replace Hc18 := Hc18.keep kr
  replace bA := bA2
  rw [← hz] at hR
  clear kr bA2 hM2 hz
  obtain ⟨u34, hI21, hM2, kr, bA2, hz⟩ := ins_all (w0 := w) 21 (.agg #[(.func (.func 53) #[] #[]), (.func (.func FvA) svA tvA)]) hM (by rfl) bA lR
  replace hM : u34.heap[y2.heap.size]? = some (.map #[{ key := .int .u8 1, val := .agg #[(.func (.func 53) #[] #[]), (.func (.func FvB) svB tvB)], born := 0 }, { key := .int .u8 2, val := .agg #[(.func (.func 53) #[] #[]), (.func (.func 54) #[.agg #[.int .u64 1, .int .i64 (-16384), .int .i64 16384]] #[])], born := 1 }, { key := .int .u8 3, val := .agg #[(.func (.func 53) #[] #[]), (.func (.func 54) #[.agg #[.int .u64 5, .int .i64 0, .int .i64 23]] #[])], born := 2 }, { key := .int .u8 4, val := .agg #[(.func (.func 53) #[] #[]), (.func (.func FvA) svA tvA)], born := 3 }, { key := .int .u8 5, val := .agg #[(.func (.func 53) #[] #[]), (.func (.func Fc5) sc5 tc5)], born := 4 }, { key := .int .u8 6, val := .agg #[(.func (.func 53) #[] #[]), (.func (.func Fc6) sc6 tc6)], born := 5 }, { key := .int .u8 7, val := .agg #[(.func (.func Fd7) sd7 td7), (.func (.func FvC) svC tvC)], born := 6 }, { key := .int .u8 8, val := .agg #[(.func (.func Fd8) sd8 td8), (.func (.func 57) #[.agg #[.int .u64 1, .int .i64 (-1074), .int .i64 1023]] #[])], born := 7 }, { key := .int .u8 9, val := .agg #[(.func (.func Fd9) sd9 td9), (.func (.func 57) #[.agg #[.int .u64 5, .int .i64 0, .int .i64 22]] #[])], born := 8 }, { key := .int .u8 10, val := .agg #[(.func (.func Fd10) sd10 td10), (.func (.func FvA) svA tvA)], born := 9 }, { key := .int .u8 11, val := .agg #[(.func (.func Fd11) sd11 td11), (.func (.func Fc11) sc11 tc11)], born := 10 }, { key := .int .u8 12, val := .agg #[(.func (.func Fd12) sd12 td12), (.func (.func Fc12) sc12 tc12)], born := 11 }, { key := .int .u8 13, val := .agg #[(.func (.func 53) #[] #[]), (.func (.func FvA) svA tvA)], born := 12 }, { key := .int .u8 14, val := .agg #[(.func (.func 53) #[] #[]), (.func (.func FvB) svB tvB)], born := 13 }, { key := .int .u8 15, val := .agg #[(.func (.func 53) #[] #[]), (.func (.func FvA) svA tvA)], born := 14 }, { key := .int .u8 16, val := .agg #[(.func (.func 53) #[] #[]), (.func (.func Fc16) sc16 tc16)], born := 15 }, { key := .int .u8 17, val := .agg #[(.func (.func 53) #[] #[]), (.func (.func Fc17) sc17 tc17)], born := 16 }, { key := .int .u8 18, val := .agg #[(.func (.func 62) #[] #[]), (.func (.func Fc18) sc18 tc18)], born := 17 }, { key := .int .u8 19, val := .agg #[(.func (.func 64) #[] #[]), (.func (.func FvA) svA tvA)], born := 18 }, { key := .int .u8 20, val := .agg #[(.func (.func 64) #[] #[]), (.func (.func FvC) svC tvC)], born := 19 }, { key := .int .u8 21, val := .agg #[(.func (.func 53) #[] #[]), (.func (.func FvA) svA tvA)], born := 20 }] 21) := hM2
  replace hvA := hvA.keep kr
  replace hvB := hvB.keep kr
  replace hvC := hvC.keep kr
  replace Hc5 := Hc5.keep kr
  replace Hc6 := Hc6.keep kr
  replace Hd7 := Hd7.keep kr
  replace Hd8 := Hd8.keep kr
  replace Hd9 := Hd9.keep kr
  replace Hd10 := Hd10.keep kr
  replace Hd11 := Hd11.keep kr
  replace Hc11 := Hc11.keep kr
  replace Hd12 := Hd12.keep kr
  replace Hc12 := Hc12.keep kr
  replace Hc16 := Hc16.keep kr
  replace Hc17 := Hc17.keep kr
  replace Hc18 := Hc18.keep kr
  replace bA := bA2
  rw [← hz] at hR
  clear kr bA2 hM2 hz
  go_wp2_with fail
  have bD := below_one u34 (.cells #[.int .i64 (-1), .int .i64 (-2), .int .i64 0, .int .i64 0, .int .i64 1, .int .i64 2] 84)
  have k0 : (u34.alloc (.cells #[.int .i64 (-1), .int .i64 (-2), .int .i64 0, .int .i64 0, .int .i64 1, .int .i64 2] 84)).cell? ⟨u34.heap.size, 0, none⟩ = some (.int .i64 (-1)) := by go_simp
  have k1 : (u34.alloc (.cells #[.int .i64 (-1), .int .i64 (-2), .int .i64 0, .int .i64 0, .int .i64 1, .int .i64 2] 84)).cell? ⟨u34.heap.size, 1, none⟩ = some (.int .i64 (-2)) := by go_simp
  have k2 : (u34.alloc (.cells #[.int .i64 (-1), .int .i64 (-2), .int .i64 0, .int .i64 0, .int .i64 1, .int .i64 2] 84)).cell? ⟨u34.heap.size, 2, none⟩ = some (.int .i64 0) := by go_simp
  have k3 : (u34.alloc (.cells #[.int .i64 (-1), .int .i64 (-2), .int .i64 0, .int .i64 0, .int .i64 1, .int .i64 2] 84)).cell? ⟨u34.heap.size, 3, none⟩ = some (.int .i64 0) := by go_simp
  have k4 : (u34.alloc (.cells #[.int .i64 (-1), .int .i64 (-2), .int .i64 0, .int .i64 0, .int .i64 1, .int .i64 2] 84)).cell? ⟨u34.heap.size, 4, none⟩ = some (.int .i64 1) := by go_simp
  have k5 : (u34.alloc (.cells #[.int .i64 (-1), .int .i64 (-2), .int .i64 0, .int .i64 0, .int .i64 1, .int .i64 2] 84)).cell? ⟨u34.heap.size, 5, none⟩ = some (.int .i64 2) := by go_simp
  have ng : y2.heap.size ≠ u34.heap.size := Nat.ne_of_lt hR
  have hR0 := hR
  replace hvA := hvA.keep (Kr.of bD)
  replace hvB := hvB.keep (Kr.of bD)
  replace hvC := hvC.keep (Kr.of bD)
  replace Hc5 := Hc5.keep (Kr.of bD)
  replace Hc6 := Hc6.keep (Kr.of bD)
  replace Hd7 := Hd7.keep (Kr.of bD)
  replace Hd8 := Hd8.keep (Kr.of bD)
  replace Hd9 := Hd9.keep (Kr.of bD)
  replace Hd10 := Hd10.keep (Kr.of bD)
  replace Hd11 := Hd11.keep (Kr.of bD)
  replace Hc11 := Hc11.keep (Kr.of bD)
  replace Hd12 := Hd12.keep (Kr.of bD)
  replace Hc12 := Hc12.keep (Kr.of bD)
  replace Hc16 := Hc16.keep (Kr.of bD)
  replace Hc17 := Hc17.keep (Kr.of bD)
  replace Hc18 := Hc18.keep (Kr.of bD)
  replace bA := nT bA bD
  replace hR := Nat.lt_of_lt_of_le hR bD.size
  replace hM := (bD.block _ hR0).trans hM
  clear bD hR0
  generalize u34.alloc (.cells #[.int .i64 (-1), .int .i64 (-2), .int .i64 0, .int .i64 0, .int .i64 1, .int .i64 2] 84) = u35 at *
  generalize u34.heap.size = g22 at k0 k1 k2 k3 k4 k5 ng ⊢
  have hR0 := hR
  refine Calls.mono (at_made3 g22 (-1) (-2) 0 0 1 2 u35 ⟨by decide, by decide⟩ ⟨by decide, by decide⟩ ⟨by decide, by decide⟩ ⟨by decide, by decide⟩ ⟨by decide, by decide⟩ ⟨by decide, by decide⟩ ⟨k0, k1, k2, k3, k4, k5, trivial⟩) ?_
  rintro e u36 ⟨Fc22, sc22, tc22, rfl, Hc22, b1⟩
  replace Hc22 := Hc22 y2.heap.size (.inl hR0) ng
  replace hvA := hvA.keep (Kr.of b1)
  replace hvB := hvB.keep (Kr.of b1)
  replace hvC := hvC.keep (Kr.of b1)
  replace Hc5 := Hc5.keep (Kr.of b1)
  replace Hc6 := Hc6.keep (Kr.of b1)
  replace Hd7 := Hd7.keep (Kr.of b1)
  replace Hd8 := Hd8.keep (Kr.of b1)
  replace Hd9 := Hd9.keep (Kr.of b1)
  replace Hd10 := Hd10.keep (Kr.of b1)
  replace Hd11 := Hd11.keep (Kr.of b1)
  replace Hc11 := Hc11.keep (Kr.of b1)
  replace Hd12 := Hd12.keep (Kr.of b1)
  replace Hc12 := Hc12.keep (Kr.of b1)
  replace Hc16 := Hc16.keep (Kr.of b1)
  replace Hc17 := Hc17.keep (Kr.of b1)
  replace Hc18 := Hc18.keep (Kr.of b1)
  replace bA := nT bA b1
  replace hR := Nat.lt_of_lt_of_le hR b1.size
  replace hM := (b1.block _ hR0).trans hM
  clear b1 hR0 ng k0 k1 k2 k3 k4 k5
  obtain ⟨u37, hI22, hM2, kr, bA2, hz⟩ := ins_all (w0 := w) 22 (.agg #[(.func (.func 64) #[] #[]), (.func (.func Fc22) sc22 tc22)]) hM (by rfl) bA lR
  replace hM : u37.heap[y2.heap.size]? = some (.map #[{ key := .int .u8 1, val := .agg #[(.func (.func 53) #[] #[]), (.func (.func FvB) svB tvB)], born := 0 }, { key := .int .u8 2, val := .agg #[(.func (.func 53) #[] #[]), (.func (.func 54) #[.agg #[.int .u64 1, .int .i64 (-16384), .int .i64 16384]] #[])], born := 1 }, { key := .int .u8 3, val := .agg #[(.func (.func 53) #[] #[]), (.func (.func 54) #[.agg #[.int .u64 5, .int .i64 0, .int .i64 23]] #[])], born := 2 }, { key := .int .u8 4, val := .agg #[(.func (.func 53) #[] #[]), (.func (.func FvA) svA tvA)], born := 3 }, { key := .int .u8 5, val := .agg #[(.func (.func 53) #[] #[]), (.func (.func Fc5) sc5 tc5)], born := 4 }, { key := .int .u8 6, val := .agg #[(.func (.func 53) #[] #[]), (.func (.func Fc6) sc6 tc6)], born := 5 }, { key := .int .u8 7, val := .agg #[(.func (.func Fd7) sd7 td7), (.func (.func FvC) svC tvC)], born := 6 }, { key := .int .u8 8, val := .agg #[(.func (.func Fd8) sd8 td8), (.func (.func 57) #[.agg #[.int .u64 1, .int .i64 (-1074), .int .i64 1023]] #[])], born := 7 }, { key := .int .u8 9, val := .agg #[(.func (.func Fd9) sd9 td9), (.func (.func 57) #[.agg #[.int .u64 5, .int .i64 0, .int .i64 22]] #[])], born := 8 }, { key := .int .u8 10, val := .agg #[(.func (.func Fd10) sd10 td10), (.func (.func FvA) svA tvA)], born := 9 }, { key := .int .u8 11, val := .agg #[(.func (.func Fd11) sd11 td11), (.func (.func Fc11) sc11 tc11)], born := 10 }, { key := .int .u8 12, val := .agg #[(.func (.func Fd12) sd12 td12), (.func (.func Fc12) sc12 tc12)], born := 11 }, { key := .int .u8 13, val := .agg #[(.func (.func 53) #[] #[]), (.func (.func FvA) svA tvA)], born := 12 }, { key := .int .u8 14, val := .agg #[(.func (.func 53) #[] #[]), (.func (.func FvB) svB tvB)], born := 13 }, { key := .int .u8 15, val := .agg #[(.func (.func 53) #[] #[]), (.func (.func FvA) svA tvA)], born := 14 }, { key := .int .u8 16, val := .agg #[(.func (.func 53) #[] #[]), (.func (.func Fc16) sc16 tc16)], born := 15 }, { key := .int .u8 17, val := .agg #[(.func (.func 53) #[] #[]), (.func (.func Fc17) sc17 tc17)], born := 16 }, { key := .int .u8 18, val := .agg #[(.func (.func 62) #[] #[]), (.func (.func Fc18) sc18 tc18)], born := 17 }, { key := .int .u8 19, val := .agg #[(.func (.func 64) #[] #[]), (.func (.func FvA) svA tvA)], born := 18 }, { key := .int .u8 20, val := .agg #[(.func (.func 64) #[] #[]), (.func (.func FvC) svC tvC)], born := 19 }, { key := .int .u8 21, val := .agg #[(.func (.func 53) #[] #[]), (.func (.func FvA) svA tvA)], born := 20 }, { key := .int .u8 22, val := .agg #[(.func (.func 64) #[] #[]), (.func (.func Fc22) sc22 tc22)], born := 21 }] 22) := hM2
  replace hvA := hvA.keep kr
  replace hvB := hvB.keep kr
  replace hvC := hvC.keep kr
  replace Hc5 := Hc5.keep kr
  replace Hc6 := Hc6.keep kr
  replace Hd7 := Hd7.keep kr
  replace Hd8 := Hd8.keep kr
  replace Hd9 := Hd9.keep kr
  replace Hd10 := Hd10.keep kr
  replace Hd11 := Hd11.keep kr
  replace Hc11 := Hc11.keep kr
  replace Hd12 := Hd12.keep kr
  replace Hc12 := Hc12.keep kr
  replace Hc16 := Hc16.keep kr
  replace Hc17 := Hc17.keep kr
  replace Hc18 := Hc18.keep kr
  replace Hc22 := Hc22.keep kr
  replace bA := bA2
  rw [← hz] at hR
  clear kr bA2 hM2 hz
  go_wp2_with fail
  have bD := below_one u37 (.cells #[.int .i64 (-1), .int .i64 4, .int .i64 0, .int .i64 2, .int .i64 1, .int .i64 0] 84)
  have k0 : (u37.alloc (.cells #[.int .i64 (-1), .int .i64 4, .int .i64 0, .int .i64 2, .int .i64 1, .int .i64 0] 84)).cell? ⟨u37.heap.size, 0, none⟩ = some (.int .i64 (-1)) := by go_simp
  have k1 : (u37.alloc (.cells #[.int .i64 (-1), .int .i64 4, .int .i64 0, .int .i64 2, .int .i64 1, .int .i64 0] 84)).cell? ⟨u37.heap.size, 1, none⟩ = some (.int .i64 4) := by go_simp
  have k2 : (u37.alloc (.cells #[.int .i64 (-1), .int .i64 4, .int .i64 0, .int .i64 2, .int .i64 1, .int .i64 0] 84)).cell? ⟨u37.heap.size, 2, none⟩ = some (.int .i64 0) := by go_simp
  have k3 : (u37.alloc (.cells #[.int .i64 (-1), .int .i64 4, .int .i64 0, .int .i64 2, .int .i64 1, .int .i64 0] 84)).cell? ⟨u37.heap.size, 3, none⟩ = some (.int .i64 2) := by go_simp
  have k4 : (u37.alloc (.cells #[.int .i64 (-1), .int .i64 4, .int .i64 0, .int .i64 2, .int .i64 1, .int .i64 0] 84)).cell? ⟨u37.heap.size, 4, none⟩ = some (.int .i64 1) := by go_simp
  have k5 : (u37.alloc (.cells #[.int .i64 (-1), .int .i64 4, .int .i64 0, .int .i64 2, .int .i64 1, .int .i64 0] 84)).cell? ⟨u37.heap.size, 5, none⟩ = some (.int .i64 0) := by go_simp
  have ng : y2.heap.size ≠ u37.heap.size := Nat.ne_of_lt hR
  have hR0 := hR
  replace hvA := hvA.keep (Kr.of bD)
  replace hvB := hvB.keep (Kr.of bD)
  replace hvC := hvC.keep (Kr.of bD)
  replace Hc5 := Hc5.keep (Kr.of bD)
  replace Hc6 := Hc6.keep (Kr.of bD)
  replace Hd7 := Hd7.keep (Kr.of bD)
  replace Hd8 := Hd8.keep (Kr.of bD)
  replace Hd9 := Hd9.keep (Kr.of bD)
  replace Hd10 := Hd10.keep (Kr.of bD)
  replace Hd11 := Hd11.keep (Kr.of bD)
  replace Hc11 := Hc11.keep (Kr.of bD)
  replace Hd12 := Hd12.keep (Kr.of bD)
  replace Hc12 := Hc12.keep (Kr.of bD)
  replace Hc16 := Hc16.keep (Kr.of bD)
  replace Hc17 := Hc17.keep (Kr.of bD)
  replace Hc18 := Hc18.keep (Kr.of bD)
  replace Hc22 := Hc22.keep (Kr.of bD)
  replace bA := nT bA bD
  replace hR := Nat.lt_of_lt_of_le hR bD.size
  replace hM := (bD.block _ hR0).trans hM
  clear bD hR0
  generalize u37.alloc (.cells #[.int .i64 (-1), .int .i64 4, .int .i64 0, .int .i64 2, .int .i64 1, .int .i64 0] 84) = u38 at *
  generalize u37.heap.size = g23 at k0 k1 k2 k3 k4 k5 ng ⊢
  have hR0 := hR
  refine Calls.mono (at_made3 g23 (-1) 4 0 2 1 0 u38 ⟨by decide, by decide⟩ ⟨by decide, by decide⟩ ⟨by decide, by decide⟩ ⟨by decide, by decide⟩ ⟨by decide, by decide⟩ ⟨by decide, by decide⟩ ⟨k0, k1, k2, k3, k4, k5, trivial⟩) ?_
  rintro e u39 ⟨Fc23, sc23, tc23, rfl, Hc23, b1⟩
  replace Hc23 := Hc23 y2.heap.size (.inl hR0) ng
  replace hvA := hvA.keep (Kr.of b1)
  replace hvB := hvB.keep (Kr.of b1)
  replace hvC := hvC.keep (Kr.of b1)
  replace Hc5 := Hc5.keep (Kr.of b1)
  replace Hc6 := Hc6.keep (Kr.of b1)
  replace Hd7 := Hd7.keep (Kr.of b1)
  replace Hd8 := Hd8.keep (Kr.of b1)
  replace Hd9 := Hd9.keep (Kr.of b1)
  replace Hd10 := Hd10.keep (Kr.of b1)
  replace Hd11 := Hd11.keep (Kr.of b1)
  replace Hc11 := Hc11.keep (Kr.of b1)
  replace Hd12 := Hd12.keep (Kr.of b1)
  replace Hc12 := Hc12.keep (Kr.of b1)
  replace Hc16 := Hc16.keep (Kr.of b1)
  replace Hc17 := Hc17.keep (Kr.of b1)
  replace Hc18 := Hc18.keep (Kr.of b1)
  replace Hc22 := Hc22.keep (Kr.of b1)
  replace bA := nT bA b1
  replace hR := Nat.lt_of_lt_of_le hR b1.size
  replace hM := (b1.block _ hR0).trans hM
  clear b1 hR0 ng k0 k1 k2 k3 k4 k5
  obtain ⟨u40, hI23, hM2, kr, bA2, hz⟩ := ins_all (w0 := w) 23 (.agg #[(.func (.func 64) #[] #[]), (.func (.func Fc23) sc23 tc23)]) hM (by rfl) bA lR
  replace hM : u40.heap[y2.heap.size]? = some (.map #[{ key := .int .u8 1, val := .agg #[(.func (.func 53) #[] #[]), (.func (.func FvB) svB tvB)], born := 0 }, { key := .int .u8 2, val := .agg #[(.func (.func 53) #[] #[]), (.func (.func 54) #[.agg #[.int .u64 1, .int .i64 (-16384), .int .i64 16384]] #[])], born := 1 }, { key := .int .u8 3, val := .agg #[(.func (.func 53) #[] #[]), (.func (.func 54) #[.agg #[.int .u64 5, .int .i64 0, .int .i64 23]] #[])], born := 2 }, { key := .int .u8 4, val := .agg #[(.func (.func 53) #[] #[]), (.func (.func FvA) svA tvA)], born := 3 }, { key := .int .u8 5, val := .agg #[(.func (.func 53) #[] #[]), (.func (.func Fc5) sc5 tc5)], born := 4 }, { key := .int .u8 6, val := .agg #[(.func (.func 53) #[] #[]), (.func (.func Fc6) sc6 tc6)], born := 5 }, { key := .int .u8 7, val := .agg #[(.func (.func Fd7) sd7 td7), (.func (.func FvC) svC tvC)], born := 6 }, { key := .int .u8 8, val := .agg #[(.func (.func Fd8) sd8 td8), (.func (.func 57) #[.agg #[.int .u64 1, .int .i64 (-1074), .int .i64 1023]] #[])], born := 7 }, { key := .int .u8 9, val := .agg #[(.func (.func Fd9) sd9 td9), (.func (.func 57) #[.agg #[.int .u64 5, .int .i64 0, .int .i64 22]] #[])], born := 8 }, { key := .int .u8 10, val := .agg #[(.func (.func Fd10) sd10 td10), (.func (.func FvA) svA tvA)], born := 9 }, { key := .int .u8 11, val := .agg #[(.func (.func Fd11) sd11 td11), (.func (.func Fc11) sc11 tc11)], born := 10 }, { key := .int .u8 12, val := .agg #[(.func (.func Fd12) sd12 td12), (.func (.func Fc12) sc12 tc12)], born := 11 }, { key := .int .u8 13, val := .agg #[(.func (.func 53) #[] #[]), (.func (.func FvA) svA tvA)], born := 12 }, { key := .int .u8 14, val := .agg #[(.func (.func 53) #[] #[]), (.func (.func FvB) svB tvB)], born := 13 }, { key := .int .u8 15, val := .agg #[(.func (.func 53) #[] #[]), (.func (.func FvA) svA tvA)], born := 14 }, { key := .int .u8 16, val := .agg #[(.func (.func 53) #[] #[]), (.func (.func Fc16) sc16 tc16)], born := 15 }, { key := .int .u8 17, val := .agg #[(.func (.func 53) #[] #[]), (.func (.func Fc17) sc17 tc17)], born := 16 }, { key := .int .u8 18, val := .agg #[(.func (.func 62) #[] #[]), (.func (.func Fc18) sc18 tc18)], born := 17 }, { key := .int .u8 19, val := .agg #[(.func (.func 64) #[] #[]), (.func (.func FvA) svA tvA)], born := 18 }, { key := .int .u8 20, val := .agg #[(.func (.func 64) #[] #[]), (.func (.func FvC) svC tvC)], born := 19 }, { key := .int .u8 21, val := .agg #[(.func (.func 53) #[] #[]), (.func (.func FvA) svA tvA)], born := 20 }, { key := .int .u8 22, val := .agg #[(.func (.func 64) #[] #[]), (.func (.func Fc22) sc22 tc22)], born := 21 }, { key := .int .u8 23, val := .agg #[(.func (.func 64) #[] #[]), (.func (.func Fc23) sc23 tc23)], born := 22 }] 23) := hM2
  replace hvA := hvA.keep kr
  replace hvB := hvB.keep kr
  replace hvC := hvC.keep kr
  replace Hc5 := Hc5.keep kr
  replace Hc6 := Hc6.keep kr
  replace Hd7 := Hd7.keep kr
  replace Hd8 := Hd8.keep kr
  replace Hd9 := Hd9.keep kr
  replace Hd10 := Hd10.keep kr
  replace Hd11 := Hd11.keep kr
  replace Hc11 := Hc11.keep kr
  replace Hd12 := Hd12.keep kr
  replace Hc12 := Hc12.keep kr
  replace Hc16 := Hc16.keep kr
  replace Hc17 := Hc17.keep kr
  replace Hc18 := Hc18.keep kr
  replace Hc22 := Hc22.keep kr
  replace Hc23 := Hc23.keep kr
  replace bA := bA2
  rw [← hz] at hR
  clear kr bA2 hM2 hz
  go_wp2_with fail
  have bD := below_one u40 (.cells #[.int .i64 (-1), .int .i64 (-1), .int .i64 0, .int .i64 0, .int .i64 1, .int .i64 1] 84)
  have k0 : (u40.alloc (.cells #[.int .i64 (-1), .int .i64 (-1), .int .i64 0, .int .i64 0, .int .i64 1, .int .i64 1] 84)).cell? ⟨u40.heap.size, 0, none⟩ = some (.int .i64 (-1)) := by go_simp
  have k1 : (u40.alloc (.cells #[.int .i64 (-1), .int .i64 (-1), .int .i64 0, .int .i64 0, .int .i64 1, .int .i64 1] 84)).cell? ⟨u40.heap.size, 1, none⟩ = some (.int .i64 (-1)) := by go_simp
  have k2 : (u40.alloc (.cells #[.int .i64 (-1), .int .i64 (-1), .int .i64 0, .int .i64 0, .int .i64 1, .int .i64 1] 84)).cell? ⟨u40.heap.size, 2, none⟩ = some (.int .i64 0) := by go_simp
  have k3 : (u40.alloc (.cells #[.int .i64 (-1), .int .i64 (-1), .int .i64 0, .int .i64 0, .int .i64 1, .int .i64 1] 84)).cell? ⟨u40.heap.size, 3, none⟩ = some (.int .i64 0) := by go_simp
  have k4 : (u40.alloc (.cells #[.int .i64 (-1), .int .i64 (-1), .int .i64 0, .int .i64 0, .int .i64 1, .int .i64 1] 84)).cell? ⟨u40.heap.size, 4, none⟩ = some (.int .i64 1) := by go_simp
  have k5 : (u40.alloc (.cells #[.int .i64 (-1), .int .i64 (-1), .int .i64 0, .int .i64 0, .int .i64 1, .int .i64 1] 84)).cell? ⟨u40.heap.size, 5, none⟩ = some (.int .i64 1) := by go_simp
  have ng : y2.heap.size ≠ u40.heap.size := Nat.ne_of_lt hR
  have hR0 := hR
  replace hvA := hvA.keep (Kr.of bD)
  replace hvB := hvB.keep (Kr.of bD)
  replace hvC := hvC.keep (Kr.of bD)
  replace Hc5 := Hc5.keep (Kr.of bD)
  replace Hc6 := Hc6.keep (Kr.of bD)
  replace Hd7 := Hd7.keep (Kr.of bD)
  replace Hd8 := Hd8.keep (Kr.of bD)
  replace Hd9 := Hd9.keep (Kr.of bD)
  replace Hd10 := Hd10.keep (Kr.of bD)
  replace Hd11 := Hd11.keep (Kr.of bD)
  replace Hc11 := Hc11.keep (Kr.of bD)
  replace Hd12 := Hd12.keep (Kr.of bD)
  replace Hc12 := Hc12.keep (Kr.of bD)
  replace Hc16 := Hc16.keep (Kr.of bD)
  replace Hc17 := Hc17.keep (Kr.of bD)
  replace Hc18 := Hc18.keep (Kr.of bD)
  replace Hc22 := Hc22.keep (Kr.of bD)
  replace Hc23 := Hc23.keep (Kr.of bD)
  replace bA := nT bA bD
  replace hR := Nat.lt_of_lt_of_le hR bD.size
  replace hM := (bD.block _ hR0).trans hM
  clear bD hR0
  generalize u40.alloc (.cells #[.int .i64 (-1), .int .i64 (-1), .int .i64 0, .int .i64 0, .int .i64 1, .int .i64 1] 84) = u41 at *
  generalize u40.heap.size = g24 at k0 k1 k2 k3 k4 k5 ng ⊢
  have hR0 := hR
  refine Calls.mono (at_made3 g24 (-1) (-1) 0 0 1 1 u41 ⟨by decide, by decide⟩ ⟨by decide, by decide⟩ ⟨by decide, by decide⟩ ⟨by decide, by decide⟩ ⟨by decide, by decide⟩ ⟨by decide, by decide⟩ ⟨k0, k1, k2, k3, k4, k5, trivial⟩) ?_
  rintro e u42 ⟨Fc24, sc24, tc24, rfl, Hc24, b1⟩
  replace Hc24 := Hc24 y2.heap.size (.inl hR0) ng
  replace hvA := hvA.keep (Kr.of b1)
  replace hvB := hvB.keep (Kr.of b1)
  replace hvC := hvC.keep (Kr.of b1)
  replace Hc5 := Hc5.keep (Kr.of b1)
  replace Hc6 := Hc6.keep (Kr.of b1)
  replace Hd7 := Hd7.keep (Kr.of b1)
  replace Hd8 := Hd8.keep (Kr.of b1)
  replace Hd9 := Hd9.keep (Kr.of b1)
  replace Hd10 := Hd10.keep (Kr.of b1)
  replace Hd11 := Hd11.keep (Kr.of b1)
  replace Hc11 := Hc11.keep (Kr.of b1)
  replace Hd12 := Hd12.keep (Kr.of b1)
  replace Hc12 := Hc12.keep (Kr.of b1)
  replace Hc16 := Hc16.keep (Kr.of b1)
  replace Hc17 := Hc17.keep (Kr.of b1)
  replace Hc18 := Hc18.keep (Kr.of b1)
  replace Hc22 := Hc22.keep (Kr.of b1)
  replace Hc23 := Hc23.keep (Kr.of b1)
  replace bA := nT bA b1
  replace hR := Nat.lt_of_lt_of_le hR b1.size
  replace hM := (b1.block _ hR0).trans hM
  clear b1 hR0 ng k0 k1 k2 k3 k4 k5
  obtain ⟨u43, hI24, hM2, kr, bA2, hz⟩ := ins_all (w0 := w) 24 (.agg #[(.func (.func 53) #[] #[]), (.func (.func Fc24) sc24 tc24)]) hM (by rfl) bA lR
  replace hM : u43.heap[y2.heap.size]? = some (.map #[{ key := .int .u8 1, val := .agg #[(.func (.func 53) #[] #[]), (.func (.func FvB) svB tvB)], born := 0 }, { key := .int .u8 2, val := .agg #[(.func (.func 53) #[] #[]), (.func (.func 54) #[.agg #[.int .u64 1, .int .i64 (-16384), .int .i64 16384]] #[])], born := 1 }, { key := .int .u8 3, val := .agg #[(.func (.func 53) #[] #[]), (.func (.func 54) #[.agg #[.int .u64 5, .int .i64 0, .int .i64 23]] #[])], born := 2 }, { key := .int .u8 4, val := .agg #[(.func (.func 53) #[] #[]), (.func (.func FvA) svA tvA)], born := 3 }, { key := .int .u8 5, val := .agg #[(.func (.func 53) #[] #[]), (.func (.func Fc5) sc5 tc5)], born := 4 }, { key := .int .u8 6, val := .agg #[(.func (.func 53) #[] #[]), (.func (.func Fc6) sc6 tc6)], born := 5 }, { key := .int .u8 7, val := .agg #[(.func (.func Fd7) sd7 td7), (.func (.func FvC) svC tvC)], born := 6 }, { key := .int .u8 8, val := .agg #[(.func (.func Fd8) sd8 td8), (.func (.func 57) #[.agg #[.int .u64 1, .int .i64 (-1074), .int .i64 1023]] #[])], born := 7 }, { key := .int .u8 9, val := .agg #[(.func (.func Fd9) sd9 td9), (.func (.func 57) #[.agg #[.int .u64 5, .int .i64 0, .int .i64 22]] #[])], born := 8 }, { key := .int .u8 10, val := .agg #[(.func (.func Fd10) sd10 td10), (.func (.func FvA) svA tvA)], born := 9 }, { key := .int .u8 11, val := .agg #[(.func (.func Fd11) sd11 td11), (.func (.func Fc11) sc11 tc11)], born := 10 }, { key := .int .u8 12, val := .agg #[(.func (.func Fd12) sd12 td12), (.func (.func Fc12) sc12 tc12)], born := 11 }, { key := .int .u8 13, val := .agg #[(.func (.func 53) #[] #[]), (.func (.func FvA) svA tvA)], born := 12 }, { key := .int .u8 14, val := .agg #[(.func (.func 53) #[] #[]), (.func (.func FvB) svB tvB)], born := 13 }, { key := .int .u8 15, val := .agg #[(.func (.func 53) #[] #[]), (.func (.func FvA) svA tvA)], born := 14 }, { key := .int .u8 16, val := .agg #[(.func (.func 53) #[] #[]), (.func (.func Fc16) sc16 tc16)], born := 15 }, { key := .int .u8 17, val := .agg #[(.func (.func 53) #[] #[]), (.func (.func Fc17) sc17 tc17)], born := 16 }, { key := .int .u8 18, val := .agg #[(.func (.func 62) #[] #[]), (.func (.func Fc18) sc18 tc18)], born := 17 }, { key := .int .u8 19, val := .agg #[(.func (.func 64) #[] #[]), (.func (.func FvA) svA tvA)], born := 18 }, { key := .int .u8 20, val := .agg #[(.func (.func 64) #[] #[]), (.func (.func FvC) svC tvC)], born := 19 }, { key := .int .u8 21, val := .agg #[(.func (.func 53) #[] #[]), (.func (.func FvA) svA tvA)], born := 20 }, { key := .int .u8 22, val := .agg #[(.func (.func 64) #[] #[]), (.func (.func Fc22) sc22 tc22)], born := 21 }, { key := .int .u8 23, val := .agg #[(.func (.func 64) #[] #[]), (.func (.func Fc23) sc23 tc23)], born := 22 }, { key := .int .u8 24, val := .agg #[(.func (.func 53) #[] #[]), (.func (.func Fc24) sc24 tc24)], born := 23 }] 24) := hM2
  replace hvA := hvA.keep kr
  replace hvB := hvB.keep kr
  replace hvC := hvC.keep kr
  replace Hc5 := Hc5.keep kr
  replace Hc6 := Hc6.keep kr
  replace Hd7 := Hd7.keep kr
  replace Hd8 := Hd8.keep kr
  replace Hd9 := Hd9.keep kr
  replace Hd10 := Hd10.keep kr
  replace Hd11 := Hd11.keep kr
  replace Hc11 := Hc11.keep kr
  replace Hd12 := Hd12.keep kr
  replace Hc12 := Hc12.keep kr
  replace Hc16 := Hc16.keep kr
  replace Hc17 := Hc17.keep kr
  replace Hc18 := Hc18.keep kr
  replace Hc22 := Hc22.keep kr
  replace Hc23 := Hc23.keep kr
  replace Hc24 := Hc24.keep kr
  replace bA := bA2
  rw [← hz] at hR
  clear kr bA2 hM2 hz
  obtain ⟨u44, hI25, hM2, kr, bA2, hz⟩ := ins_all (w0 := w) 25 (.agg #[(.func (.func 53) #[] #[]), (.func (.func FvA) svA tvA)]) hM (by rfl) bA lR
  replace hM : u44.heap[y2.heap.size]? = some (.map #[{ key := .int .u8 1, val := .agg #[(.func (.func 53) #[] #[]), (.func (.func FvB) svB tvB)], born := 0 }, { key := .int .u8 2, val := .agg #[(.func (.func 53) #[] #[]), (.func (.func 54) #[.agg #[.int .u64 1, .int .i64 (-16384), .int .i64 16384]] #[])], born := 1 }, { key := .int .u8 3, val := .agg #[(.func (.func 53) #[] #[]), (.func (.func 54) #[.agg #[.int .u64 5, .int .i64 0, .int .i64 23]] #[])], born := 2 }, { key := .int .u8 4, val := .agg #[(.func (.func 53) #[] #[]), (.func (.func FvA) svA tvA)], born := 3 }, { key := .int .u8 5, val := .agg #[(.func (.func 53) #[] #[]), (.func (.func Fc5) sc5 tc5)], born := 4 }, { key := .int .u8 6, val := .agg #[(.func (.func 53) #[] #[]), (.func (.func Fc6) sc6 tc6)], born := 5 }, { key := .int .u8 7, val := .agg #[(.func (.func Fd7) sd7 td7), (.func (.func FvC) svC tvC)], born := 6 }, { key := .int .u8 8, val := .agg #[(.func (.func Fd8) sd8 td8), (.func (.func 57) #[.agg #[.int .u64 1, .int .i64 (-1074), .int .i64 1023]] #[])], born := 7 }, { key := .int .u8 9, val := .agg #[(.func (.func Fd9) sd9 td9), (.func (.func 57) #[.agg #[.int .u64 5, .int .i64 0, .int .i64 22]] #[])], born := 8 }, { key := .int .u8 10, val := .agg #[(.func (.func Fd10) sd10 td10), (.func (.func FvA) svA tvA)], born := 9 }, { key := .int .u8 11, val := .agg #[(.func (.func Fd11) sd11 td11), (.func (.func Fc11) sc11 tc11)], born := 10 }, { key := .int .u8 12, val := .agg #[(.func (.func Fd12) sd12 td12), (.func (.func Fc12) sc12 tc12)], born := 11 }, { key := .int .u8 13, val := .agg #[(.func (.func 53) #[] #[]), (.func (.func FvA) svA tvA)], born := 12 }, { key := .int .u8 14, val := .agg #[(.func (.func 53) #[] #[]), (.func (.func FvB) svB tvB)], born := 13 }, { key := .int .u8 15, val := .agg #[(.func (.func 53) #[] #[]), (.func (.func FvA) svA tvA)], born := 14 }, { key := .int .u8 16, val := .agg #[(.func (.func 53) #[] #[]), (.func (.func Fc16) sc16 tc16)], born := 15 }, { key := .int .u8 17, val := .agg #[(.func (.func 53) #[] #[]), (.func (.func Fc17) sc17 tc17)], born := 16 }, { key := .int .u8 18, val := .agg #[(.func (.func 62) #[] #[]), (.func (.func Fc18) sc18 tc18)], born := 17 }, { key := .int .u8 19, val := .agg #[(.func (.func 64) #[] #[]), (.func (.func FvA) svA tvA)], born := 18 }, { key := .int .u8 20, val := .agg #[(.func (.func 64) #[] #[]), (.func (.func FvC) svC tvC)], born := 19 }, { key := .int .u8 21, val := .agg #[(.func (.func 53) #[] #[]), (.func (.func FvA) svA tvA)], born := 20 }, { key := .int .u8 22, val := .agg #[(.func (.func 64) #[] #[]), (.func (.func Fc22) sc22 tc22)], born := 21 }, { key := .int .u8 23, val := .agg #[(.func (.func 64) #[] #[]), (.func (.func Fc23) sc23 tc23)], born := 22 }, { key := .int .u8 24, val := .agg #[(.func (.func 53) #[] #[]), (.func (.func Fc24) sc24 tc24)], born := 23 }, { key := .int .u8 25, val := .agg #[(.func (.func 53) #[] #[]), (.func (.func FvA) svA tvA)], born := 24 }] 25) := hM2
  replace hvA := hvA.keep kr
  replace hvB := hvB.keep kr
  replace hvC := hvC.keep kr
  replace Hc5 := Hc5.keep kr
  replace Hc6 := Hc6.keep kr
  replace Hd7 := Hd7.keep kr
  replace Hd8 := Hd8.keep kr
  replace Hd9 := Hd9.keep kr
  replace Hd10 := Hd10.keep kr
  replace Hd11 := Hd11.keep kr
  replace Hc11 := Hc11.keep kr
  replace Hd12 := Hd12.keep kr
  replace Hc12 := Hc12.keep kr
  replace Hc16 := Hc16.keep kr
  replace Hc17 := Hc17.keep kr
  replace Hc18 := Hc18.keep kr
  replace Hc22 := Hc22.keep kr
  replace Hc23 := Hc23.keep kr
  replace Hc24 := Hc24.keep kr
  replace bA := bA2
  rw [← hz] at hR
  clear kr bA2 hM2 hz
  obtain ⟨u45, hI26, hM2, kr, bA2, hz⟩ := ins_all (w0 := w) 26 (.agg #[(.func (.func 53) #[] #[]), (.func (.func FvB) svB tvB)]) hM (by rfl) bA lR
  replace hM : u45.heap[y2.heap.size]? = some (.map #[{ key := .int .u8 1, val := .agg #[(.func (.func 53) #[] #[]), (.func (.func FvB) svB tvB)], born := 0 }, { key := .int .u8 2, val := .agg #[(.func (.func 53) #[] #[]), (.func (.func 54) #[.agg #[.int .u64 1, .int .i64 (-16384), .int .i64 16384]] #[])], born := 1 }, { key := .int .u8 3, val := .agg #[(.func (.func 53) #[] #[]), (.func (.func 54) #[.agg #[.int .u64 5, .int .i64 0, .int .i64 23]] #[])], born := 2 }, { key := .int .u8 4, val := .agg #[(.func (.func 53) #[] #[]), (.func (.func FvA) svA tvA)], born := 3 }, { key := .int .u8 5, val := .agg #[(.func (.func 53) #[] #[]), (.func (.func Fc5) sc5 tc5)], born := 4 }, { key := .int .u8 6, val := .agg #[(.func (.func 53) #[] #[]), (.func (.func Fc6) sc6 tc6)], born := 5 }, { key := .int .u8 7, val := .agg #[(.func (.func Fd7) sd7 td7), (.func (.func FvC) svC tvC)], born := 6 }, { key := .int .u8 8, val := .agg #[(.func (.func Fd8) sd8 td8), (.func (.func 57) #[.agg #[.int .u64 1, .int .i64 (-1074), .int .i64 1023]] #[])], born := 7 }, { key := .int .u8 9, val := .agg #[(.func (.func Fd9) sd9 td9), (.func (.func 57) #[.agg #[.int .u64 5, .int .i64 0, .int .i64 22]] #[])], born := 8 }, { key := .int .u8 10, val := .agg #[(.func (.func Fd10) sd10 td10), (.func (.func FvA) svA tvA)], born := 9 }, { key := .int .u8 11, val := .agg #[(.func (.func Fd11) sd11 td11), (.func (.func Fc11) sc11 tc11)], born := 10 }, { key := .int .u8 12, val := .agg #[(.func (.func Fd12) sd12 td12), (.func (.func Fc12) sc12 tc12)], born := 11 }, { key := .int .u8 13, val := .agg #[(.func (.func 53) #[] #[]), (.func (.func FvA) svA tvA)], born := 12 }, { key := .int .u8 14, val := .agg #[(.func (.func 53) #[] #[]), (.func (.func FvB) svB tvB)], born := 13 }, { key := .int .u8 15, val := .agg #[(.func (.func 53) #[] #[]), (.func (.func FvA) svA tvA)], born := 14 }, { key := .int .u8 16, val := .agg #[(.func (.func 53) #[] #[]), (.func (.func Fc16) sc16 tc16)], born := 15 }, { key := .int .u8 17, val := .agg #[(.func (.func 53) #[] #[]), (.func (.func Fc17) sc17 tc17)], born := 16 }, { key := .int .u8 18, val := .agg #[(.func (.func 62) #[] #[]), (.func (.func Fc18) sc18 tc18)], born := 17 }, { key := .int .u8 19, val := .agg #[(.func (.func 64) #[] #[]), (.func (.func FvA) svA tvA)], born := 18 }, { key := .int .u8 20, val := .agg #[(.func (.func 64) #[] #[]), (.func (.func FvC) svC tvC)], born := 19 }, { key := .int .u8 21, val := .agg #[(.func (.func 53) #[] #[]), (.func (.func FvA) svA tvA)], born := 20 }, { key := .int .u8 22, val := .agg #[(.func (.func 64) #[] #[]), (.func (.func Fc22) sc22 tc22)], born := 21 }, { key := .int .u8 23, val := .agg #[(.func (.func 64) #[] #[]), (.func (.func Fc23) sc23 tc23)], born := 22 }, { key := .int .u8 24, val := .agg #[(.func (.func 53) #[] #[]), (.func (.func Fc24) sc24 tc24)], born := 23 }, { key := .int .u8 25, val := .agg #[(.func (.func 53) #[] #[]), (.func (.func FvA) svA tvA)], born := 24 }, { key := .int .u8 26, val := .agg #[(.func (.func 53) #[] #[]), (.func (.func FvB) svB tvB)], born := 25 }] 26) := hM2
  replace hvA := hvA.keep kr
  replace hvB := hvB.keep kr
  replace hvC := hvC.keep kr
  replace Hc5 := Hc5.keep kr
  replace Hc6 := Hc6.keep kr
  replace Hd7 := Hd7.keep kr
  replace Hd8 := Hd8.keep kr
  replace Hd9 := Hd9.keep kr
  replace Hd10 := Hd10.keep kr
  replace Hd11 := Hd11.keep kr
  replace Hc11 := Hc11.keep kr
  replace Hd12 := Hd12.keep kr
  replace Hc12 := Hc12.keep kr
  replace Hc16 := Hc16.keep kr
  replace Hc17 := Hc17.keep kr
  replace Hc18 := Hc18.keep kr
  replace Hc22 := Hc22.keep kr
  replace Hc23 := Hc23.keep kr
  replace Hc24 := Hc24.keep kr
  replace bA := bA2
  rw [← hz] at hR
  clear kr bA2 hM2 hz
  obtain ⟨u46, hI27, hM2, kr, bA2, hz⟩ := ins_all (w0 := w) 27 (.agg #[(.func (.func 53) #[] #[]), (.func (.func FvA) svA tvA)]) hM (by rfl) bA lR
  replace hM : u46.heap[y2.heap.size]? = some (.map #[{ key := .int .u8 1, val := .agg #[(.func (.func 53) #[] #[]), (.func (.func FvB) svB tvB)], born := 0 }, { key := .int .u8 2, val := .agg #[(.func (.func 53) #[] #[]), (.func (.func 54) #[.agg #[.int .u64 1, .int .i64 (-16384), .int .i64 16384]] #[])], born := 1 }, { key := .int .u8 3, val := .agg #[(.func (.func 53) #[] #[]), (.func (.func 54) #[.agg #[.int .u64 5, .int .i64 0, .int .i64 23]] #[])], born := 2 }, { key := .int .u8 4, val := .agg #[(.func (.func 53) #[] #[]), (.func (.func FvA) svA tvA)], born := 3 }, { key := .int .u8 5, val := .agg #[(.func (.func 53) #[] #[]), (.func (.func Fc5) sc5 tc5)], born := 4 }, { key := .int .u8 6, val := .agg #[(.func (.func 53) #[] #[]), (.func (.func Fc6) sc6 tc6)], born := 5 }, { key := .int .u8 7, val := .agg #[(.func (.func Fd7) sd7 td7), (.func (.func FvC) svC tvC)], born := 6 }, { key := .int .u8 8, val := .agg #[(.func (.func Fd8) sd8 td8), (.func (.func 57) #[.agg #[.int .u64 1, .int .i64 (-1074), .int .i64 1023]] #[])], born := 7 }, { key := .int .u8 9, val := .agg #[(.func (.func Fd9) sd9 td9), (.func (.func 57) #[.agg #[.int .u64 5, .int .i64 0, .int .i64 22]] #[])], born := 8 }, { key := .int .u8 10, val := .agg #[(.func (.func Fd10) sd10 td10), (.func (.func FvA) svA tvA)], born := 9 }, { key := .int .u8 11, val := .agg #[(.func (.func Fd11) sd11 td11), (.func (.func Fc11) sc11 tc11)], born := 10 }, { key := .int .u8 12, val := .agg #[(.func (.func Fd12) sd12 td12), (.func (.func Fc12) sc12 tc12)], born := 11 }, { key := .int .u8 13, val := .agg #[(.func (.func 53) #[] #[]), (.func (.func FvA) svA tvA)], born := 12 }, { key := .int .u8 14, val := .agg #[(.func (.func 53) #[] #[]), (.func (.func FvB) svB tvB)], born := 13 }, { key := .int .u8 15, val := .agg #[(.func (.func 53) #[] #[]), (.func (.func FvA) svA tvA)], born := 14 }, { key := .int .u8 16, val := .agg #[(.func (.func 53) #[] #[]), (.func (.func Fc16) sc16 tc16)], born := 15 }, { key := .int .u8 17, val := .agg #[(.func (.func 53) #[] #[]), (.func (.func Fc17) sc17 tc17)], born := 16 }, { key := .int .u8 18, val := .agg #[(.func (.func 62) #[] #[]), (.func (.func Fc18) sc18 tc18)], born := 17 }, { key := .int .u8 19, val := .agg #[(.func (.func 64) #[] #[]), (.func (.func FvA) svA tvA)], born := 18 }, { key := .int .u8 20, val := .agg #[(.func (.func 64) #[] #[]), (.func (.func FvC) svC tvC)], born := 19 }, { key := .int .u8 21, val := .agg #[(.func (.func 53) #[] #[]), (.func (.func FvA) svA tvA)], born := 20 }, { key := .int .u8 22, val := .agg #[(.func (.func 64) #[] #[]), (.func (.func Fc22) sc22 tc22)], born := 21 }, { key := .int .u8 23, val := .agg #[(.func (.func 64) #[] #[]), (.func (.func Fc23) sc23 tc23)], born := 22 }, { key := .int .u8 24, val := .agg #[(.func (.func 53) #[] #[]), (.func (.func Fc24) sc24 tc24)], born := 23 }, { key := .int .u8 25, val := .agg #[(.func (.func 53) #[] #[]), (.func (.func FvA) svA tvA)], born := 24 }, { key := .int .u8 26, val := .agg #[(.func (.func 53) #[] #[]), (.func (.func FvB) svB tvB)], born := 25 }, { key := .int .u8 27, val := .agg #[(.func (.func 53) #[] #[]), (.func (.func FvA) svA tvA)], born := 26 }] 27) := hM2
  replace hvA := hvA.keep kr
  replace hvB := hvB.keep kr
  replace hvC := hvC.keep kr
  replace Hc5 := Hc5.keep kr
  replace Hc6 := Hc6.keep kr
  replace Hd7 := Hd7.keep kr
  replace Hd8 := Hd8.keep kr
  replace Hd9 := Hd9.keep kr
  replace Hd10 := Hd10.keep kr
  replace Hd11 := Hd11.keep kr
  replace Hc11 := Hc11.keep kr
  replace Hd12 := Hd12.keep kr
  replace Hc12 := Hc12.keep kr
  replace Hc16 := Hc16.keep kr
  replace Hc17 := Hc17.keep kr
  replace Hc18 := Hc18.keep kr
  replace Hc22 := Hc22.keep kr
  replace Hc23 := Hc23.keep kr
  replace Hc24 := Hc24.keep kr
  replace bA := bA2
  rw [← hz] at hR
  clear kr bA2 hM2 hz
  obtain ⟨u47, hI28, hM2, kr, bA2, hz⟩ := ins_all (w0 := w) 28 (.agg #[(.func (.func 53) #[] #[]), (.func (.func FvA) svA tvA)]) hM (by rfl) bA lR
  replace hM : u47.heap[y2.heap.size]? = some (.map #[{ key := .int .u8 1, val := .agg #[(.func (.func 53) #[] #[]), (.func (.func FvB) svB tvB)], born := 0 }, { key := .int .u8 2, val := .agg #[(.func (.func 53) #[] #[]), (.func (.func 54) #[.agg #[.int .u64 1, .int .i64 (-16384), .int .i64 16384]] #[])], born := 1 }, { key := .int .u8 3, val := .agg #[(.func (.func 53) #[] #[]), (.func (.func 54) #[.agg #[.int .u64 5, .int .i64 0, .int .i64 23]] #[])], born := 2 }, { key := .int .u8 4, val := .agg #[(.func (.func 53) #[] #[]), (.func (.func FvA) svA tvA)], born := 3 }, { key := .int .u8 5, val := .agg #[(.func (.func 53) #[] #[]), (.func (.func Fc5) sc5 tc5)], born := 4 }, { key := .int .u8 6, val := .agg #[(.func (.func 53) #[] #[]), (.func (.func Fc6) sc6 tc6)], born := 5 }, { key := .int .u8 7, val := .agg #[(.func (.func Fd7) sd7 td7), (.func (.func FvC) svC tvC)], born := 6 }, { key := .int .u8 8, val := .agg #[(.func (.func Fd8) sd8 td8), (.func (.func 57) #[.agg #[.int .u64 1, .int .i64 (-1074), .int .i64 1023]] #[])], born := 7 }, { key := .int .u8 9, val := .agg #[(.func (.func Fd9) sd9 td9), (.func (.func 57) #[.agg #[.int .u64 5, .int .i64 0, .int .i64 22]] #[])], born := 8 }, { key := .int .u8 10, val := .agg #[(.func (.func Fd10) sd10 td10), (.func (.func FvA) svA tvA)], born := 9 }, { key := .int .u8 11, val := .agg #[(.func (.func Fd11) sd11 td11), (.func (.func Fc11) sc11 tc11)], born := 10 }, { key := .int .u8 12, val := .agg #[(.func (.func Fd12) sd12 td12), (.func (.func Fc12) sc12 tc12)], born := 11 }, { key := .int .u8 13, val := .agg #[(.func (.func 53) #[] #[]), (.func (.func FvA) svA tvA)], born := 12 }, { key := .int .u8 14, val := .agg #[(.func (.func 53) #[] #[]), (.func (.func FvB) svB tvB)], born := 13 }, { key := .int .u8 15, val := .agg #[(.func (.func 53) #[] #[]), (.func (.func FvA) svA tvA)], born := 14 }, { key := .int .u8 16, val := .agg #[(.func (.func 53) #[] #[]), (.func (.func Fc16) sc16 tc16)], born := 15 }, { key := .int .u8 17, val := .agg #[(.func (.func 53) #[] #[]), (.func (.func Fc17) sc17 tc17)], born := 16 }, { key := .int .u8 18, val := .agg #[(.func (.func 62) #[] #[]), (.func (.func Fc18) sc18 tc18)], born := 17 }, { key := .int .u8 19, val := .agg #[(.func (.func 64) #[] #[]), (.func (.func FvA) svA tvA)], born := 18 }, { key := .int .u8 20, val := .agg #[(.func (.func 64) #[] #[]), (.func (.func FvC) svC tvC)], born := 19 }, { key := .int .u8 21, val := .agg #[(.func (.func 53) #[] #[]), (.func (.func FvA) svA tvA)], born := 20 }, { key := .int .u8 22, val := .agg #[(.func (.func 64) #[] #[]), (.func (.func Fc22) sc22 tc22)], born := 21 }, { key := .int .u8 23, val := .agg #[(.func (.func 64) #[] #[]), (.func (.func Fc23) sc23 tc23)], born := 22 }, { key := .int .u8 24, val := .agg #[(.func (.func 53) #[] #[]), (.func (.func Fc24) sc24 tc24)], born := 23 }, { key := .int .u8 25, val := .agg #[(.func (.func 53) #[] #[]), (.func (.func FvA) svA tvA)], born := 24 }, { key := .int .u8 26, val := .agg #[(.func (.func 53) #[] #[]), (.func (.func FvB) svB tvB)], born := 25 }, { key := .int .u8 27, val := .agg #[(.func (.func 53) #[] #[]), (.func (.func FvA) svA tvA)], born := 26 }, { key := .int .u8 28, val := .agg #[(.func (.func 53) #[] #[]), (.func (.func FvA) svA tvA)], born := 27 }] 28) := hM2
  replace hvA := hvA.keep kr
  replace hvB := hvB.keep kr
  replace hvC := hvC.keep kr
  replace Hc5 := Hc5.keep kr
  replace Hc6 := Hc6.keep kr
  replace Hd7 := Hd7.keep kr
  replace Hd8 := Hd8.keep kr
  replace Hd9 := Hd9.keep kr
  replace Hd10 := Hd10.keep kr
  replace Hd11 := Hd11.keep kr
  replace Hc11 := Hc11.keep kr
  replace Hd12 := Hd12.keep kr
  replace Hc12 := Hc12.keep kr
  replace Hc16 := Hc16.keep kr
  replace Hc17 := Hc17.keep kr
  replace Hc18 := Hc18.keep kr
  replace Hc22 := Hc22.keep kr
  replace Hc23 := Hc23.keep kr
  replace Hc24 := Hc24.keep kr
  replace bA := bA2
  rw [← hz] at hR
  clear kr bA2 hM2 hz
  obtain ⟨u48, hI29, hM2, kr, bA2, hz⟩ := ins_all (w0 := w) 29 (.agg #[(.func (.func 65) #[] #[]), (.func (.func FvC) svC tvC)]) hM (by rfl) bA lR
  replace hM : u48.heap[y2.heap.size]? = some (.map #[{ key := .int .u8 1, val := .agg #[(.func (.func 53) #[] #[]), (.func (.func FvB) svB tvB)], born := 0 }, { key := .int .u8 2, val := .agg #[(.func (.func 53) #[] #[]), (.func (.func 54) #[.agg #[.int .u64 1, .int .i64 (-16384), .int .i64 16384]] #[])], born := 1 }, { key := .int .u8 3, val := .agg #[(.func (.func 53) #[] #[]), (.func (.func 54) #[.agg #[.int .u64 5, .int .i64 0, .int .i64 23]] #[])], born := 2 }, { key := .int .u8 4, val := .agg #[(.func (.func 53) #[] #[]), (.func (.func FvA) svA tvA)], born := 3 }, { key := .int .u8 5, val := .agg #[(.func (.func 53) #[] #[]), (.func (.func Fc5) sc5 tc5)], born := 4 }, { key := .int .u8 6, val := .agg #[(.func (.func 53) #[] #[]), (.func (.func Fc6) sc6 tc6)], born := 5 }, { key := .int .u8 7, val := .agg #[(.func (.func Fd7) sd7 td7), (.func (.func FvC) svC tvC)], born := 6 }, { key := .int .u8 8, val := .agg #[(.func (.func Fd8) sd8 td8), (.func (.func 57) #[.agg #[.int .u64 1, .int .i64 (-1074), .int .i64 1023]] #[])], born := 7 }, { key := .int .u8 9, val := .agg #[(.func (.func Fd9) sd9 td9), (.func (.func 57) #[.agg #[.int .u64 5, .int .i64 0, .int .i64 22]] #[])], born := 8 }, { key := .int .u8 10, val := .agg #[(.func (.func Fd10) sd10 td10), (.func (.func FvA) svA tvA)], born := 9 }, { key := .int .u8 11, val := .agg #[(.func (.func Fd11) sd11 td11), (.func (.func Fc11) sc11 tc11)], born := 10 }, { key := .int .u8 12, val := .agg #[(.func (.func Fd12) sd12 td12), (.func (.func Fc12) sc12 tc12)], born := 11 }, { key := .int .u8 13, val := .agg #[(.func (.func 53) #[] #[]), (.func (.func FvA) svA tvA)], born := 12 }, { key := .int .u8 14, val := .agg #[(.func (.func 53) #[] #[]), (.func (.func FvB) svB tvB)], born := 13 }, { key := .int .u8 15, val := .agg #[(.func (.func 53) #[] #[]), (.func (.func FvA) svA tvA)], born := 14 }, { key := .int .u8 16, val := .agg #[(.func (.func 53) #[] #[]), (.func (.func Fc16) sc16 tc16)], born := 15 }, { key := .int .u8 17, val := .agg #[(.func (.func 53) #[] #[]), (.func (.func Fc17) sc17 tc17)], born := 16 }, { key := .int .u8 18, val := .agg #[(.func (.func 62) #[] #[]), (.func (.func Fc18) sc18 tc18)], born := 17 }, { key := .int .u8 19, val := .agg #[(.func (.func 64) #[] #[]), (.func (.func FvA) svA tvA)], born := 18 }, { key := .int .u8 20, val := .agg #[(.func (.func 64) #[] #[]), (.func (.func FvC) svC tvC)], born := 19 }, { key := .int .u8 21, val := .agg #[(.func (.func 53) #[] #[]), (.func (.func FvA) svA tvA)], born := 20 }, { key := .int .u8 22, val := .agg #[(.func (.func 64) #[] #[]), (.func (.func Fc22) sc22 tc22)], born := 21 }, { key := .int .u8 23, val := .agg #[(.func (.func 64) #[] #[]), (.func (.func Fc23) sc23 tc23)], born := 22 }, { key := .int .u8 24, val := .agg #[(.func (.func 53) #[] #[]), (.func (.func Fc24) sc24 tc24)], born := 23 }, { key := .int .u8 25, val := .agg #[(.func (.func 53) #[] #[]), (.func (.func FvA) svA tvA)], born := 24 }, { key := .int .u8 26, val := .agg #[(.func (.func 53) #[] #[]), (.func (.func FvB) svB tvB)], born := 25 }, { key := .int .u8 27, val := .agg #[(.func (.func 53) #[] #[]), (.func (.func FvA) svA tvA)], born := 26 }, { key := .int .u8 28, val := .agg #[(.func (.func 53) #[] #[]), (.func (.func FvA) svA tvA)], born := 27 }, { key := .int .u8 29, val := .agg #[(.func (.func 65) #[] #[]), (.func (.func FvC) svC tvC)], born := 28 }] 29) := hM2
  replace hvA := hvA.keep kr
  replace hvB := hvB.keep kr
  replace hvC := hvC.keep kr
  replace Hc5 := Hc5.keep kr
  replace Hc6 := Hc6.keep kr
  replace Hd7 := Hd7.keep kr
  replace Hd8 := Hd8.keep kr
  replace Hd9 := Hd9.keep kr
  replace Hd10 := Hd10.keep kr
  replace Hd11 := Hd11.keep kr
  replace Hc11 := Hc11.keep kr
  replace Hd12 := Hd12.keep kr
  replace Hc12 := Hc12.keep kr
  replace Hc16 := Hc16.keep kr
  replace Hc17 := Hc17.keep kr
  replace Hc18 := Hc18.keep kr
  replace Hc22 := Hc22.keep kr
  replace Hc23 := Hc23.keep kr
  replace Hc24 := Hc24.keep kr
  replace bA := bA2
  rw [← hz] at hR
  clear kr bA2 hM2 hz
  obtain ⟨u49, hI30, hM2, kr, bA2, hz⟩ := ins_all (w0 := w) 30 (.agg #[(.func (.func 66) #[] #[]), (.func (.func FvA) svA tvA)]) hM (by rfl) bA lR
  replace hM : u49.heap[y2.heap.size]? = some (.map #[{ key := .int .u8 1, val := .agg #[(.func (.func 53) #[] #[]), (.func (.func FvB) svB tvB)], born := 0 }, { key := .int .u8 2, val := .agg #[(.func (.func 53) #[] #[]), (.func (.func 54) #[.agg #[.int .u64 1, .int .i64 (-16384), .int .i64 16384]] #[])], born := 1 }, { key := .int .u8 3, val := .agg #[(.func (.func 53) #[] #[]), (.func (.func 54) #[.agg #[.int .u64 5, .int .i64 0, .int .i64 23]] #[])], born := 2 }, { key := .int .u8 4, val := .agg #[(.func (.func 53) #[] #[]), (.func (.func FvA) svA tvA)], born := 3 }, { key := .int .u8 5, val := .agg #[(.func (.func 53) #[] #[]), (.func (.func Fc5) sc5 tc5)], born := 4 }, { key := .int .u8 6, val := .agg #[(.func (.func 53) #[] #[]), (.func (.func Fc6) sc6 tc6)], born := 5 }, { key := .int .u8 7, val := .agg #[(.func (.func Fd7) sd7 td7), (.func (.func FvC) svC tvC)], born := 6 }, { key := .int .u8 8, val := .agg #[(.func (.func Fd8) sd8 td8), (.func (.func 57) #[.agg #[.int .u64 1, .int .i64 (-1074), .int .i64 1023]] #[])], born := 7 }, { key := .int .u8 9, val := .agg #[(.func (.func Fd9) sd9 td9), (.func (.func 57) #[.agg #[.int .u64 5, .int .i64 0, .int .i64 22]] #[])], born := 8 }, { key := .int .u8 10, val := .agg #[(.func (.func Fd10) sd10 td10), (.func (.func FvA) svA tvA)], born := 9 }, { key := .int .u8 11, val := .agg #[(.func (.func Fd11) sd11 td11), (.func (.func Fc11) sc11 tc11)], born := 10 }, { key := .int .u8 12, val := .agg #[(.func (.func Fd12) sd12 td12), (.func (.func Fc12) sc12 tc12)], born := 11 }, { key := .int .u8 13, val := .agg #[(.func (.func 53) #[] #[]), (.func (.func FvA) svA tvA)], born := 12 }, { key := .int .u8 14, val := .agg #[(.func (.func 53) #[] #[]), (.func (.func FvB) svB tvB)], born := 13 }, { key := .int .u8 15, val := .agg #[(.func (.func 53) #[] #[]), (.func (.func FvA) svA tvA)], born := 14 }, { key := .int .u8 16, val := .agg #[(.func (.func 53) #[] #[]), (.func (.func Fc16) sc16 tc16)], born := 15 }, { key := .int .u8 17, val := .agg #[(.func (.func 53) #[] #[]), (.func (.func Fc17) sc17 tc17)], born := 16 }, { key := .int .u8 18, val := .agg #[(.func (.func 62) #[] #[]), (.func (.func Fc18) sc18 tc18)], born := 17 }, { key := .int .u8 19, val := .agg #[(.func (.func 64) #[] #[]), (.func (.func FvA) svA tvA)], born := 18 }, { key := .int .u8 20, val := .agg #[(.func (.func 64) #[] #[]), (.func (.func FvC) svC tvC)], born := 19 }, { key := .int .u8 21, val := .agg #[(.func (.func 53) #[] #[]), (.func (.func FvA) svA tvA)], born := 20 }, { key := .int .u8 22, val := .agg #[(.func (.func 64) #[] #[]), (.func (.func Fc22) sc22 tc22)], born := 21 }, { key := .int .u8 23, val := .agg #[(.func (.func 64) #[] #[]), (.func (.func Fc23) sc23 tc23)], born := 22 }, { key := .int .u8 24, val := .agg #[(.func (.func 53) #[] #[]), (.func (.func Fc24) sc24 tc24)], born := 23 }, { key := .int .u8 25, val := .agg #[(.func (.func 53) #[] #[]), (.func (.func FvA) svA tvA)], born := 24 }, { key := .int .u8 26, val := .agg #[(.func (.func 53) #[] #[]), (.func (.func FvB) svB tvB)], born := 25 }, { key := .int .u8 27, val := .agg #[(.func (.func 53) #[] #[]), (.func (.func FvA) svA tvA)], born := 26 }, { key := .int .u8 28, val := .agg #[(.func (.func 53) #[] #[]), (.func (.func FvA) svA tvA)], born := 27 }, { key := .int .u8 29, val := .agg #[(.func (.func 65) #[] #[]), (.func (.func FvC) svC tvC)], born := 28 }, { key := .int .u8 30, val := .agg #[(.func (.func 66) #[] #[]), (.func (.func FvA) svA tvA)], born := 29 }] 30) := hM2
  replace hvA := hvA.keep kr
  replace hvB := hvB.keep kr
  replace hvC := hvC.keep kr
  replace Hc5 := Hc5.keep kr
  replace Hc6 := Hc6.keep kr
  replace Hd7 := Hd7.keep kr
  replace Hd8 := Hd8.keep kr
  replace Hd9 := Hd9.keep kr
  replace Hd10 := Hd10.keep kr
  replace Hd11 := Hd11.keep kr
  replace Hc11 := Hc11.keep kr
  replace Hd12 := Hd12.keep kr
  replace Hc12 := Hc12.keep kr
  replace Hc16 := Hc16.keep kr
  replace Hc17 := Hc17.keep kr
  replace Hc18 := Hc18.keep kr
  replace Hc22 := Hc22.keep kr
  replace Hc23 := Hc23.keep kr
  replace Hc24 := Hc24.keep kr
  replace bA := bA2
  rw [← hz] at hR
  clear kr bA2 hM2 hz
  go_wp2_with fail
  go_ret
  refine ⟨_, rfl, ⟨_, _, hM, fun f h1 h2 => ?_, fun f hf => ?_⟩, bA⟩
  · have : f = 1 ∨ f = 2 ∨ f = 3 ∨ f = 4 ∨ f = 5 ∨ f = 6 ∨ f = 7 ∨ f = 8 ∨ f = 9 ∨ f = 10 ∨ f = 11 ∨ f = 12 ∨ f = 13 ∨ f = 14 ∨ f = 15 ∨ f = 16 ∨ f = 17 ∨ f = 18 ∨ f = 19 ∨ f = 20 ∨ f = 21 ∨ f = 22 ∨ f = 23 ∨ f = 24 ∨ f = 25 ∨ f = 26 ∨ f = 27 ∨ f = 28 ∨ f = 29 ∨ f = 30 := by omega
    rcases this with rfl | rfl | rfl | rfl | rfl | rfl | rfl | rfl | rfl | rfl | rfl | rfl | rfl | rfl | rfl | rfl | rfl | rfl | rfl | rfl | rfl | rfl | rfl | rfl | rfl | rfl | rfl | rfl | rfl | rfl
    · exact ⟨_, _, _, rfl, fd1 ▸ (every_is _ _), fc1 ▸ (hvB)⟩
    · exact ⟨_, _, _, rfl, fd2 ▸ (every_is _ _), fc2 ▸ (power_is1 _ _ (-16384) 16384 (by decide) (by decide) (by decide))⟩
    · exact ⟨_, _, _, rfl, fd3 ▸ (every_is _ _), fc3 ▸ (power_is5 _ _ 23 (by decide) (by decide))⟩
    · exact ⟨_, _, _, rfl, fd4 ▸ (every_is _ _), fc4 ▸ (hvA)⟩
    · exact ⟨_, _, _, rfl, fd5 ▸ (every_is _ _), fc5 ▸ (Hc5)⟩
    · exact ⟨_, _, _, rfl, fd6 ▸ (every_is _ _), fc6 ▸ (Hc6)⟩
    · exact ⟨_, _, _, rfl, fd7 ▸ (Hd7), fc7 ▸ (hvC)⟩
    · exact ⟨_, _, _, rfl, fd8 ▸ (Hd8), fc8 ▸ (expo_is1 _ _ (-1074) 1023 (by decide) (by decide))⟩
    · exact ⟨_, _, _, rfl, fd9 ▸ (Hd9), fc9 ▸ (expo_is5 _ _ 22 (by decide))⟩
    · exact ⟨_, _, _, rfl, fd10 ▸ (Hd10), fc10 ▸ (hvA)⟩
    · exact ⟨_, _, _, rfl, fd11 ▸ (Hd11), fc11 ▸ (Hc11)⟩
    · exact ⟨_, _, _, rfl, fd12 ▸ (Hd12), fc12 ▸ (Hc12)⟩
    · exact ⟨_, _, _, rfl, fd13 ▸ (every_is _ _), fc13 ▸ (hvA)⟩
    · exact ⟨_, _, _, rfl, fd14 ▸ (every_is _ _), fc14 ▸ (hvB)⟩
    · exact ⟨_, _, _, rfl, fd15 ▸ (every_is _ _), fc15 ▸ (hvA)⟩
    · exact ⟨_, _, _, rfl, fd16 ▸ (every_is _ _), fc16 ▸ (Hc16)⟩
    · exact ⟨_, _, _, rfl, fd17 ▸ (every_is _ _), fc17 ▸ (Hc17)⟩
    · exact ⟨_, _, _, rfl, fd18 ▸ (hasTan_is _ _), fc18 ▸ (Hc18)⟩
    · exact ⟨_, _, _, rfl, fd19 ▸ (toOne_is _ _), fc19 ▸ (hvA)⟩
    · exact ⟨_, _, _, rfl, fd20 ▸ (toOne_is _ _), fc20 ▸ (hvC)⟩
    · exact ⟨_, _, _, rfl, fd21 ▸ (every_is _ _), fc21 ▸ (hvA)⟩
    · exact ⟨_, _, _, rfl, fd22 ▸ (toOne_is _ _), fc22 ▸ (Hc22)⟩
    · exact ⟨_, _, _, rfl, fd23 ▸ (toOne_is _ _), fc23 ▸ (Hc23)⟩
    · exact ⟨_, _, _, rfl, fd24 ▸ (every_is _ _), fc24 ▸ (Hc24)⟩
    · exact ⟨_, _, _, rfl, fd25 ▸ (every_is _ _), fc25 ▸ (hvA)⟩
    · exact ⟨_, _, _, rfl, fd26 ▸ (every_is _ _), fc26 ▸ (hvB)⟩
    · exact ⟨_, _, _, rfl, fd27 ▸ (every_is _ _), fc27 ▸ (hvA)⟩
    · exact ⟨_, _, _, rfl, fd28 ▸ (every_is _ _), fc28 ▸ (hvA)⟩
    · exact ⟨_, _, _, rfl, fd29 ▸ (fromOne_is _ _), fc29 ▸ (hvC)⟩
    · exact ⟨_, _, _, rfl, fd30 ▸ (belowOne_is _ _), fc30 ▸ (hvA)⟩
  · have h1 : f ≠ 1 := by omega
    have h2 : f ≠ 2 := by omega
    have h3 : f ≠ 3 := by omega
    have h4 : f ≠ 4 := by omega
    have h5 : f ≠ 5 := by omega
    have h6 : f ≠ 6 := by omega
    have h7 : f ≠ 7 := by omega
    have h8 : f ≠ 8 := by omega
    have h9 : f ≠ 9 := by omega
    have h10 : f ≠ 10 := by omega
    have h11 : f ≠ 11 := by omega
    have h12 : f ≠ 12 := by omega
    have h13 : f ≠ 13 := by omega
    have h14 : f ≠ 14 := by omega
    have h15 : f ≠ 15 := by omega
    have h16 : f ≠ 16 := by omega
    have h17 : f ≠ 17 := by omega
    have h18 : f ≠ 18 := by omega
    have h19 : f ≠ 19 := by omega
    have h20 : f ≠ 20 := by omega
    have h21 : f ≠ 21 := by omega
    have h22 : f ≠ 22 := by omega
    have h23 : f ≠ 23 := by omega
    have h24 : f ≠ 24 := by omega
    have h25 : f ≠ 25 := by omega
    have h26 : f ≠ 26 := by omega
    have h27 : f ≠ 27 := by omega
    have h28 : f ≠ 28 := by omega
    have h29 : f ≠ 29 := by omega
    have h30 : f ≠ 30 := by omega
    exact (fn_skip h1).trans ((fn_skip h2).trans ((fn_skip h3).trans ((fn_skip h4).trans ((fn_skip h5).trans ((fn_skip h6).trans ((fn_skip h7).trans ((fn_skip h8).trans ((fn_skip h9).trans ((fn_skip h10).trans ((fn_skip h11).trans ((fn_skip h12).trans ((fn_skip h13).trans ((fn_skip h14).trans ((fn_skip h15).trans ((fn_skip h16).trans ((fn_skip h17).trans ((fn_skip h18).trans ((fn_skip h19).trans ((fn_skip h20).trans ((fn_skip h21).trans ((fn_skip h22).trans ((fn_skip h23).trans ((fn_skip h24).trans ((fn_skip h25).trans ((fn_skip h26).trans ((fn_skip h27).trans ((fn_skip h28).trans ((fn_skip h29).trans ((fn_skip h30).trans (rfl))))))))))))))))))))))))))))))
end Go.Proofs.YtoefhlapfnjbjaaGreatDoor
