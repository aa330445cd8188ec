/- Package exact: the functions by their numbers, as a map. -/
import Derived.Test.YtiijfnaaekmpbaaGreatDoorECD
import Derived.MapKept
import Derived.Carry
namespace Go.Proofs.YtiijfnaaekmpbaaGreatDoor
open Go.RowKit
def insW (w : World) (r : Nat) (es : Array MapEntry) (ck : Nat) (key v : Value) : World := { w with heap := w.heap.setIfInBounds r (.map (es.push { key := key, val := v, born := ck }) (ck + 1)) }
theorem und_map : Tryz.prog.underlying 43 = some (.map 22 42) := by kernel_rfl
theorem und_key : Tryz.prog.underlying 22 = some (.int .u8) := by kernel_rfl
theorem ins_run {w : World} {r : Nat} {es : Array MapEntry} {ck : Nat} (f : Int) (v : Value) (hb : w.heap[r]? = some (.map es ck)) (hf : Instr.findNow (.int .u8) (.int .u8 f) es.toList 0 = some none) :
  Sem.run Tryz.prog (Instr.mapUpdate 43 (.map (some r)) (.int .u8 f) v) w = .ok () (insW w r es ck (.int .u8 f) v) := by
 have hc : (Instr.checkKey false 10000 22 (.int .u8 f)).run Tryz.prog w = .ok () w := MapKept.run_checkKey (k := .int .u8 f) und_key (by simp [MapKept.IsKey]) false 9999
 simp [Instr.mapUpdate, run_underlying und_map, MapKept.run_getObj_map hb, hc, MapKept.run_findKey und_key hf, MapKept.run_setObj_map _ hb, Result.andThen, insW]
theorem ins_map {w : World} {r : Nat} {es : Array MapEntry} {ck : Nat} {key v : Value} (hb : w.heap[r]? = some (.map es ck)) : (insW w r es ck key v).heap[r]? = some (.map (es.push { key := key, val := v, born := ck }) (ck + 1)) := (MapKept.heap_set hb).1
theorem ins_kr {w : World} {r : Nat} {es : Array MapEntry} {ck : Nat} {key v : Value} (hb : w.heap[r]? = some (.map es ck)) : Kr r w (insW w r es ck key v) := by
 intro b o x hne h
 have := (MapKept.heap_set (o' := .map (es.push { key := key, val := v, born := ck }) (ck + 1)) hb).2 b hne
 unfold World.cell? at h ⊢
 unfold insW
 simp only [this]
 exact h
theorem ins_below {w0 w : World} {r : Nat} {es : Array MapEntry} {ck : Nat} {key v : Value} (b : Below w0.heap.size w0 w) (h0 : w0.heap.size ≤ r) (hb : w.heap[r]? = some (.map es ck)) : Below w0.heap.size w0 (insW w r es ck key v) := by
 refine ⟨b.os, b.tape, b.output, Nat.le_trans b.size (by unfold insW; simp), fun k hk => ?_⟩
 have := (MapKept.heap_set (o' := .map (es.push { key := key, val := v, born := ck }) (ck + 1)) hb).2 k (by omega)
 exact this.trans (b.block k hk)
theorem ins_tab {w : World} {r : Nat} {es : Array MapEntry} {ck : Nat} {key v : Value} : (insW w r es ck key v).heap.size = w.heap.size := by unfold insW; simp
def FK (f : Int) (l : List MapEntry) (i : Nat) : Option (Option (Nat × Value)) := Instr.findNow (.int .u8) (.int .u8 f) l i
theorem fk_yes {f : Int} {e : MapEntry} {p : Nat × Value} : ∀ {l : List MapEntry} {i : Nat}, FK f l i = some (some p) → FK f (l ++ [e]) i = some (some p)
 | [], i, h => by simp [FK, Instr.findNow] at h
 | x :: l, i, h => by
  unfold FK at h ⊢
  simp only [List.cons_append, Instr.findNow] at h ⊢
  generalize Instr.sameNow (.int .u8) (.int .u8 f) x.key = s at h ⊢
  match s, h with
  | some true, h => exact h
  | some false, h => exact fk_yes (l := l) h
  | none, h => exact absurd h (by simp)
theorem fk_no {f : Int} {e : MapEntry} : ∀ {l : List MapEntry} {i : Nat}, FK f l i = some none → ∃ j, FK f (l ++ [e]) i = FK f [e] j
 | [], i, _ => ⟨i, rfl⟩
 | x :: l, i, h => by
  unfold FK at h ⊢
  simp only [List.cons_append, Instr.findNow] at h ⊢
  generalize Instr.sameNow (.int .u8) (.int .u8 f) x.key = s at h ⊢
  match s, h with
  | some true, h => exact absurd h (by simp)
  | some false, h => exact fk_no (l := l) h
  | none, h => exact absurd h (by simp)
def FnAt (R : Nat) (w : World) : Prop := ∃ es ck, w.heap[R]? = some (.map es ck) ∧ (∀ f : Int, 1 ≤ f → f ≤ 30 → ∃ i d c, Instr.findNow (.int .u8) (.int .u8 f) es.toList 0 = some (some (i, .agg #[d, c])) ∧ IsD R w d (fDom f) ∧ IsC R w c (fCas f)) ∧
 (∀ f : Int, ¬ (1 ≤ f ∧ f ≤ 30) → Instr.findNow (.int .u8) (.int .u8 f) es.toList 0 = some none)
structure FT (n : Int) (w0 : World) (R : Nat) (x y z : Value) (w : World) : Prop where
 m : ∃ es ck, w.heap[R]? = some (.map es ck) ∧ (∀ f : Int, 1 ≤ f → f ≤ n → ∃ i d c, FK f es.toList 0 = some (some (i, .agg #[d, c])) ∧ IsD R w d (fDom f) ∧ IsC R w c (fCas f)) ∧ (∀ f : Int, ¬ (1 ≤ f ∧ f ≤ n) → FK f es.toList 0 = some none)
 b : Below w0.heap.size w0 w
 r : R < w.heap.size
 A : IsC R w x (cAt [(0, 0)])
 B : IsC R w y (cAt [(0, 4)])
 C : IsC R w z (cAt [(1, 0)])
theorem FT.keep {n : Int} {w0 : World} {R : Nat} {a b c : Value} {w W : World} (h : FT n w0 R a b c w) (k : Below w.heap.size w W) : FT n w0 R a b c W := by
 obtain ⟨⟨es, ck, hm, hy, hn⟩, hb, hr, hA, hB, hC⟩ := h
 refine ⟨⟨es, ck, (k.block _ hr).trans hm, fun f h1 h2 => ?_, hn⟩, nT hb k, Nat.lt_of_lt_of_le hr k.size, hA.keep (Kr.of k), hB.keep (Kr.of k), hC.keep (Kr.of k)⟩
 obtain ⟨i, d, c, h3, h4, h5⟩ := hy f h1 h2
 exact ⟨i, d, c, h3, h4.keep (Kr.of k), h5.keep (Kr.of k)⟩
theorem FT.put {n : Int} {w0 : World} {R : Nat} {a b c : Value} {w : World} (h : FT n w0 R a b c w) (f : Int) (hf : f = n + 1) (h0 : 0 ≤ n) (l0 : w0.heap.size ≤ R) {d e : Value} {D : E3 → Bool} {E : C3} (hD : IsD R w d D) (eD : D = fDom f) (hE : IsC R w e E) (eE : E = fCas f) :
  ∃ u, Sem.run Tryz.prog (Instr.mapUpdate 43 (.map (some R)) (.int .u8 f) (.agg #[d, e])) w = .ok () u ∧ FT f w0 R a b c u := by
 obtain ⟨⟨es, ck, hm, hy, hn⟩, hb, hr, hA, hB, hC⟩ := h
 subst eD eE hf
 have kr := ins_kr (key := .int .u8 (n + 1)) (v := .agg #[d, e]) hm
 have no : ∀ g : Int, ¬ (1 ≤ g ∧ g ≤ n) → ∃ j, FK g (es.push { key := .int .u8 (n + 1), val := .agg #[d, e], born := ck }).toList 0 = FK g [{ key := .int .u8 (n + 1), val := .agg #[d, e], born := ck }] j := fun g hg => by
  rw [Array.toList_push]
  exact fk_no (hn g hg)
 refine ⟨_, ins_run (n + 1) (.agg #[d, e]) hm (hn (n + 1) (by omega)), ⟨_, _, ins_map hm, fun g h1 h2 => ?_, fun g hg => ?_⟩, ins_below hb l0 hm, by rw [ins_tab]; exact hr, hA.keep kr, hB.keep kr, hC.keep kr⟩
 ·by_cases hg : g = n + 1
  ·subst hg
   obtain ⟨j, hj⟩ := no (n + 1) (by omega)
   exact ⟨j, d, e, hj.trans (by simp [FK, Instr.findNow, Instr.sameNow]), hD.keep kr, hE.keep kr⟩
  ·obtain ⟨i, d1, c1, h3, h4, h5⟩ := hy g h1 (by omega)
   exact ⟨i, d1, c1, by rw [Array.toList_push]; exact fk_yes h3, h4.keep kr, h5.keep kr⟩
 ·obtain ⟨j, hj⟩ := no g (by omega)
  have hne : (g == n + 1) = false := by simp; omega
  exact hj.trans (by simp only [FK, Instr.findNow, Instr.sameNow, if_true, hne])
set_option maxRecDepth 100000 in
set_option maxHeartbeats 8000000 in
theorem functions_calls (w : World) :
  Calls Tryz.prog 18 #[] w fun q w' => ∃ R, q = .returned (.map (some R)) ∧ FnAt R w' ∧ Below w.heap.size w w' := by
 have hmf : ∀ (fn : Fn) (first cap : Array Value) (w : World), (Instr.makeFunc fn first cap).run Tryz.prog w = .ok (.func fn first cap) w := fun _ _ _ _ => rfl
 have hmm := @run_makeMap Tryz.prog
 have bA : Below w.heap.size w w := Below.refl _ _
 go_enter Tryz.func18, Tryz.ntmps18
 go_wp2_with fail
 have bD := below_one w (.cells #[.int .i64 0, .int .i64 0] 66)
 have k0 : (w.alloc (.cells #[.int .i64 0, .int .i64 0] 66)).cell? ⟨w.heap.size, 0, none⟩ = some (.int .i64 0) := by go_simp
 have k1 : (w.alloc (.cells #[.int .i64 0, .int .i64 0] 66)).cell? ⟨w.heap.size, 1, none⟩ = some (.int .i64 0) := by go_simp
 have ls : w.heap.size < (w.alloc (.cells #[.int .i64 0, .int .i64 0] 66)).heap.size := by simp
 replace bA := nT bA bD
 clear bD
 generalize w.alloc (.cells #[.int .i64 0, .int .i64 0] 66) = x0 at *
 refine cM (at_made1 w.heap.size 0 0 x0 ⟨by decide, by decide⟩ ⟨by decide, by decide⟩ ⟨k0, k1, trivial⟩) ?_
 rintro e y0 ⟨FvA, svA, tvA, rfl, hvA0, b1⟩
 have hvA := fun r (hr : y0.heap.size ≤ r) => hvA0 r (.inr hr) (Nat.ne_of_gt (Nat.lt_of_lt_of_le ls (Nat.le_trans b1.size hr)))
 replace bA := nT bA b1
 clear k0 k1 ls b1 hvA0
 go_wp2_with fail
 have bD := below_one y0 (.cells #[.int .i64 0, .int .i64 4] 66)
 have k0 : (y0.alloc (.cells #[.int .i64 0, .int .i64 4] 66)).cell? ⟨y0.heap.size, 0, none⟩ = some (.int .i64 0) := by go_simp
 have k1 : (y0.alloc (.cells #[.int .i64 0, .int .i64 4] 66)).cell? ⟨y0.heap.size, 1, none⟩ = some (.int .i64 4) := by go_simp
 have ls : y0.heap.size < (y0.alloc (.cells #[.int .i64 0, .int .i64 4] 66)).heap.size := by simp
 replace hvA := fun r hr => (hvA r (Nat.le_trans bD.size hr)).keep (Kr.of (r := r) bD)
 replace bA := nT bA bD
 clear bD
 generalize y0.alloc (.cells #[.int .i64 0, .int .i64 4] 66) = x1 at *
 generalize y0.heap.size = g1 at k0 k1 ls ⊢
 refine cM (at_made1 g1 0 4 x1 ⟨by decide, by decide⟩ ⟨by decide, by decide⟩ ⟨k0, k1, trivial⟩) ?_
 rintro e y1 ⟨FvB, svB, tvB, rfl, hvB0, b1⟩
 replace hvA := fun r hr => (hvA r (Nat.le_trans b1.size hr)).keep (Kr.of (r := r) b1)
 have hvB := fun r (hr : y1.heap.size ≤ r) => hvB0 r (.inr hr) (Nat.ne_of_gt (Nat.lt_of_lt_of_le ls (Nat.le_trans b1.size hr)))
 replace bA := nT bA b1
 clear k0 k1 ls b1 hvB0
 go_wp2_with fail
 have bD := below_one y1 (.cells #[.int .i64 1, .int .i64 0] 66)
 have k0 : (y1.alloc (.cells #[.int .i64 1, .int .i64 0] 66)).cell? ⟨y1.heap.size, 0, none⟩ = some (.int .i64 1) := by go_simp
 have k1 : (y1.alloc (.cells #[.int .i64 1, .int .i64 0] 66)).cell? ⟨y1.heap.size, 1, none⟩ = some (.int .i64 0) := by go_simp
 have ls : y1.heap.size < (y1.alloc (.cells #[.int .i64 1, .int .i64 0] 66)).heap.size := by simp
 replace hvA := fun r hr => (hvA r (Nat.le_trans bD.size hr)).keep (Kr.of (r := r) bD)
 replace hvB := fun r hr => (hvB r (Nat.le_trans bD.size hr)).keep (Kr.of (r := r) bD)
 replace bA := nT bA bD
 clear bD
 generalize y1.alloc (.cells #[.int .i64 1, .int .i64 0] 66) = x2 at *
 generalize y1.heap.size = g2 at k0 k1 ls ⊢
 refine cM (at_made1 g2 1 0 x2 ⟨by decide, by decide⟩ ⟨by decide, by decide⟩ ⟨k0, k1, trivial⟩) ?_
 rintro e y2 ⟨FvC, svC, tvC, rfl, hvC0, b1⟩
 replace hvA := fun r hr => (hvA r (Nat.le_trans b1.size hr)).keep (Kr.of (r := r) b1)
 replace hvB := fun r hr => (hvB r (Nat.le_trans b1.size hr)).keep (Kr.of (r := r) b1)
 have hvC := fun r (hr : y2.heap.size ≤ r) => hvC0 r (.inr hr) (Nat.ne_of_gt (Nat.lt_of_lt_of_le ls (Nat.le_trans b1.size hr)))
 replace bA := nT bA b1
 clear k0 k1 ls b1 hvC0
 have lR : w.heap.size ≤ y2.heap.size := bA.size
 have bD := below_one y2 (.map #[] 0)
 have F : FT 0 w y2.heap.size (.func (.func FvA) svA tvA) (.func (.func FvB) svB tvB) (.func (.func FvC) svC tvC) (y2.alloc (.map #[] 0)) := ⟨⟨_, _, (MapKept.heap_alloc y2 _).1, fun f h1 h2 => absurd (Int.le_trans h1 h2) (by decide), fun _ _ => rfl⟩, nT bA bD, by simp, (hvA _ (Nat.le_refl _)).keep (Kr.of bD), (hvB _ (Nat.le_refl _)).keep (Kr.of bD), (hvC _ (Nat.le_refl _)).keep (Kr.of bD)⟩
 clear hvA hvB hvC bA bD
 obtain ⟨u1, hI1, F⟩ := F.put 1 rfl (by decide) lR (every_is _ _) (by simp [fDom]) (F.B) (by simp [fCas])
 obtain ⟨u2, hI2, F⟩ := F.put 2 rfl (by decide) lR (every_is _ _) (by simp [fDom]) (power_is1 _ _ (-16384) 16384 (by decide) (by decide) (by decide)) (by simp [fCas])
 obtain ⟨u3, hI3, F⟩ := F.put 3 rfl (by decide) lR (every_is _ _) (by simp [fDom]) (power_is5 _ _ 23 (by decide) (by decide)) (by simp [fCas])
 obtain ⟨u4, hI4, F⟩ := F.put 4 rfl (by decide) lR (every_is _ _) (by simp [fDom]) (F.A) (by simp [fCas])
 go_wp2_with fail
 refine cM (less_made 35 #[.agg #[.int .u64 1, .int .i64 (-54), .int .i64 54]] #[] u4) ?_
 rintro e u5 ⟨Fc5, sc5, tc5, rfl, Hc5, b1⟩
 replace Hc5 := Hc5 y2.heap.size _ (Nat.ne_of_lt F.r) (power_is1 _ _ (-54) 54 (by decide) (by decide) (by decide)) (fun p _ => pow_ok1 (-54) 54 (by decide) (by decide) p)
 replace F := F.keep b1
 clear b1
 obtain ⟨u6, hI5, F⟩ := F.put 5 rfl (by decide) lR (every_is _ _) (by simp [fDom]) (Hc5) (by simp [fCas])
 go_wp2_with fail
 refine cM (less_made 35 #[.agg #[.int .u64 5, .int .i64 0, .int .i64 16]] #[] u6) ?_
 rintro e u7 ⟨Fc6, sc6, tc6, rfl, Hc6, b1⟩
 replace Hc6 := Hc6 y2.heap.size _ (Nat.ne_of_lt F.r) (power_is5 _ _ 16 (by decide) (by decide)) (fun p _ => pow_ok5 16 (by decide) p)
 replace F := F.keep b1
 clear b1
 obtain ⟨u8, hI6, F⟩ := F.put 6 rfl (by decide) lR (every_is _ _) (by simp [fDom]) (Hc6) (by simp [fCas])
 go_wp2_with fail
 refine cM (above_made2 0 u8 ⟨by decide, by decide⟩) ?_
 rintro e u9 ⟨Fd7, sd7, td7, rfl, Hd7, b1⟩
 replace Hd7 := Hd7 y2.heap.size (Nat.ne_of_lt F.r)
 replace F := F.keep b1
 clear b1
 obtain ⟨u10, hI7, F⟩ := F.put 7 rfl (by decide) lR (Hd7) (by simp [fDom]) (F.C) (by simp [fCas])
 go_wp2_with fail
 refine cM (above_made2 0 u10 ⟨by decide, by decide⟩) ?_
 rintro e u11 ⟨Fd8, sd8, td8, rfl, Hd8, b1⟩
 replace Hd8 := Hd8 y2.heap.size (Nat.ne_of_lt F.r)
 replace F := F.keep b1
 clear b1
 obtain ⟨u12, hI8, F⟩ := F.put 8 rfl (by decide) lR (Hd8) (by simp [fDom]) (expo_is1 _ _ (-1074) 1023 (by decide) (by decide)) (by simp [fCas])
 go_wp2_with fail
 refine cM (above_made2 0 u12 ⟨by decide, by decide⟩) ?_
 rintro e u13 ⟨Fd9, sd9, td9, rfl, Hd9, b1⟩
 replace Hd9 := Hd9 y2.heap.size (Nat.ne_of_lt F.r)
 replace F := F.keep b1
 clear b1
 obtain ⟨u14, hI9, F⟩ := F.put 9 rfl (by decide) lR (Hd9) (by simp [fDom]) (expo_is5 _ _ 22 (by decide)) (by simp [fCas])
 go_wp2_with fail
 refine cM (above_made2 (-1) u14 ⟨by decide, by decide⟩) ?_
 rintro e u15 ⟨Fd10, sd10, td10, rfl, Hd10, b1⟩
 replace Hd10 := Hd10 y2.heap.size (Nat.ne_of_lt F.r)
 replace F := F.keep b1
 clear b1
 obtain ⟨u16, hI10, F⟩ := F.put 10 rfl (by decide) lR (Hd10) (by simp [fDom]) (F.A) (by simp [fCas])
 go_wp2_with fail
 refine cM (above_made2 (-1) u16 ⟨by decide, by decide⟩) ?_
 rintro e u17 ⟨Fd11, sd11, td11, rfl, Hd11, b1⟩
 replace Hd11 := Hd11 y2.heap.size (Nat.ne_of_lt F.r)
 replace F := F.keep b1
 clear b1
 go_wp2_with fail
 refine cM (more_made 38 #[.agg #[.int .u64 1, .int .i64 (-1074), .int .i64 1023]] #[] u17) ?_
 rintro e u18 ⟨Fc11, sc11, tc11, rfl, Hc11, b1⟩
 replace Hc11 := Hc11 y2.heap.size _ (Nat.ne_of_lt F.r) (expo_is1 _ _ (-1074) 1023 (by decide) (by decide))
 replace Hd11 := Hd11.keep (Kr.of b1)
 replace F := F.keep b1
 clear b1
 obtain ⟨u19, hI11, F⟩ := F.put 11 rfl (by decide) lR (Hd11) (by simp [fDom]) (Hc11) (by simp [fCas])
 go_wp2_with fail
 refine cM (above_made2 (-1) u19 ⟨by decide, by decide⟩) ?_
 rintro e u20 ⟨Fd12, sd12, td12, rfl, Hd12, b1⟩
 replace Hd12 := Hd12 y2.heap.size (Nat.ne_of_lt F.r)
 replace F := F.keep b1
 clear b1
 go_wp2_with fail
 refine cM (more_made 38 #[.agg #[.int .u64 5, .int .i64 0, .int .i64 16]] #[] u20) ?_
 rintro e u21 ⟨Fc12, sc12, tc12, rfl, Hc12, b1⟩
 replace Hc12 := Hc12 y2.heap.size _ (Nat.ne_of_lt F.r) (expo_is5 _ _ 16 (by decide))
 replace Hd12 := Hd12.keep (Kr.of b1)
 replace F := F.keep b1
 clear b1
 obtain ⟨u22, hI12, F⟩ := F.put 12 rfl (by decide) lR (Hd12) (by simp [fDom]) (Hc12) (by simp [fCas])
 obtain ⟨u23, hI13, F⟩ := F.put 13 rfl (by decide) lR (every_is _ _) (by simp [fDom]) (F.A) (by simp [fCas])
 obtain ⟨u24, hI14, F⟩ := F.put 14 rfl (by decide) lR (every_is _ _) (by simp [fDom]) (F.B) (by simp [fCas])
 obtain ⟨u25, hI15, F⟩ := F.put 15 rfl (by decide) lR (every_is _ _) (by simp [fDom]) (F.A) (by simp [fCas])
 go_wp2_with fail
 refine cM (sine_made u25) ?_
 rintro e u26 ⟨Fc16, sc16, tc16, rfl, Hc16, b1⟩
 replace Hc16 := Hc16 y2.heap.size (Nat.ne_of_lt F.r)
 replace F := F.keep b1
 clear b1
 obtain ⟨u27, hI16, F⟩ := F.put 16 rfl (by decide) lR (every_is _ _) (by simp [fDom]) (Hc16) (by simp [fCas])
 go_wp2_with fail
 refine cM (cosine_made u27) ?_
 rintro e u28 ⟨Fc17, sc17, tc17, rfl, Hc17, b1⟩
 replace Hc17 := Hc17 y2.heap.size (Nat.ne_of_lt F.r)
 replace F := F.keep b1
 clear b1
 obtain ⟨u29, hI17, F⟩ := F.put 17 rfl (by decide) lR (every_is _ _) (by simp [fDom]) (Hc17) (by simp [fCas])
 go_wp2_with fail
 refine cM (tangent_made u29) ?_
 rintro e u30 ⟨Fc18, sc18, tc18, rfl, Hc18, b1⟩
 replace Hc18 := Hc18 y2.heap.size (Nat.ne_of_lt F.r)
 replace F := F.keep b1
 clear b1
 obtain ⟨u31, hI18, F⟩ := F.put 18 rfl (by decide) lR (hasTan_is _ _) (by simp [fDom]) (Hc18) (by simp [fCas])
 obtain ⟨u32, hI19, F⟩ := F.put 19 rfl (by decide) lR (toOne_is _ _) (by simp [fDom]) (F.A) (by simp [fCas])
 obtain ⟨u33, hI20, F⟩ := F.put 20 rfl (by decide) lR (toOne_is _ _) (by simp [fDom]) (F.C) (by simp [fCas])
 obtain ⟨u34, hI21, F⟩ := F.put 21 rfl (by decide) lR (every_is _ _) (by simp [fDom]) (F.A) (by simp [fCas])
 go_wp2_with fail
 have bD := below_one u34 (.cells #[.int .i64 (-1), .int .i64 (-2), .int .i64 0, .int .i64 0, .int .i64 1, .int .i64 2] 66)
 have k0 : (u34.alloc (.cells #[.int .i64 (-1), .int .i64 (-2), .int .i64 0, .int .i64 0, .int .i64 1, .int .i64 2] 66)).cell? ⟨u34.heap.size, 0, none⟩ = some (.int .i64 (-1)) := by go_simp
 have k1 : (u34.alloc (.cells #[.int .i64 (-1), .int .i64 (-2), .int .i64 0, .int .i64 0, .int .i64 1, .int .i64 2] 66)).cell? ⟨u34.heap.size, 1, none⟩ = some (.int .i64 (-2)) := by go_simp
 have k2 : (u34.alloc (.cells #[.int .i64 (-1), .int .i64 (-2), .int .i64 0, .int .i64 0, .int .i64 1, .int .i64 2] 66)).cell? ⟨u34.heap.size, 2, none⟩ = some (.int .i64 0) := by go_simp
 have k3 : (u34.alloc (.cells #[.int .i64 (-1), .int .i64 (-2), .int .i64 0, .int .i64 0, .int .i64 1, .int .i64 2] 66)).cell? ⟨u34.heap.size, 3, none⟩ = some (.int .i64 0) := by go_simp
 have k4 : (u34.alloc (.cells #[.int .i64 (-1), .int .i64 (-2), .int .i64 0, .int .i64 0, .int .i64 1, .int .i64 2] 66)).cell? ⟨u34.heap.size, 4, none⟩ = some (.int .i64 1) := by go_simp
 have k5 : (u34.alloc (.cells #[.int .i64 (-1), .int .i64 (-2), .int .i64 0, .int .i64 0, .int .i64 1, .int .i64 2] 66)).cell? ⟨u34.heap.size, 5, none⟩ = some (.int .i64 2) := by go_simp
 have ng : y2.heap.size ≠ u34.heap.size := Nat.ne_of_lt F.r
 replace F := F.keep bD
 clear bD
 generalize u34.alloc (.cells #[.int .i64 (-1), .int .i64 (-2), .int .i64 0, .int .i64 0, .int .i64 1, .int .i64 2] 66) = u35 at *
 generalize u34.heap.size = g22 at k0 k1 k2 k3 k4 k5 ng ⊢
 refine cM (at_made3 g22 (-1) (-2) 0 0 1 2 u35 ⟨by decide, by decide⟩ ⟨by decide, by decide⟩ ⟨by decide, by decide⟩ ⟨by decide, by decide⟩ ⟨by decide, by decide⟩ ⟨by decide, by decide⟩ ⟨k0, k1, k2, k3, k4, k5, trivial⟩) ?_
 rintro e u36 ⟨Fc22, sc22, tc22, rfl, Hc22, b1⟩
 replace Hc22 := Hc22 y2.heap.size (.inl F.r) ng
 replace F := F.keep b1
 clear b1 ng k0 k1 k2 k3 k4 k5
 obtain ⟨u37, hI22, F⟩ := F.put 22 rfl (by decide) lR (toOne_is _ _) (by simp [fDom]) (Hc22) (by simp [fCas])
 go_wp2_with fail
 have bD := below_one u37 (.cells #[.int .i64 (-1), .int .i64 4, .int .i64 0, .int .i64 2, .int .i64 1, .int .i64 0] 66)
 have k0 : (u37.alloc (.cells #[.int .i64 (-1), .int .i64 4, .int .i64 0, .int .i64 2, .int .i64 1, .int .i64 0] 66)).cell? ⟨u37.heap.size, 0, none⟩ = some (.int .i64 (-1)) := by go_simp
 have k1 : (u37.alloc (.cells #[.int .i64 (-1), .int .i64 4, .int .i64 0, .int .i64 2, .int .i64 1, .int .i64 0] 66)).cell? ⟨u37.heap.size, 1, none⟩ = some (.int .i64 4) := by go_simp
 have k2 : (u37.alloc (.cells #[.int .i64 (-1), .int .i64 4, .int .i64 0, .int .i64 2, .int .i64 1, .int .i64 0] 66)).cell? ⟨u37.heap.size, 2, none⟩ = some (.int .i64 0) := by go_simp
 have k3 : (u37.alloc (.cells #[.int .i64 (-1), .int .i64 4, .int .i64 0, .int .i64 2, .int .i64 1, .int .i64 0] 66)).cell? ⟨u37.heap.size, 3, none⟩ = some (.int .i64 2) := by go_simp
 have k4 : (u37.alloc (.cells #[.int .i64 (-1), .int .i64 4, .int .i64 0, .int .i64 2, .int .i64 1, .int .i64 0] 66)).cell? ⟨u37.heap.size, 4, none⟩ = some (.int .i64 1) := by go_simp
 have k5 : (u37.alloc (.cells #[.int .i64 (-1), .int .i64 4, .int .i64 0, .int .i64 2, .int .i64 1, .int .i64 0] 66)).cell? ⟨u37.heap.size, 5, none⟩ = some (.int .i64 0) := by go_simp
 have ng : y2.heap.size ≠ u37.heap.size := Nat.ne_of_lt F.r
 replace F := F.keep bD
 clear bD
 generalize u37.alloc (.cells #[.int .i64 (-1), .int .i64 4, .int .i64 0, .int .i64 2, .int .i64 1, .int .i64 0] 66) = u38 at *
 generalize u37.heap.size = g23 at k0 k1 k2 k3 k4 k5 ng ⊢
 refine cM (at_made3 g23 (-1) 4 0 2 1 0 u38 ⟨by decide, by decide⟩ ⟨by decide, by decide⟩ ⟨by decide, by decide⟩ ⟨by decide, by decide⟩ ⟨by decide, by decide⟩ ⟨by decide, by decide⟩ ⟨k0, k1, k2, k3, k4, k5, trivial⟩) ?_
 rintro e u39 ⟨Fc23, sc23, tc23, rfl, Hc23, b1⟩
 replace Hc23 := Hc23 y2.heap.size (.inl F.r) ng
 replace F := F.keep b1
 clear b1 ng k0 k1 k2 k3 k4 k5
 obtain ⟨u40, hI23, F⟩ := F.put 23 rfl (by decide) lR (toOne_is _ _) (by simp [fDom]) (Hc23) (by simp [fCas])
 go_wp2_with fail
 have bD := below_one u40 (.cells #[.int .i64 (-1), .int .i64 (-1), .int .i64 0, .int .i64 0, .int .i64 1, .int .i64 1] 66)
 have k0 : (u40.alloc (.cells #[.int .i64 (-1), .int .i64 (-1), .int .i64 0, .int .i64 0, .int .i64 1, .int .i64 1] 66)).cell? ⟨u40.heap.size, 0, none⟩ = some (.int .i64 (-1)) := by go_simp
 have k1 : (u40.alloc (.cells #[.int .i64 (-1), .int .i64 (-1), .int .i64 0, .int .i64 0, .int .i64 1, .int .i64 1] 66)).cell? ⟨u40.heap.size, 1, none⟩ = some (.int .i64 (-1)) := by go_simp
 have k2 : (u40.alloc (.cells #[.int .i64 (-1), .int .i64 (-1), .int .i64 0, .int .i64 0, .int .i64 1, .int .i64 1] 66)).cell? ⟨u40.heap.size, 2, none⟩ = some (.int .i64 0) := by go_simp
 have k3 : (u40.alloc (.cells #[.int .i64 (-1), .int .i64 (-1), .int .i64 0, .int .i64 0, .int .i64 1, .int .i64 1] 66)).cell? ⟨u40.heap.size, 3, none⟩ = some (.int .i64 0) := by go_simp
 have k4 : (u40.alloc (.cells #[.int .i64 (-1), .int .i64 (-1), .int .i64 0, .int .i64 0, .int .i64 1, .int .i64 1] 66)).cell? ⟨u40.heap.size, 4, none⟩ = some (.int .i64 1) := by go_simp
 have k5 : (u40.alloc (.cells #[.int .i64 (-1), .int .i64 (-1), .int .i64 0, .int .i64 0, .int .i64 1, .int .i64 1] 66)).cell? ⟨u40.heap.size, 5, none⟩ = some (.int .i64 1) := by go_simp
 have ng : y2.heap.size ≠ u40.heap.size := Nat.ne_of_lt F.r
 replace F := F.keep bD
 clear bD
 generalize u40.alloc (.cells #[.int .i64 (-1), .int .i64 (-1), .int .i64 0, .int .i64 0, .int .i64 1, .int .i64 1] 66) = u41 at *
 generalize u40.heap.size = g24 at k0 k1 k2 k3 k4 k5 ng ⊢
 refine cM (at_made3 g24 (-1) (-1) 0 0 1 1 u41 ⟨by decide, by decide⟩ ⟨by decide, by decide⟩ ⟨by decide, by decide⟩ ⟨by decide, by decide⟩ ⟨by decide, by decide⟩ ⟨by decide, by decide⟩ ⟨k0, k1, k2, k3, k4, k5, trivial⟩) ?_
 rintro e u42 ⟨Fc24, sc24, tc24, rfl, Hc24, b1⟩
 replace Hc24 := Hc24 y2.heap.size (.inl F.r) ng
 replace F := F.keep b1
 clear b1 ng k0 k1 k2 k3 k4 k5
 obtain ⟨u43, hI24, F⟩ := F.put 24 rfl (by decide) lR (every_is _ _) (by simp [fDom]) (Hc24) (by simp [fCas])
 obtain ⟨u44, hI25, F⟩ := F.put 25 rfl (by decide) lR (every_is _ _) (by simp [fDom]) (F.A) (by simp [fCas])
 obtain ⟨u45, hI26, F⟩ := F.put 26 rfl (by decide) lR (every_is _ _) (by simp [fDom]) (F.B) (by simp [fCas])
 obtain ⟨u46, hI27, F⟩ := F.put 27 rfl (by decide) lR (every_is _ _) (by simp [fDom]) (F.A) (by simp [fCas])
 obtain ⟨u47, hI28, F⟩ := F.put 28 rfl (by decide) lR (every_is _ _) (by simp [fDom]) (F.A) (by simp [fCas])
 obtain ⟨u48, hI29, F⟩ := F.put 29 rfl (by decide) lR (fromOne_is _ _) (by simp [fDom]) (F.C) (by simp [fCas])
 obtain ⟨u49, hI30, F⟩ := F.put 30 rfl (by decide) lR (belowOne_is _ _) (by simp [fDom]) (F.A) (by simp [fCas])
 go_wp2_with fail
 go_ret
 refine ⟨_, rfl, F.m, F.b⟩
end Go.Proofs.YtiijfnaaekmpbaaGreatDoor
