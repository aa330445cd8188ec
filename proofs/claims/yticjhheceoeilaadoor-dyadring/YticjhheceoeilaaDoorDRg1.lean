/- The statements' calc: what put, add, sub, mul answer, and what the calc then holds. -/
import Derived.Test.YticjhheceoeilaaDoorDRg0
import Derived.Test.YticjhheceoeilaaDoorDBeg
namespace Go.Proofs.YticjhheceoeilaaDoor
open Go.RowKit

/-- Of what was there nothing has turned but block c. -/
def Rn (c : Nat) (w w' : World) : Prop := w'.os = w.os ∧ w'.tape = w.tape ∧ w'.output = w.output ∧ w.heap.size ≤ w'.heap.size ∧ ∀ k, k < w.heap.size → k ≠ c → w'.heap[k]? = w.heap[k]?
theorem Rn.refl (c : Nat) (w : World) : Rn c w w := ⟨rfl, rfl, rfl, Nat.le_refl _, fun _ _ _ => rfl⟩
theorem Rn.of_below {c : Nat} {w w' : World} (h : Below w.heap.size w w') : Rn c w w' := ⟨h.os, h.tape, h.output, h.size, fun k hk _ => h.block k hk⟩
theorem Rn.trans {c : Nat} {x y z : World} (h : Rn c x y) (k : Rn c y z) : Rn c x z :=
  ⟨k.1.trans h.1, k.2.1.trans h.2.1, k.2.2.1.trans h.2.2.1, Nat.le_trans h.2.2.2.1 k.2.2.2.1, fun i hi hc => (k.2.2.2.2 i (Nat.lt_of_lt_of_le hi h.2.2.2.1) hc).trans (h.2.2.2.2 i hi hc)⟩
theorem Rn.drew {c : Nat} {x w : World} (h : Rn c x w) : Rn c x w.drew := h
theorem Rn.alloc {c : Nat} {x w : World} (h : Rn c x w) (o : Obj) : Rn c x (w.alloc o) := h.trans (Rn.of_below ((Below.refl _ _).alloc (Nat.le_refl _) o))
theorem Rn.set {c : Nat} {x w : World} (h : Rn c x w) {p : Addr} (hp : x.heap.size ≤ p.block ∨ p.block = c) (u : Value) : Rn c x (w.setCell p u) := by
  refine ⟨h.1, h.2.1, h.2.2.1, ?_, fun k hk hc => ?_⟩
  · have := h.2.2.2.1
    simpa [World.setCell] using this
  · rw [Below.heap_setCell _ _ _ _ (by rcases hp with q | q <;> omega)]
    exact h.2.2.2.2 k hk hc
theorem Rn.below {c B : Nat} {w w' : World} (h : Rn c w w') (hB : B ≤ c) (hs : B ≤ w.heap.size) : Below B w w' := ⟨h.1, h.2.1, h.2.2.1, h.2.2.2.1, fun k hk => h.2.2.2.2 k (by omega) (by omega)⟩
theorem Rn.cell {c : Nat} {w w' : World} (h : Rn c w w') {p : Addr} {v : Value} (hp : w.cell? p = some v) (hc : p.block ≠ c) : w'.cell? p = some v :=
  (World.cell?_of_block (w := w) (h.2.2.2.2 p.block (World.block_lt_of_cell? _ _ hp) hc)).trans hp
/-- A list of words does not lie in block c. -/
def NoC (c : Nat) (a : Option Addr) (n : Nat) : Prop := ∀ b off, a = some ⟨b, off, none⟩ → 0 < n → b ≠ c
theorem IsW.keepR {c : Nat} {w w' : World} {a : Option Addr} {n cap : Nat} {xs : List Int} (h : IsW w a n cap xs) (hc : NoC c a n) (r : Rn c w w') : IsW w' a n cap xs := by
  obtain ⟨h1, h2, h4, h3⟩ := h
  refine ⟨h1, h2, h4, fun i hi => ?_⟩
  obtain ⟨b, off, e1, e2, e3⟩ := h3 i hi
  exact ⟨b, off, e1, Nat.lt_of_lt_of_le e2 r.2.2.2.1, r.cell e3 (hc b off e1 (by omega))⟩
theorem IsW.noC {c : Nat} {w : World} {a : Option Addr} {n cap : Nat} {xs : List Int} (h : IsW w a n cap xs) (hc : w.heap.size ≤ c) : NoC c a n := fun b off e hn => by
  obtain ⟨b', off', e1, e2, -⟩ := h.2.2.2 0 hn
  rw [e] at e1
  simp only [Option.some.injEq, Addr.mk.injEq, and_true] at e1
  omega
theorem OwnW.noC {B c : Nat} {w : World} {a : Option Addr} {n cap : Nat} {xs : List Int} (h : OwnW B w a n cap xs) (hc : c < B) : NoC c a n := fun b off e hn => by
  have := (h.2 b off 0 e hn).1
  omega
/-- A number as the calc hands it out. -/
def DyC (c : Nat) (w : World) (v : Value) (p : Tri) : Prop := ∃ (ao : Option Addr) (n cc : Nat), v = dyV p.1 ao n cc p.2.2 ∧ n ≤ 1024 ∧ IsW w ao n cc (wordsOf p.2.1) ∧ NoC c ao n
/-- The calc at block c holds k. -/
def CAt (c : Nat) (w : World) (k : Int) : Prop := w.cell? ⟨c, 0, none⟩ = some (.int .i64 k) ∧ w.frozen? ⟨c, 0, none⟩ = false
theorem CAt.keep {c : Nat} {w w' : World} {k : Int} (h : CAt c w k) (hb : Below w.heap.size w w') : CAt c w' k := ⟨dcarry_cell hb h.1, dcarry_frozen hb h.1 h.2⟩

theorem stk_pos {k : Int} (h : k = 0) (y : Int) : stk k y = y := if_pos h
theorem stk_neg {k : Int} (h : k ≠ 0) (y : Int) : stk k y = k := if_neg h

set_option maxRecDepth 100000 in
set_option maxHeartbeats 1000000 in
theorem cput_calls (c : Nat) (k : Int) (s : Bool) (a : Option Addr) (n cc : Nat) (e y : Int) (w : World) (h : CAt c w k) :
    Calls Tryd.prog 10 #[.pointer (some ⟨c, 0, none⟩), dyV s a n cc e, .int .i64 y] w fun r w' => r = .returned (dyV s a n cc e) ∧ CAt c w' (stk k y) ∧ Rn c w w' := by
  have hlt : c < w.heap.size := World.block_lt_of_cell? _ _ h.1
  obtain ⟨hc, hf⟩ := h
  have hn := World.new_ne w ⟨c, 0, none⟩ hc
  unfold CAt
  by_cases hk : k = 0
  · rw [stk_pos hk]
    subst hk
    go_enter Tryd.func10, Tryd.ntmps10
    go_wp2
    refine bodyPost_ret (v := dyV s a n cc e) (by simp [results, Tryd.results10, go_sem]) rfl ⟨rfl, ⟨?_, ?_⟩, ?_⟩
    · go_simp
    · go_simp
    · repeat (first | exact Rn.refl _ _ | refine Rn.drew ?_ | refine Rn.alloc ?_ _ | refine Rn.set ?_ (by simp) _)
  · rw [stk_neg hk]
    have hk' : (k == 0) = false := by simp [hk]
    go_enter Tryd.func10, Tryd.ntmps10
    go_wp2
    refine bodyPost_ret (v := dyV s a n cc e) (by simp [results, Tryd.results10, go_sem]) rfl ⟨rfl, ⟨?_, ?_⟩, ?_⟩
    · go_simp
    · go_simp
    · repeat (first | exact Rn.refl _ _ | refine Rn.drew ?_ | refine Rn.alloc ?_ _ | refine Rn.set ?_ (by simp) _)
-- OPS
theorem Rn.frozen {c : Nat} {w w' : World} (h : Rn c w w') {p : Addr} {v : Value} (hp : w.cell? p = some v) (hc : p.block ≠ c) (hf : w.frozen? p = false) : w'.frozen? p = false :=
  (World.frozen?_of_block (w := w) (h.2.2.2.2 p.block (World.block_lt_of_cell? _ _ hp) hc)).trans hf
theorem CAt.keepR {c d : Nat} {w w' : World} {k : Int} (h : CAt c w k) (r : Rn d w w') (hd : c ≠ d) : CAt c w' k := ⟨r.cell h.1 hd, r.frozen h.1 hd h.2⟩

set_option maxRecDepth 100000 in
set_option maxHeartbeats 2000000 in
theorem cadd_calls (c : Nat) (k : Int) (s : Bool) (a : Option Addr) (len cap : Nat) (xs : List Int) (e : Int) (t : Bool) (b : Option Addr) (len' cap' : Nat) (ys : List Int) (f : Int) (w : World) (h : IsW w a len cap xs) (hm : len ≤ 17592186044000) (h' : IsW w b len' cap' ys) (hm' : len' ≤ 17592186044000) (hT : Tab w) (hC : CAt c w k) :
    Calls Tryd.prog 7 #[.pointer (some ⟨c, 0, none⟩), dyV s a len cap e, dyV t b len' cap' f] w fun r w' => ∃ v', r = .returned v' ∧ DyC c w' v' (opP sumD (s, val xs, e) (t, val ys, f)) ∧ CAt c w' (stk k (opE sumD (s, val xs, e) (t, val ys, f))) ∧ Rn c w w' := by
  have hlt : c < w.heap.size := World.block_lt_of_cell? _ _ hC.1
  have b0 : Below w.heap.size w (((w.alloc (.cells #[.bool s, .slice a len cap, .int .i64 e] 25)).alloc (.cells #[.bool t, .slice b len' cap', .int .i64 f] 25)).alloc (.cells #[.bool false, .slice none 0 0, .int .i64 0] 25)) := nbelow_trans (nbelow_trans (below_one _ _) (below_one _ _)) (below_one _ _)
  have HA : Hid _ := pAdd_calls s a len cap xs e t b len' cap' ys f _ (h.keep b0) hm (h'.keep b0) hm' (hT.kept b0)
  have HE : Hid (opE sumD (s, val xs, e) (t, val ys, f) = _) := rfl
  have HP : Hid (opP sumD (s, val xs, e) (t, val ys, f) = _) := rfl
  change Hid (Calls _ _ _ _ fun r w' => ∃ v', r = .returned (.tuple #[v', .int .i64 (opE sumD (s, val xs, e) (t, val ys, f))]) ∧ DyAt _ w' v' (opP sumD (s, val xs, e) (t, val ys, f)) ∧ Below _ _ w') at HA
  clear HE HP
  generalize opE sumD (s, val xs, e) (t, val ys, f) = E at *
  generalize opP sumD (s, val xs, e) (t, val ys, f) = p at *
  have C1 := hC.keep b0
  have Z0 : (((w.alloc (.cells #[.bool s, .slice a len cap, .int .i64 e] 25)).alloc (.cells #[.bool t, .slice b len' cap', .int .i64 f] 25)).alloc (.cells #[.bool false, .slice none 0 0, .int .i64 0] 25)).cell? ⟨w.heap.size + 2, 0, none⟩ = some (.bool false) := by go_simp
  have Z1 : (((w.alloc (.cells #[.bool s, .slice a len cap, .int .i64 e] 25)).alloc (.cells #[.bool t, .slice b len' cap', .int .i64 f] 25)).alloc (.cells #[.bool false, .slice none 0 0, .int .i64 0] 25)).cell? ⟨w.heap.size + 2, 1, none⟩ = some (.slice none 0 0) := by go_simp
  have Z2 : (((w.alloc (.cells #[.bool s, .slice a len cap, .int .i64 e] 25)).alloc (.cells #[.bool t, .slice b len' cap', .int .i64 f] 25)).alloc (.cells #[.bool false, .slice none 0 0, .int .i64 0] 25)).cell? ⟨w.heap.size + 2, 2, none⟩ = some (.int .i64 0) := by go_simp
  have F0 : (((w.alloc (.cells #[.bool s, .slice a len cap, .int .i64 e] 25)).alloc (.cells #[.bool t, .slice b len' cap', .int .i64 f] 25)).alloc (.cells #[.bool false, .slice none 0 0, .int .i64 0] 25)).frozen? ⟨w.heap.size + 2, 0, none⟩ = false := by go_simp
  have F1 : (((w.alloc (.cells #[.bool s, .slice a len cap, .int .i64 e] 25)).alloc (.cells #[.bool t, .slice b len' cap', .int .i64 f] 25)).alloc (.cells #[.bool false, .slice none 0 0, .int .i64 0] 25)).frozen? ⟨w.heap.size + 2, 1, none⟩ = false := by go_simp
  have F2 : (((w.alloc (.cells #[.bool s, .slice a len cap, .int .i64 e] 25)).alloc (.cells #[.bool t, .slice b len' cap', .int .i64 f] 25)).alloc (.cells #[.bool false, .slice none 0 0, .int .i64 0] 25)).frozen? ⟨w.heap.size + 2, 2, none⟩ = false := by go_simp
  have hz : (((w.alloc (.cells #[.bool s, .slice a len cap, .int .i64 e] 25)).alloc (.cells #[.bool t, .slice b len' cap', .int .i64 f] 25)).alloc (.cells #[.bool false, .slice none 0 0, .int .i64 0] 25)).heap.size = w.heap.size + 3 := by simp
  have hne : c ≠ w.heap.size + 2 := by omega
  clear h h' hm hm' hT hC
  go_enter Tryd.func7, Tryd.ntmps7
  go_wp2_with fail
  generalize (((w.alloc (.cells #[.bool s, .slice a len cap, .int .i64 e] 25)).alloc (.cells #[.bool t, .slice b len' cap', .int .i64 f] 25)).alloc (.cells #[.bool false, .slice none 0 0, .int .i64 0] 25)) = w1 at *
  refine Calls.mono HA.out ?_
  clear HA
  rintro r w2 ⟨_, rfl, ⟨ao, n, cc, rfl, HN, hn, hO⟩, b2⟩
  have hO' := hO.noC (c := c) (by omega)
  have hO'' := hO.noC (c := w.heap.size + 2) (by omega)
  have HI : Hid (IsW w2 ao n cc (wordsOf p.2.1)) := hO.1
  clear hO HN
  have bA := below_one w2 (.cells #[.bool p.1, .slice ao n cc, .int .i64 p.2.2] 25)
  have b12 := nbelow_trans b2 bA
  have C2 := C1.keep b12
  have Y0 := dcarry_cell b12 Z0
  have Y1 := dcarry_cell b12 Z1
  have Y2 := dcarry_cell b12 Z2
  have G0 := dcarry_frozen b12 Z0 F0
  have G1 := dcarry_frozen b12 Z1 F1
  have G2 := dcarry_frozen b12 Z2 F2
  have r0 : Rn c w (w2.alloc (.cells #[.bool p.1, .slice ao n cc, .int .i64 p.2.2] 25)) := (Rn.of_below b0).trans (Rn.of_below b12)
  replace HI : Hid (IsW (w2.alloc (.cells #[.bool p.1, .slice ao n cc, .int .i64 p.2.2] 25)) ao n cc (wordsOf p.2.1)) := HI.out.keep bA
  have K0 : (w2.alloc (.cells #[.bool p.1, .slice ao n cc, .int .i64 p.2.2] 25)).cell? ⟨w2.heap.size, 0, none⟩ = some (.bool p.1) := by go_simp
  have K1 : (w2.alloc (.cells #[.bool p.1, .slice ao n cc, .int .i64 p.2.2] 25)).cell? ⟨w2.heap.size, 1, none⟩ = some (.slice ao n cc) := by go_simp
  have K2 : (w2.alloc (.cells #[.bool p.1, .slice ao n cc, .int .i64 p.2.2] 25)).cell? ⟨w2.heap.size, 2, none⟩ = some (.int .i64 p.2.2) := by go_simp
  clear Z0 Z1 Z2 F0 F1 F2 b0 b2 bA b12 C1
  go_wp2_with fail
  generalize (w2.alloc (.cells #[.bool p.1, .slice ao n cc, .int .i64 p.2.2] 25)) = w3 at *
  refine Calls.mono (cput_calls c k p.1 ao n cc p.2.2 E w3 C2) ?_
  rintro r w4 ⟨rfl, C4, r4⟩
  have X0 := r4.cell Y0 (fun q => hne q.symm)
  have X1 := r4.cell Y1 (fun q => hne q.symm)
  have X2 := r4.cell Y2 (fun q => hne q.symm)
  have H0 := r4.frozen Y0 (fun q => hne q.symm) G0
  have H1 := r4.frozen Y1 (fun q => hne q.symm) G1
  have H2 := r4.frozen Y2 (fun q => hne q.symm) G2
  have HI4 : Hid (IsW w4 ao n cc (wordsOf p.2.1)) := HI.out.keepR hO' r4
  have r5 := r0.trans r4
  clear r0 r4 HI Y0 Y1 Y2 G0 G1 G2 K0 K1 K2 C2
  go_wp2_with fail
  refine bodyPost_ret (v := dyV p.1 ao n cc p.2.2) (by simp [results, Tryd.results7, go_sem, X0, X1, X2]) rfl ⟨_, rfl, ⟨ao, n, cc, rfl, hn, ?_, hO'⟩, ?_, ?_⟩
  · exact HI4.out.keepR hO'' (by repeat (first | exact Rn.refl _ _ | refine Rn.set ?_ (Or.inr rfl) _))
  · exact C4.keepR (d := w.heap.size + 2) (by repeat (first | exact Rn.refl _ _ | refine Rn.set ?_ (Or.inr rfl) _)) hne
  · repeat (first | exact r5 | refine Rn.set ?_ (Or.inl (by simp; omega)) _)

set_option maxRecDepth 100000 in
set_option maxHeartbeats 2000000 in
theorem csub_calls (c : Nat) (k : Int) (s : Bool) (a : Option Addr) (len cap : Nat) (xs : List Int) (e : Int) (t : Bool) (b : Option Addr) (len' cap' : Nat) (ys : List Int) (f : Int) (w : World) (h : IsW w a len cap xs) (hm : len ≤ 17592186044000) (h' : IsW w b len' cap' ys) (hm' : len' ≤ 17592186044000) (hT : Tab w) (hC : CAt c w k) :
    Calls Tryd.prog 11 #[.pointer (some ⟨c, 0, none⟩), dyV s a len cap e, dyV t b len' cap' f] w fun r w' => ∃ v', r = .returned v' ∧ DyC c w' v' (opP subD (s, val xs, e) (t, val ys, f)) ∧ CAt c w' (stk k (opE subD (s, val xs, e) (t, val ys, f))) ∧ Rn c w w' := by
  have hlt : c < w.heap.size := World.block_lt_of_cell? _ _ hC.1
  have b0 : Below w.heap.size w (((w.alloc (.cells #[.bool s, .slice a len cap, .int .i64 e] 25)).alloc (.cells #[.bool t, .slice b len' cap', .int .i64 f] 25)).alloc (.cells #[.bool false, .slice none 0 0, .int .i64 0] 25)) := nbelow_trans (nbelow_trans (below_one _ _) (below_one _ _)) (below_one _ _)
  have HA : Hid _ := pSub_calls s a len cap xs e t b len' cap' ys f _ (h.keep b0) hm (h'.keep b0) hm' (hT.kept b0)
  have HE : Hid (opE subD (s, val xs, e) (t, val ys, f) = _) := rfl
  have HP : Hid (opP subD (s, val xs, e) (t, val ys, f) = _) := rfl
  change Hid (Calls _ _ _ _ fun r w' => ∃ v', r = .returned (.tuple #[v', .int .i64 (opE subD (s, val xs, e) (t, val ys, f))]) ∧ DyAt _ w' v' (opP subD (s, val xs, e) (t, val ys, f)) ∧ Below _ _ w') at HA
  clear HE HP
  generalize opE subD (s, val xs, e) (t, val ys, f) = E at *
  generalize opP subD (s, val xs, e) (t, val ys, f) = p at *
  have C1 := hC.keep b0
  have Z0 : (((w.alloc (.cells #[.bool s, .slice a len cap, .int .i64 e] 25)).alloc (.cells #[.bool t, .slice b len' cap', .int .i64 f] 25)).alloc (.cells #[.bool false, .slice none 0 0, .int .i64 0] 25)).cell? ⟨w.heap.size + 2, 0, none⟩ = some (.bool false) := by go_simp
  have Z1 : (((w.alloc (.cells #[.bool s, .slice a len cap, .int .i64 e] 25)).alloc (.cells #[.bool t, .slice b len' cap', .int .i64 f] 25)).alloc (.cells #[.bool false, .slice none 0 0, .int .i64 0] 25)).cell? ⟨w.heap.size + 2, 1, none⟩ = some (.slice none 0 0) := by go_simp
  have Z2 : (((w.alloc (.cells #[.bool s, .slice a len cap, .int .i64 e] 25)).alloc (.cells #[.bool t, .slice b len' cap', .int .i64 f] 25)).alloc (.cells #[.bool false, .slice none 0 0, .int .i64 0] 25)).cell? ⟨w.heap.size + 2, 2, none⟩ = some (.int .i64 0) := by go_simp
  have F0 : (((w.alloc (.cells #[.bool s, .slice a len cap, .int .i64 e] 25)).alloc (.cells #[.bool t, .slice b len' cap', .int .i64 f] 25)).alloc (.cells #[.bool false, .slice none 0 0, .int .i64 0] 25)).frozen? ⟨w.heap.size + 2, 0, none⟩ = false := by go_simp
  have F1 : (((w.alloc (.cells #[.bool s, .slice a len cap, .int .i64 e] 25)).alloc (.cells #[.bool t, .slice b len' cap', .int .i64 f] 25)).alloc (.cells #[.bool false, .slice none 0 0, .int .i64 0] 25)).frozen? ⟨w.heap.size + 2, 1, none⟩ = false := by go_simp
  have F2 : (((w.alloc (.cells #[.bool s, .slice a len cap, .int .i64 e] 25)).alloc (.cells #[.bool t, .slice b len' cap', .int .i64 f] 25)).alloc (.cells #[.bool false, .slice none 0 0, .int .i64 0] 25)).frozen? ⟨w.heap.size + 2, 2, none⟩ = false := by go_simp
  have hz : (((w.alloc (.cells #[.bool s, .slice a len cap, .int .i64 e] 25)).alloc (.cells #[.bool t, .slice b len' cap', .int .i64 f] 25)).alloc (.cells #[.bool false, .slice none 0 0, .int .i64 0] 25)).heap.size = w.heap.size + 3 := by simp
  have hne : c ≠ w.heap.size + 2 := by omega
  clear h h' hm hm' hT hC
  go_enter Tryd.func11, Tryd.ntmps11
  go_wp2_with fail
  generalize (((w.alloc (.cells #[.bool s, .slice a len cap, .int .i64 e] 25)).alloc (.cells #[.bool t, .slice b len' cap', .int .i64 f] 25)).alloc (.cells #[.bool false, .slice none 0 0, .int .i64 0] 25)) = w1 at *
  refine Calls.mono HA.out ?_
  clear HA
  rintro r w2 ⟨_, rfl, ⟨ao, n, cc, rfl, HN, hn, hO⟩, b2⟩
  have hO' := hO.noC (c := c) (by omega)
  have hO'' := hO.noC (c := w.heap.size + 2) (by omega)
  have HI : Hid (IsW w2 ao n cc (wordsOf p.2.1)) := hO.1
  clear hO HN
  have bA := below_one w2 (.cells #[.bool p.1, .slice ao n cc, .int .i64 p.2.2] 25)
  have b12 := nbelow_trans b2 bA
  have C2 := C1.keep b12
  have Y0 := dcarry_cell b12 Z0
  have Y1 := dcarry_cell b12 Z1
  have Y2 := dcarry_cell b12 Z2
  have G0 := dcarry_frozen b12 Z0 F0
  have G1 := dcarry_frozen b12 Z1 F1
  have G2 := dcarry_frozen b12 Z2 F2
  have r0 : Rn c w (w2.alloc (.cells #[.bool p.1, .slice ao n cc, .int .i64 p.2.2] 25)) := (Rn.of_below b0).trans (Rn.of_below b12)
  replace HI : Hid (IsW (w2.alloc (.cells #[.bool p.1, .slice ao n cc, .int .i64 p.2.2] 25)) ao n cc (wordsOf p.2.1)) := HI.out.keep bA
  have K0 : (w2.alloc (.cells #[.bool p.1, .slice ao n cc, .int .i64 p.2.2] 25)).cell? ⟨w2.heap.size, 0, none⟩ = some (.bool p.1) := by go_simp
  have K1 : (w2.alloc (.cells #[.bool p.1, .slice ao n cc, .int .i64 p.2.2] 25)).cell? ⟨w2.heap.size, 1, none⟩ = some (.slice ao n cc) := by go_simp
  have K2 : (w2.alloc (.cells #[.bool p.1, .slice ao n cc, .int .i64 p.2.2] 25)).cell? ⟨w2.heap.size, 2, none⟩ = some (.int .i64 p.2.2) := by go_simp
  clear Z0 Z1 Z2 F0 F1 F2 b0 b2 bA b12 C1
  go_wp2_with fail
  generalize (w2.alloc (.cells #[.bool p.1, .slice ao n cc, .int .i64 p.2.2] 25)) = w3 at *
  refine Calls.mono (cput_calls c k p.1 ao n cc p.2.2 E w3 C2) ?_
  rintro r w4 ⟨rfl, C4, r4⟩
  have X0 := r4.cell Y0 (fun q => hne q.symm)
  have X1 := r4.cell Y1 (fun q => hne q.symm)
  have X2 := r4.cell Y2 (fun q => hne q.symm)
  have H0 := r4.frozen Y0 (fun q => hne q.symm) G0
  have H1 := r4.frozen Y1 (fun q => hne q.symm) G1
  have H2 := r4.frozen Y2 (fun q => hne q.symm) G2
  have HI4 : Hid (IsW w4 ao n cc (wordsOf p.2.1)) := HI.out.keepR hO' r4
  have r5 := r0.trans r4
  clear r0 r4 HI Y0 Y1 Y2 G0 G1 G2 K0 K1 K2 C2
  go_wp2_with fail
  refine bodyPost_ret (v := dyV p.1 ao n cc p.2.2) (by simp [results, Tryd.results11, go_sem, X0, X1, X2]) rfl ⟨_, rfl, ⟨ao, n, cc, rfl, hn, ?_, hO'⟩, ?_, ?_⟩
  · exact HI4.out.keepR hO'' (by repeat (first | exact Rn.refl _ _ | refine Rn.set ?_ (Or.inr rfl) _))
  · exact C4.keepR (d := w.heap.size + 2) (by repeat (first | exact Rn.refl _ _ | refine Rn.set ?_ (Or.inr rfl) _)) hne
  · repeat (first | exact r5 | refine Rn.set ?_ (Or.inl (by simp; omega)) _)

set_option maxRecDepth 100000 in
set_option maxHeartbeats 2000000 in
theorem cmul_calls (c : Nat) (k : Int) (s : Bool) (a : Option Addr) (len cap : Nat) (xs : List Int) (e : Int) (t : Bool) (b : Option Addr) (len' cap' : Nat) (ys : List Int) (f : Int) (w : World) (h : IsW w a len cap xs) (hm : len ≤ 17592186044000) (h' : IsW w b len' cap' ys) (hm' : len' ≤ 17592186044000) (hT : Tab w) (hC : CAt c w k) :
    Calls Tryd.prog 8 #[.pointer (some ⟨c, 0, none⟩), dyV s a len cap e, dyV t b len' cap' f] w fun r w' => ∃ v', r = .returned v' ∧ DyC c w' v' (opP mulD (s, val xs, e) (t, val ys, f)) ∧ CAt c w' (stk k (opE mulD (s, val xs, e) (t, val ys, f))) ∧ Rn c w w' := by
  have hlt : c < w.heap.size := World.block_lt_of_cell? _ _ hC.1
  have b0 : Below w.heap.size w (((w.alloc (.cells #[.bool s, .slice a len cap, .int .i64 e] 25)).alloc (.cells #[.bool t, .slice b len' cap', .int .i64 f] 25)).alloc (.cells #[.bool false, .slice none 0 0, .int .i64 0] 25)) := nbelow_trans (nbelow_trans (below_one _ _) (below_one _ _)) (below_one _ _)
  have HA : Hid _ := pMul_calls s a len cap xs e t b len' cap' ys f _ (h.keep b0) hm (h'.keep b0) hm' (hT.kept b0)
  have HE : Hid (opE mulD (s, val xs, e) (t, val ys, f) = _) := rfl
  have HP : Hid (opP mulD (s, val xs, e) (t, val ys, f) = _) := rfl
  change Hid (Calls _ _ _ _ fun r w' => ∃ v', r = .returned (.tuple #[v', .int .i64 (opE mulD (s, val xs, e) (t, val ys, f))]) ∧ DyAt _ w' v' (opP mulD (s, val xs, e) (t, val ys, f)) ∧ Below _ _ w') at HA
  clear HE HP
  generalize opE mulD (s, val xs, e) (t, val ys, f) = E at *
  generalize opP mulD (s, val xs, e) (t, val ys, f) = p at *
  have C1 := hC.keep b0
  have Z0 : (((w.alloc (.cells #[.bool s, .slice a len cap, .int .i64 e] 25)).alloc (.cells #[.bool t, .slice b len' cap', .int .i64 f] 25)).alloc (.cells #[.bool false, .slice none 0 0, .int .i64 0] 25)).cell? ⟨w.heap.size + 2, 0, none⟩ = some (.bool false) := by go_simp
  have Z1 : (((w.alloc (.cells #[.bool s, .slice a len cap, .int .i64 e] 25)).alloc (.cells #[.bool t, .slice b len' cap', .int .i64 f] 25)).alloc (.cells #[.bool false, .slice none 0 0, .int .i64 0] 25)).cell? ⟨w.heap.size + 2, 1, none⟩ = some (.slice none 0 0) := by go_simp
  have Z2 : (((w.alloc (.cells #[.bool s, .slice a len cap, .int .i64 e] 25)).alloc (.cells #[.bool t, .slice b len' cap', .int .i64 f] 25)).alloc (.cells #[.bool false, .slice none 0 0, .int .i64 0] 25)).cell? ⟨w.heap.size + 2, 2, none⟩ = some (.int .i64 0) := by go_simp
  have F0 : (((w.alloc (.cells #[.bool s, .slice a len cap, .int .i64 e] 25)).alloc (.cells #[.bool t, .slice b len' cap', .int .i64 f] 25)).alloc (.cells #[.bool false, .slice none 0 0, .int .i64 0] 25)).frozen? ⟨w.heap.size + 2, 0, none⟩ = false := by go_simp
  have F1 : (((w.alloc (.cells #[.bool s, .slice a len cap, .int .i64 e] 25)).alloc (.cells #[.bool t, .slice b len' cap', .int .i64 f] 25)).alloc (.cells #[.bool false, .slice none 0 0, .int .i64 0] 25)).frozen? ⟨w.heap.size + 2, 1, none⟩ = false := by go_simp
  have F2 : (((w.alloc (.cells #[.bool s, .slice a len cap, .int .i64 e] 25)).alloc (.cells #[.bool t, .slice b len' cap', .int .i64 f] 25)).alloc (.cells #[.bool false, .slice none 0 0, .int .i64 0] 25)).frozen? ⟨w.heap.size + 2, 2, none⟩ = false := by go_simp
  have hz : (((w.alloc (.cells #[.bool s, .slice a len cap, .int .i64 e] 25)).alloc (.cells #[.bool t, .slice b len' cap', .int .i64 f] 25)).alloc (.cells #[.bool false, .slice none 0 0, .int .i64 0] 25)).heap.size = w.heap.size + 3 := by simp
  have hne : c ≠ w.heap.size + 2 := by omega
  clear h h' hm hm' hT hC
  go_enter Tryd.func8, Tryd.ntmps8
  go_wp2_with fail
  generalize (((w.alloc (.cells #[.bool s, .slice a len cap, .int .i64 e] 25)).alloc (.cells #[.bool t, .slice b len' cap', .int .i64 f] 25)).alloc (.cells #[.bool false, .slice none 0 0, .int .i64 0] 25)) = w1 at *
  refine Calls.mono HA.out ?_
  clear HA
  rintro r w2 ⟨_, rfl, ⟨ao, n, cc, rfl, HN, hn, hO⟩, b2⟩
  have hO' := hO.noC (c := c) (by omega)
  have hO'' := hO.noC (c := w.heap.size + 2) (by omega)
  have HI : Hid (IsW w2 ao n cc (wordsOf p.2.1)) := hO.1
  clear hO HN
  have bA := below_one w2 (.cells #[.bool p.1, .slice ao n cc, .int .i64 p.2.2] 25)
  have b12 := nbelow_trans b2 bA
  have C2 := C1.keep b12
  have Y0 := dcarry_cell b12 Z0
  have Y1 := dcarry_cell b12 Z1
  have Y2 := dcarry_cell b12 Z2
  have G0 := dcarry_frozen b12 Z0 F0
  have G1 := dcarry_frozen b12 Z1 F1
  have G2 := dcarry_frozen b12 Z2 F2
  have r0 : Rn c w (w2.alloc (.cells #[.bool p.1, .slice ao n cc, .int .i64 p.2.2] 25)) := (Rn.of_below b0).trans (Rn.of_below b12)
  replace HI : Hid (IsW (w2.alloc (.cells #[.bool p.1, .slice ao n cc, .int .i64 p.2.2] 25)) ao n cc (wordsOf p.2.1)) := HI.out.keep bA
  have K0 : (w2.alloc (.cells #[.bool p.1, .slice ao n cc, .int .i64 p.2.2] 25)).cell? ⟨w2.heap.size, 0, none⟩ = some (.bool p.1) := by go_simp
  have K1 : (w2.alloc (.cells #[.bool p.1, .slice ao n cc, .int .i64 p.2.2] 25)).cell? ⟨w2.heap.size, 1, none⟩ = some (.slice ao n cc) := by go_simp
  have K2 : (w2.alloc (.cells #[.bool p.1, .slice ao n cc, .int .i64 p.2.2] 25)).cell? ⟨w2.heap.size, 2, none⟩ = some (.int .i64 p.2.2) := by go_simp
  clear Z0 Z1 Z2 F0 F1 F2 b0 b2 bA b12 C1
  go_wp2_with fail
  generalize (w2.alloc (.cells #[.bool p.1, .slice ao n cc, .int .i64 p.2.2] 25)) = w3 at *
  refine Calls.mono (cput_calls c k p.1 ao n cc p.2.2 E w3 C2) ?_
  rintro r w4 ⟨rfl, C4, r4⟩
  have X0 := r4.cell Y0 (fun q => hne q.symm)
  have X1 := r4.cell Y1 (fun q => hne q.symm)
  have X2 := r4.cell Y2 (fun q => hne q.symm)
  have H0 := r4.frozen Y0 (fun q => hne q.symm) G0
  have H1 := r4.frozen Y1 (fun q => hne q.symm) G1
  have H2 := r4.frozen Y2 (fun q => hne q.symm) G2
  have HI4 : Hid (IsW w4 ao n cc (wordsOf p.2.1)) := HI.out.keepR hO' r4
  have r5 := r0.trans r4
  clear r0 r4 HI Y0 Y1 Y2 G0 G1 G2 K0 K1 K2 C2
  go_wp2_with fail
  refine bodyPost_ret (v := dyV p.1 ao n cc p.2.2) (by simp [results, Tryd.results8, go_sem, X0, X1, X2]) rfl ⟨_, rfl, ⟨ao, n, cc, rfl, hn, ?_, hO'⟩, ?_, ?_⟩
  · exact HI4.out.keepR hO'' (by repeat (first | exact Rn.refl _ _ | refine Rn.set ?_ (Or.inr rfl) _))
  · exact C4.keepR (d := w.heap.size + 2) (by repeat (first | exact Rn.refl _ _ | refine Rn.set ?_ (Or.inr rfl) _)) hne
  · repeat (first | exact r5 | refine Rn.set ?_ (Or.inl (by simp; omega)) _)

theorem DyC.keepR {c : Nat} {w w' : World} {v : Value} {p : Tri} (h : DyC c w v p) (r : Rn c w w') : DyC c w' v p := by
  obtain ⟨ao, n, cc, h1, h2, h3, h4⟩ := h
  exact ⟨ao, n, cc, h1, h2, h3.keepR h4 r, h4⟩
/-- A number that came in, or one that the calc handed out. -/
def NmC (c : Nat) (w : World) (v : Value) (x : Tri) : Prop := ∃ (ao : Option Addr) (n cc : Nat) (xs : List Int), v = dyV x.1 ao n cc x.2.2 ∧ n ≤ 17592186044000 ∧ IsW w ao n cc xs ∧ val xs = x.2.1 ∧ NoC c ao n
theorem NmC.keepR {c : Nat} {w w' : World} {v : Value} {p : Tri} (h : NmC c w v p) (r : Rn c w w') : NmC c w' v p := by
  obtain ⟨ao, n, cc, xs, h1, h2, h3, h5, h4⟩ := h
  exact ⟨ao, n, cc, xs, h1, h2, h3.keepR h4 r, h5, h4⟩
theorem DyC.nm {c : Nat} {w : World} {v : Value} {p : Tri} (h : DyC c w v p) : NmC c w v p := by
  obtain ⟨ao, n, cc, h1, h2, h3, h4⟩ := h
  exact ⟨ao, n, cc, _, h1, by omega, h3, val_words _, h4⟩
theorem csame_calls (c : Nat) {p q : Tri} {v u : Value} {w : World} (h : DyC c w v p) (h' : DyC c w u q) :
    Calls Tryd.prog 6 #[v, u] w fun r w' => r = .returned (.bool (smB p q)) ∧ Below w.heap.size w w' := by
  obtain ⟨ao, n, cc, rfl, h2, h3, h4⟩ := h
  obtain ⟨ao', n', cc', rfl, h2', h3', h4'⟩ := h'
  refine Calls.mono (qSame_calls p.1 ao n cc _ p.2.2 q.1 ao' n' cc' _ q.2.2 w h3 (by omega) h3' (by omega)) ?_
  rintro r w' ⟨rfl, hb⟩
  exact ⟨rfl, hb⟩
theorem cadd_nm (c : Nat) (k : Int) {x y : Tri} {v u : Value} {w : World} (h : NmC c w v x) (h' : NmC c w u y) (hT : Tab w) (hC : CAt c w k) :
    Calls Tryd.prog 7 #[.pointer (some ⟨c, 0, none⟩), v, u] w fun r w' => ∃ v', r = .returned v' ∧ DyC c w' v' (opP sumD x y) ∧ CAt c w' (stk k (opE sumD x y)) ∧ Rn c w w' := by
  obtain ⟨ao, n, cc, xs, rfl, h2, h3, h5, h4⟩ := h
  obtain ⟨ao', n', cc', ys, rfl, h2', h3', h5', h4'⟩ := h'
  have := cadd_calls c k x.1 ao n cc xs x.2.2 y.1 ao' n' cc' ys y.2.2 w h3 h2 h3' h2' hT hC
  rw [h5, h5'] at this
  exact this
theorem csub_nm (c : Nat) (k : Int) {x y : Tri} {v u : Value} {w : World} (h : NmC c w v x) (h' : NmC c w u y) (hT : Tab w) (hC : CAt c w k) :
    Calls Tryd.prog 11 #[.pointer (some ⟨c, 0, none⟩), v, u] w fun r w' => ∃ v', r = .returned v' ∧ DyC c w' v' (opP subD x y) ∧ CAt c w' (stk k (opE subD x y)) ∧ Rn c w w' := by
  obtain ⟨ao, n, cc, xs, rfl, h2, h3, h5, h4⟩ := h
  obtain ⟨ao', n', cc', ys, rfl, h2', h3', h5', h4'⟩ := h'
  have := csub_calls c k x.1 ao n cc xs x.2.2 y.1 ao' n' cc' ys y.2.2 w h3 h2 h3' h2' hT hC
  rw [h5, h5'] at this
  exact this
theorem cmul_nm (c : Nat) (k : Int) {x y : Tri} {v u : Value} {w : World} (h : NmC c w v x) (h' : NmC c w u y) (hT : Tab w) (hC : CAt c w k) :
    Calls Tryd.prog 8 #[.pointer (some ⟨c, 0, none⟩), v, u] w fun r w' => ∃ v', r = .returned v' ∧ DyC c w' v' (opP mulD x y) ∧ CAt c w' (stk k (opE mulD x y)) ∧ Rn c w w' := by
  obtain ⟨ao, n, cc, xs, rfl, h2, h3, h5, h4⟩ := h
  obtain ⟨ao', n', cc', ys, rfl, h2', h3', h5', h4'⟩ := h'
  have := cmul_calls c k x.1 ao n cc xs x.2.2 y.1 ao' n' cc' ys y.2.2 w h3 h2 h3' h2' hT hC
  rw [h5, h5'] at this
  exact this
end Go.Proofs.YticjhheceoeilaaDoor
