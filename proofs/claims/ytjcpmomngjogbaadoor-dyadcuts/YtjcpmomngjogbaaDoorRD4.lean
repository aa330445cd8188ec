/- The document's dyadic numbers, fourth part: Neg, Twice, Shift; the program's Neg, Abs, Shift in the same words. -/
import Derived.Test.YtjcpmomngjogbaaDoorRDA
import Derived.Test.YtjcpmomngjogbaaDoorPShift
namespace Go.Proofs.YtjcpmomngjogbaaDoor
open Go.RowKit

set_option maxRecDepth 100000 in
set_option maxHeartbeats 2000000 in
theorem qNeg_calls (s : Bool) (a : Option Addr) (len cap : Nat) (xs : List Int) (e : Int) (w : World) (h : IsW w a len cap xs) (hm : len ≤ 17592186044000) (he : -4611686018427387904 ≤ e ∧ e ≤ 4611686018427387904) :
    Calls Tryd.prog 75 #[dyV s a len cap e] w fun r w' => ∃ v, r = .returned v ∧ DyQ w.heap.size w' v (formD (!s) (val xs) e) ∧ Below w.heap.size w w' := by
  have hb0 : Below w.heap.size w ((w.alloc (.cells #[.bool s, .slice a len cap, .int .i64 e] 25)).alloc (.cells #[.bool false, .slice none 0 0, .int .i64 0] 25)) := nbelow_trans (below_one _ _) (below_one _ _)
  have HF : Hid _ := qForm_calls (!s) a len cap xs e _ (h.keep hb0) hm (by omega)
  clear he
  generalize formD (!s) (val xs) e = p at *
  go_enter Tryd.func75, Tryd.ntmps75
  go_wp2_with fail
  refine Calls.mono HF.out ?_
  rintro r w1 ⟨_, rfl, ⟨a1, n1, c1, rfl, HN1, hO1⟩, hb1⟩
  obtain ⟨m0, m1, m2, f0, f1, f2⟩ := zero_dy (r := w.heap.size + 1) hb1 (by simp)
  have hb01 := nbelow_trans hb0 hb1
  have hws : w.heap.size + 2 ≤ w1.heap.size := by have := hb1.size; simp at this; omega
  clear hb1 HF
  go_wp2_with fail
  refine bodyPost_ret (v := dyV p.1 a1 n1 c1 p.2.2) (by simp [results, Tryd.results75, go_sem, m0, m1, m2]) rfl ⟨_, rfl, ⟨a1, n1, c1, rfl, HN1, ?_⟩, ?_⟩
  · exact (((hO1.far _ _ (by simp)).far _ _ (by simp)).far _ _ (by simp)).low (by simp; omega)
  · exact ((hb01.setCell (by show w.heap.size ≤ w.heap.size + 1; omega) _).setCell (by show w.heap.size ≤ w.heap.size + 1; omega) _).setCell (by show w.heap.size ≤ w.heap.size + 1; omega) _