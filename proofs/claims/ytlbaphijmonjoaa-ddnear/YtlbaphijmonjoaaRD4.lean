/- The document's dyadic numbers, fourth part: Neg, Twice, Shift; the program's Neg, Abs, Shift in the same words. -/
import Derived.Test.YtlbaphijmonjoaaRD3
import Derived.Test.YtlbaphijmonjoaaPShift
namespace Go.Proofs.Ytlbaphijmonjoaa
open Go.RowKit

set_option maxRecDepth 100000 in
set_option maxHeartbeats 2000000 in
theorem qNeg_calls (s : Bool) (a : Option Addr) (len cap : Nat) (xs : List Int) (e : Int) (w : World) (h : IsW w a len cap xs) (hm : len ≤ 17592186044000) (he : -4611686018427387904 ≤ e ∧ e ≤ 4611686018427387904) :
    Calls Try.prog 35 #[dyV s a len cap e] w fun r w' => ∃ v, r = .returned v ∧ DyQ w.heap.size w' v (formD (!s) (val xs) e) ∧ Below w.heap.size w w' := by
  have hb0 : Below w.heap.size w ((w.alloc (.cells #[.bool s, .slice a len cap, .int .i64 e] 30)).alloc (.cells #[.bool false, .slice none 0 0, .int .i64 0] 30)) := nbelow_trans (below_one _ _) (below_one _ _)
  have HF : Hid _ := qForm_calls (!s) a len cap xs e _ (h.keep hb0) hm (by omega)
  clear he
  generalize formD (!s) (val xs) e = p at *
  go_enter Try.func35, Try.ntmps35
  go_wp2_with fail
  refine Calls.mono HF.out ?_
  rintro r w1 ⟨_, rfl, ⟨a1, n1, c1, rfl, HN1, hO1⟩, hb1⟩
  obtain ⟨m0, m1, m2, f0, f1, f2⟩ := zero_dy (r := w.heap.size + 1) hb1 (by simp)
  have hb01 := nbelow_trans hb0 hb1
  have hws : w.heap.size + 2 ≤ w1.heap.size := by have := hb1.size; simp at this; omega
  clear hb1 HF
  go_wp2_with fail
  refine bodyPost_ret (v := dyV p.1 a1 n1 c1 p.2.2) (by simp [results, Try.results35, go_sem, m0, m1, m2]) rfl ⟨_, rfl, ⟨a1, n1, c1, rfl, HN1, ?_⟩, ?_⟩
  · exact (((hO1.far _ _ (by simp)).far _ _ (by simp)).far _ _ (by simp)).low (by simp; omega)
  · exact ((hb01.setCell (by show w.heap.size ≤ w.heap.size + 1; omega) _).setCell (by show w.heap.size ≤ w.heap.size + 1; omega) _).setCell (by show w.heap.size ≤ w.heap.size + 1; omega) _

set_option maxRecDepth 100000 in
set_option maxHeartbeats 2000000 in
theorem qTwice_calls (s : Bool) (a : Option Addr) (len cap : Nat) (xs : List Int) (e : Int) (i : Int) (w : World) (h : IsW w a len cap xs) (hm : len ≤ 17592186044000) (he : (-2305843009213693952 ≤ e ∧ e ≤ 2305843009213693952) ∧ -2305843009213693952 ≤ i ∧ i ≤ 2305843009213693952) :
    Calls Try.prog 37 #[dyV s a len cap e, .int .i64 i] w fun r w' => ∃ v, r = .returned v ∧ DyQ w.heap.size w' v (formD s (val xs) (e + i)) ∧ Below w.heap.size w w' := by
  have hb0 : Below w.heap.size w ((w.alloc (.cells #[.bool s, .slice a len cap, .int .i64 e] 30)).alloc (.cells #[.bool false, .slice none 0 0, .int .i64 0] 30)) := nbelow_trans (below_one _ _) (below_one _ _)
  have HF : Hid _ := qForm_calls s a len cap xs (e + i) _ (h.keep hb0) hm (by omega)
  obtain ⟨⟨he1, he2⟩, hi1, hi2⟩ := he
  generalize formD s (val xs) (e + i) = p at *
  go_enter Try.func37, Try.ntmps37
  go_wp2_with fail
  refine Calls.mono HF.out ?_
  rintro r w1 ⟨_, rfl, ⟨a1, n1, c1, rfl, HN1, hO1⟩, hb1⟩
  obtain ⟨m0, m1, m2, f0, f1, f2⟩ := zero_dy (r := w.heap.size + 1) hb1 (by simp)
  have hb01 := nbelow_trans hb0 hb1
  have hws : w.heap.size + 2 ≤ w1.heap.size := by have := hb1.size; simp at this; omega
  clear hb1 HF
  go_wp2_with fail
  refine bodyPost_ret (v := dyV p.1 a1 n1 c1 p.2.2) (by simp [results, Try.results37, go_sem, m0, m1, m2]) rfl ⟨_, rfl, ⟨a1, n1, c1, rfl, HN1, ?_⟩, ?_⟩
  · exact (((hO1.far _ _ (by simp)).far _ _ (by simp)).far _ _ (by simp)).low (by simp; omega)
  · exact ((hb01.setCell (by show w.heap.size ≤ w.heap.size + 1; omega) _).setCell (by show w.heap.size ≤ w.heap.size + 1; omega) _).setCell (by show w.heap.size ≤ w.heap.size + 1; omega) _

/-- What Shift answers. -/
def shB (m : Nat) (e i : Int) : Bool := rightB m e && decide (-65536 ≤ i ∧ i ≤ 65536)
def shE (s : Bool) (m : Nat) (e i : Int) : Int := if shB m e i = true then roomE (formD s m (e + i)) else 2
def shP (s : Bool) (m : Nat) (e i : Int) : Bool × Nat × Int := if shB m e i = true then roomP (formD s m (e + i)) else (false, 0, 0)
theorem sh_no {s : Bool} {m : Nat} {e i : Int} (h : shB m e i = false) : shE s m e i = 2 ∧ shP s m e i = (false, 0, 0) := by unfold shE shP; rw [if_neg (by rw [h]; decide), if_neg (by rw [h]; decide)]; exact ⟨rfl, rfl⟩
theorem sh_yes {s : Bool} {m : Nat} {e i : Int} (h : shB m e i = true) : shE s m e i = roomE (formD s m (e + i)) ∧ shP s m e i = roomP (formD s m (e + i)) := by unfold shE shP; rw [if_pos h, if_pos h]; exact ⟨rfl, rfl⟩


theorem room_neg (p : Bool × Nat × Int) : roomE (negD p) = roomE p := rfl
theorem room_abs (p : Bool × Nat × Int) : roomE (absD p) = roomE p := rfl
/-- Neg and Abs of the one form: the error is Canon's. -/
def ngP (s : Bool) (m : Nat) (e : Int) : Bool × Nat × Int := if canE s m e = 0 then negD (canP s m e) else (false, 0, 0)
theorem roomP_neg (p : Bool × Nat × Int) : roomP (negD p) = if roomE p = 0 then negD (roomP p) else (false, 0, 0) := by
  unfold roomP roomE
  have hb : roomB (negD p) = roomB p := rfl
  rw [hb]
  by_cases h : roomB p = true
  · rw [if_pos h, if_pos h, if_pos h]; rfl
  · rw [if_neg h, if_neg h, if_neg h]; rfl
theorem roomP_abs (p : Bool × Nat × Int) : roomP (absD p) = absD (roomP p) := by
  unfold roomP
  have hb : roomB (absD p) = roomB p := rfl
  rw [hb]
  by_cases h : roomB p = true
  · rw [if_pos h, if_pos h]
  · rw [if_neg h, if_neg h]; rfl
theorem canP_can (s : Bool) (m : Nat) (e : Int) : CanD (canP s m e) := by
  unfold canP roomP
  split
  · split
    · exact form_can s m e
    · exact Or.inl rfl
  · exact Or.inl rfl
theorem neg_can {p : Bool × Nat × Int} (h : CanD p) : formD (!p.1) p.2.1 p.2.2 = negD p := by
  rcases h with h | h
  · rw [h, form_zero]; rfl
  · rw [form_odd _ h]
    unfold negD
    rw [decide_eq_false (by omega)]
    simp
end Go.Proofs.Ytlbaphijmonjoaa
