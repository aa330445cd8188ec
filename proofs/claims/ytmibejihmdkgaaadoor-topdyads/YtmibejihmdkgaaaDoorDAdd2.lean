/- The walk of Add. -/
import Derived.Test.YtmibejihmdkgaaaDoorDAdd
namespace Go.Proofs.YtmibejihmdkgaaaDoor
open Go.RowKit

set_option maxRecDepth 100000 in
set_option maxHeartbeats 4000000 in
theorem dadd_not (s : Bool) (a : Option Addr) (len cap : Nat) (xs : List Int) (e : Int) (s' : Bool) (a' : Option Addr) (len' cap' : Nat) (ys : List Int) (e' : Int) (w : World) (h : IsW w a len cap xs) (hm : len ≤ 17592186044416) (h' : IsW w a' len' cap' ys) (hm' : len' ≤ 17592186044416) (hr : (rightB (val xs) e && rightB (val ys) e') = false) :
    Calls Tryd.prog 5 #[dyV s a len cap e, dyV s' a' len' cap' e'] w fun r w' => r = .returned (.tuple #[dyV false none 0 0 0, .int .i64 2]) ∧ Below w.heap.size w w' := by
  have hmf : ∀ (fn : Fn) (first cap : Array Value) (w : World), (Instr.makeFunc fn first cap).run Tryd.prog w = .ok (.func fn first cap) w := fun _ _ _ _ => rfl
  have HRB : Hid ((rightB (val xs) e && rightB (val ys) e') = false) := hr
  clear hr
  go_enter Tryd.func5, Tryd.ntmps5
  go_wp2_with fail
  have hb0 : Below w.heap.size w ((((w.alloc (.cells #[.bool s, .slice a len cap, .int .i64 e] 26)).alloc (.cells #[.bool s', .slice a' len' cap', .int .i64 e'] 26)).alloc (.cells #[.bool false, .slice none 0 0, .int .i64 0] 26)).alloc (.cells #[.bool s, .slice a len cap, .int .i64 e, .bool s', .slice a' len' cap', .int .i64 e'] 26)) := by repeat (first | exact Below.refl _ _ | refine Below.alloc ?_ (by simp; try omega) _)
  refine Calls.mono (made_not _ _ _ (fun W hW => HRB.out ▸ right2_calls (w.heap.size + 1 + 1 + 1) s a len cap xs e s' a' len' cap' ys e' W (h.keep (nbelow_trans hb0 hW)) hm (h'.keep (nbelow_trans hb0 hW)) hm' (dcarry_cell hW (by go_simp)) (dcarry_cell hW (by go_simp)) (dcarry_cell hW (by go_simp)) (dcarry_cell hW (by go_simp)) (dcarry_cell hW (by go_simp)) (dcarry_cell hW (by go_simp)))) ?_
  rintro r w2 ⟨rfl, hbM⟩
  have hb2 := nbelow_trans hb0 hbM
  obtain ⟨m0, m1, m2, f0, f1, f2⟩ := zero_dy (r := w.heap.size + 1 + 1) (w := (w.alloc (.cells #[.bool s, .slice a len cap, .int .i64 e] 26)).alloc (.cells #[.bool s', .slice a' len' cap', .int .i64 e'] 26)) (W' := w2) (nbelow_trans (below_one _ _) hbM) (by simp)
  go_wp2_with fail
  refine bodyPost_ret (v := .tuple #[dyV false none 0 0 0, .int .i64 2]) (by simp [results, Tryd.results5, go_sem, m0, m1, m2]) rfl ⟨rfl, ?_⟩
  exact ((hb2.setCell (by show w.heap.size ≤ w.heap.size + 1 + 1; omega) _).setCell (by show w.heap.size ≤ w.heap.size + 1 + 1; omega) _).setCell (by show w.heap.size ≤ w.heap.size + 1 + 1; omega) _

set_option maxRecDepth 100000 in
set_option maxHeartbeats 4000000 in
theorem dadd_yes (s : Bool) (a : Option Addr) (len cap : Nat) (xs : List Int) (e : Int) (s' : Bool) (a' : Option Addr) (len' cap' : Nat) (ys : List Int) (e' : Int) (w : World) (h : IsW w a len cap xs) (hm : len ≤ 17592186044416) (h' : IsW w a' len' cap' ys) (hm' : len' ≤ 17592186044416) (hT : Tab w) (hr : rightB (val xs) e = true) (hr' : rightB (val ys) e' = true) :
    Calls Tryd.prog 5 #[dyV s a len cap e, dyV s' a' len' cap' e'] w fun r w' => ∃ v', r = .returned (.tuple #[v', .int .i64 (roomE (sumD (formD s (val xs) e) (formD s' (val ys) e')))]) ∧ DyAt w.heap.size w' v' (roomP (sumD (formD s (val xs) e) (formD s' (val ys) e'))) ∧ Below w.heap.size w w' := by
  have hmf : ∀ (fn : Fn) (first cap : Array Value) (w : World), (Instr.makeFunc fn first cap).run Tryd.prog w = .ok (.func fn first cap) w := fun _ _ _ _ => rfl
  have HRB : Hid ((rightB (val xs) e && rightB (val ys) e') = true) := by rw [Hid, hr, hr']; rfl
  have HR1 : Hid (rightB (val xs) e = true) := hr
  have HR2 : Hid (rightB (val ys) e' = true) := hr'
  clear hr hr'
  go_enter Tryd.func5, Tryd.ntmps5
  go_wp2_with fail
  have hb0 : Below w.heap.size w ((((w.alloc (.cells #[.bool s, .slice a len cap, .int .i64 e] 26)).alloc (.cells #[.bool s', .slice a' len' cap', .int .i64 e'] 26)).alloc (.cells #[.bool false, .slice none 0 0, .int .i64 0] 26)).alloc (.cells #[.bool s, .slice a len cap, .int .i64 e, .bool s', .slice a' len' cap', .int .i64 e'] 26)) := by repeat (first | exact Below.refl _ _ | refine Below.alloc ?_ (by simp; try omega) _)
  refine Calls.mono (made_Add w.heap.size (w.heap.size + 1) 0 (sumD (formD s (val xs) e) (formD s' (val ys) e')) _ _ (fun W hW => HRB.out ▸ right2_calls (w.heap.size + 1 + 1 + 1) s a len cap xs e s' a' len' cap' ys e' W (h.keep (nbelow_trans hb0 hW)) hm (h'.keep (nbelow_trans hb0 hW)) hm' (dcarry_cell hW (by go_simp)) (dcarry_cell hW (by go_simp)) (dcarry_cell hW (by go_simp)) (dcarry_cell hW (by go_simp)) (dcarry_cell hW (by go_simp)) (dcarry_cell hW (by go_simp)))
    (fun W hW => Calls.mono (add1_calls w.heap.size (w.heap.size + 1) s a len cap xs e s' a' len' cap' ys e' W (h.keep (nbelow_trans hb0 hW)) hm (h'.keep (nbelow_trans hb0 hW)) hm' (hT.kept (nbelow_trans hb0 hW)) HR1.out HR2.out (dcarry_cell hW (by go_simp)) (dcarry_cell hW (by go_simp)) (dcarry_cell hW (by go_simp)) (dcarry_cell hW (by go_simp)) (dcarry_cell hW (by go_simp)) (dcarry_cell hW (by go_simp))) (by
      rintro r w5 ⟨v, rfl, hN, hb5⟩
      exact ⟨v, rfl, hN.low (Nat.zero_le _), hb5⟩))) ?_
  rintro r w2 ⟨v', rfl, ⟨a2, n2, c2, rfl, HN2, hn2, hO2⟩, hbM⟩
  have hb2 := nbelow_trans hb0 hbM
  obtain ⟨m0, m1, m2, f0, f1, f2⟩ := zero_dy (r := w.heap.size + 1 + 1) (w := (w.alloc (.cells #[.bool s, .slice a len cap, .int .i64 e] 26)).alloc (.cells #[.bool s', .slice a' len' cap', .int .i64 e'] 26)) (W' := w2) (nbelow_trans (below_one _ _) hbM) (by simp)
  go_wp2_with fail
  refine bodyPost_ret (v := .tuple #[dyV (roomP (sumD (formD s (val xs) e) (formD s' (val ys) e'))).1 a2 n2 c2 (roomP (sumD (formD s (val xs) e) (formD s' (val ys) e'))).2.2, .int .i64 (roomE (sumD (formD s (val xs) e) (formD s' (val ys) e')))]) (by simp [results, Tryd.results5, go_sem, m0, m1, m2]) rfl ⟨_, rfl, ⟨a2, n2, c2, rfl, HN2, hn2, (((hO2.far _ _ (by show w.heap.size + 1 + 1 < _; simp)).far _ _ (by show w.heap.size + 1 + 1 < _; simp)).far _ _ (by show w.heap.size + 1 + 1 < _; simp)).low (by simp; omega)⟩, ?_⟩
  exact ((hb2.setCell (by show w.heap.size ≤ w.heap.size + 1 + 1; omega) _).setCell (by show w.heap.size ≤ w.heap.size + 1 + 1; omega) _).setCell (by show w.heap.size ≤ w.heap.size + 1 + 1; omega) _
end Go.Proofs.YtmibejihmdkgaaaDoor
