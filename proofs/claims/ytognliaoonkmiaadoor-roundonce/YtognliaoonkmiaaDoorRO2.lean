/- How far two numbers lie apart, as RoundOnce reckons it. -/
import Derived.Test.YtognliaoonkmiaaDoorRO1
import Derived.Test.YtognliaoonkmiaaDoorRND
import Derived.Test.YtognliaoonkmiaaDoorRDE
import Derived.Test.YtognliaoonkmiaaDoorRDG
namespace Go.Proofs.YtognliaoonkmiaaDoor
open Go.RowKit

set_option maxRecDepth 100000 in
set_option maxHeartbeats 4000000 in
theorem far_calls (t : Bool) (b : Option Addr) (bl bc : Nat) (ys : List Int) (f : Int) (s : Bool) (a : Option Addr) (len cap : Nat) (xs : List Int) (e : Int) (w : World) (h' : IsW w b bl bc ys) (hm' : bl ≤ 17592186044000) (h : IsW w a len cap xs) (hm : len ≤ 17592186044000) (hf : -5000000 ≤ f ∧ f ≤ 5000000) (he : -5000000 ≤ e ∧ e ≤ 5000000) (hby : blen (val ys) ≤ 5000000) (hbx : blen (val xs) ≤ 5000000) :
    Calls Tryd.prog 8 #[dyV t b bl bc f, dyV s a len cap e] w fun r w' => ∃ v', r = .returned v' ∧ DyQ w.heap.size w' v' (absD (sumD (formD t (val ys) f) (formD (!s) (val xs) e))) ∧ Below w.heap.size w w' := by
  have bA : Below w.heap.size w (((w.alloc (.cells #[.bool t, .slice b bl bc, .int .i64 f] 26)).alloc (.cells #[.bool s, .slice a len cap, .int .i64 e] 26)).alloc (.cells #[.bool false, .slice none 0 0, .int .i64 0] 26)) := nbelow_trans (nbelow_trans (below_one _ _) (below_one _ _)) (below_one _ _)
  have HL : Hid _ := fun w' g g' => qLess_calls t b bl bc ys f s a len cap xs e w' g hm' g' hm hf he hby hbx
  generalize sumD (formD t (val ys) f) (formD (!s) (val xs) e) = S at *
  replace h := h.keep bA
  replace h' := h'.keep bA
  have d0 : (((w.alloc (.cells #[.bool t, .slice b bl bc, .int .i64 f] 26)).alloc (.cells #[.bool s, .slice a len cap, .int .i64 e] 26)).alloc (.cells #[.bool false, .slice none 0 0, .int .i64 0] 26)).cell? ⟨w.heap.size, 0, none⟩ = some (.bool t) := by go_simp
  have d1 : (((w.alloc (.cells #[.bool t, .slice b bl bc, .int .i64 f] 26)).alloc (.cells #[.bool s, .slice a len cap, .int .i64 e] 26)).alloc (.cells #[.bool false, .slice none 0 0, .int .i64 0] 26)).cell? ⟨w.heap.size, 1, none⟩ = some (.slice b bl bc) := by go_simp
  have d2 : (((w.alloc (.cells #[.bool t, .slice b bl bc, .int .i64 f] 26)).alloc (.cells #[.bool s, .slice a len cap, .int .i64 e] 26)).alloc (.cells #[.bool false, .slice none 0 0, .int .i64 0] 26)).cell? ⟨w.heap.size, 2, none⟩ = some (.int .i64 f) := by go_simp
  have c0 : (((w.alloc (.cells #[.bool t, .slice b bl bc, .int .i64 f] 26)).alloc (.cells #[.bool s, .slice a len cap, .int .i64 e] 26)).alloc (.cells #[.bool false, .slice none 0 0, .int .i64 0] 26)).cell? ⟨w.heap.size + 1, 0, none⟩ = some (.bool s) := by go_simp
  have c1 : (((w.alloc (.cells #[.bool t, .slice b bl bc, .int .i64 f] 26)).alloc (.cells #[.bool s, .slice a len cap, .int .i64 e] 26)).alloc (.cells #[.bool false, .slice none 0 0, .int .i64 0] 26)).cell? ⟨w.heap.size + 1, 1, none⟩ = some (.slice a len cap) := by go_simp
  have c2 : (((w.alloc (.cells #[.bool t, .slice b bl bc, .int .i64 f] 26)).alloc (.cells #[.bool s, .slice a len cap, .int .i64 e] 26)).alloc (.cells #[.bool false, .slice none 0 0, .int .i64 0] 26)).cell? ⟨w.heap.size + 1, 2, none⟩ = some (.int .i64 e) := by go_simp
  have z0 : (((w.alloc (.cells #[.bool t, .slice b bl bc, .int .i64 f] 26)).alloc (.cells #[.bool s, .slice a len cap, .int .i64 e] 26)).alloc (.cells #[.bool false, .slice none 0 0, .int .i64 0] 26)).cell? ⟨w.heap.size + 1 + 1, 0, none⟩ = some (.bool false) := by go_simp
  have z1 : (((w.alloc (.cells #[.bool t, .slice b bl bc, .int .i64 f] 26)).alloc (.cells #[.bool s, .slice a len cap, .int .i64 e] 26)).alloc (.cells #[.bool false, .slice none 0 0, .int .i64 0] 26)).cell? ⟨w.heap.size + 1 + 1, 1, none⟩ = some (.slice none 0 0) := by go_simp
  have z2 : (((w.alloc (.cells #[.bool t, .slice b bl bc, .int .i64 f] 26)).alloc (.cells #[.bool s, .slice a len cap, .int .i64 e] 26)).alloc (.cells #[.bool false, .slice none 0 0, .int .i64 0] 26)).cell? ⟨w.heap.size + 1 + 1, 2, none⟩ = some (.int .i64 0) := by go_simp
  have f0 : (((w.alloc (.cells #[.bool t, .slice b bl bc, .int .i64 f] 26)).alloc (.cells #[.bool s, .slice a len cap, .int .i64 e] 26)).alloc (.cells #[.bool false, .slice none 0 0, .int .i64 0] 26)).frozen? ⟨w.heap.size + 1 + 1, 0, none⟩ = false := by go_simp
  have f1 : (((w.alloc (.cells #[.bool t, .slice b bl bc, .int .i64 f] 26)).alloc (.cells #[.bool s, .slice a len cap, .int .i64 e] 26)).alloc (.cells #[.bool false, .slice none 0 0, .int .i64 0] 26)).frozen? ⟨w.heap.size + 1 + 1, 1, none⟩ = false := by go_simp
  have f2 : (((w.alloc (.cells #[.bool t, .slice b bl bc, .int .i64 f] 26)).alloc (.cells #[.bool s, .slice a len cap, .int .i64 e] 26)).alloc (.cells #[.bool false, .slice none 0 0, .int .i64 0] 26)).frozen? ⟨w.heap.size + 1 + 1, 2, none⟩ = false := by go_simp
  have hs : Hid (w.heap.size + 1 + 1 + 1 ≤ (((w.alloc (.cells #[.bool t, .slice b bl bc, .int .i64 f] 26)).alloc (.cells #[.bool s, .slice a len cap, .int .i64 e] 26)).alloc (.cells #[.bool false, .slice none 0 0, .int .i64 0] 26)).heap.size) := by show w.heap.size + 1 + 1 + 1 ≤ _; simp
  clear hm hm' hf he hby hbx
  go_enter Tryd.func8, Tryd.ntmps8
  go_wp2_with fail
  generalize (((w.alloc (.cells #[.bool t, .slice b bl bc, .int .i64 f] 26)).alloc (.cells #[.bool s, .slice a len cap, .int .i64 e] 26)).alloc (.cells #[.bool false, .slice none 0 0, .int .i64 0] 26)) = w0 at *
  refine Calls.mono (HL.out _ h' h) ?_
  rintro r w1 ⟨_, rfl, ⟨a1, n1, k1, rfl, HN, hO⟩, bN⟩
  have hO' := hO.low hs.out
  clear hO
  replace f0 := dcarry_frozen bN z0 f0
  replace f1 := dcarry_frozen bN z1 f1
  replace f2 := dcarry_frozen bN z2 f2
  replace z0 := dcarry_cell bN z0
  replace z1 := dcarry_cell bN z1
  replace z2 := dcarry_cell bN z2
  replace bA := nbelow_trans bA bN
  clear bN d0 d1 d2 c0 c1 c2 h h' HL
  have bB := below_one w1 (.cells #[.bool false, .slice a1 n1 k1, .int .i64 S.2.2] 26)
  replace f0 := dcarry_frozen bB z0 f0
  replace f1 := dcarry_frozen bB z1 f1
  replace f2 := dcarry_frozen bB z2 f2
  replace z0 := dcarry_cell bB z0
  replace z1 := dcarry_cell bB z1
  replace z2 := dcarry_cell bB z2
  replace bA := nbelow_trans bA bB
  replace hO' := hO'.keep bB
  clear bB
  go_wp2_with fail
  refine bodyPost_ret (v := dyV false a1 n1 k1 S.2.2) (by simp [results, Tryd.results8, go_sem, z0, z1, z2]) rfl ⟨_, rfl, ⟨a1, n1, k1, rfl, HN, ?_⟩, ?_⟩
  · exact (((hO'.far _ _ (by simp)).far _ _ (by simp)).far _ _ (by simp)).low (by omega)
  · repeat (first | with_reducible exact bA | refine Below.setCell ?_ (by simp; omega) _)
end Go.Proofs.YtognliaoonkmiaaDoor
