/- The walk of right, of one number and of two. -/
import Derived.Test.YticjhheceoeilaaDoorDTold
import Derived.LoopN
namespace Go.Proofs.YticjhheceoeilaaDoor
open Go.RowKit

theorem rightB_great {m : Nat} {e : Int} (h : greatB m = true) : rightB m e = false := by unfold rightB; rw [h]; rfl
theorem rightB_fit {m : Nat} {e : Int} (h : greatB m = false) : rightB m e = inB e := by unfold rightB; rw [h]; rfl

set_option maxRecDepth 100000 in
set_option maxHeartbeats 2000000 in
theorem right1_calls (b : Nat) (s : Bool) (a : Option Addr) (len cap : Nat) (xs : List Int) (e : Int) (w : World) (h : IsW w a len cap xs) (hm : len ≤ 17592186044416)
    (k0 : w.cell? ⟨b, 0, none⟩ = some (.bool s)) (k1 : w.cell? ⟨b, 1, none⟩ = some (.slice a len cap)) (k2 : w.cell? ⟨b, 2, none⟩ = some (.int .i64 e)) :
    Calls Tryd.prog 28 #[.slice (some ⟨b, 0, none⟩) 1 1] w fun r w' => r = .returned (.bool (rightB (val xs) e)) ∧ Below w.heap.size w w' := by
  have hb0 : Below w.heap.size w (w.alloc (.cells #[.bool s, .slice a len cap, .int .i64 e] 25)) := below_one _ _
  have LC : Hid _ := len_calls a len cap xs _ (h.keep hb0) hm
  cases hg : greatB (val xs) with
  | true =>
    have HR : Hid (rightB (val xs) e = false) := rightB_great hg
    have HG : Hid (greatB (val xs) = true) := hg
    clear hg
    go_enter Tryd.func28, Tryd.ntmps28
    go_wp2_with fail
    refine wp_loop_rounds 2 ?_
    rw [rounds_succ]
    go_wp2_with fail
    refine Calls.mono LC.out ?_
    rintro r w1 ⟨hr, _, hb1⟩
    obtain rfl := hr HG.out
    go_wp2_with fail
    go_ret
    exact ⟨nret_bool HR.out.symm, nbelow_trans hb0 hb1⟩
  | false =>
    have HR : Hid (rightB (val xs) e = inB e) := rightB_fit hg
    have HG : Hid (greatB (val xs) = false) := hg
    clear hg
    go_enter Tryd.func28, Tryd.ntmps28
    go_wp2_with fail
    refine wp_loop_rounds 2 ?_
    rw [rounds_succ]
    go_wp2_with fail
    refine Calls.mono LC.out ?_
    rintro r w1 ⟨_, hr, hb1⟩
    obtain rfl := hr HG.out
    have m2 : w1.cell? ⟨w.heap.size, 2, none⟩ = some (.int .i64 e) := dcarry_cell hb1 (by go_simp)
    clear hr
    go_wp2_with fail
    refine Calls.mono (inBounds_calls e _) ?_
    rintro r w1 ⟨rfl, rfl⟩
    rw [← HR.out]
    cases hR : rightB (val xs) e with
    | false =>
      go_wp2_with fail
      go_ret
      exact ⟨nret_bool hR.symm, nbelow_trans hb0 hb1⟩
    | true =>
      go_wp2_with fail
      rw [rounds_succ]
      go_wp2_with fail
      go_ret
      exact ⟨nret_bool hR.symm, nbelow_trans hb0 hb1⟩
set_option maxRecDepth 100000 in
set_option maxHeartbeats 2000000 in
theorem right2_calls (b : Nat) (s : Bool) (a : Option Addr) (len cap : Nat) (xs : List Int) (e : Int) (s' : Bool) (a' : Option Addr) (len' cap' : Nat) (ys : List Int) (e' : Int) (w : World) (h : IsW w a len cap xs) (hm : len ≤ 17592186044416) (h' : IsW w a' len' cap' ys) (hm' : len' ≤ 17592186044416)
    (k0 : w.cell? ⟨b, 0, none⟩ = some (.bool s)) (k1 : w.cell? ⟨b, 1, none⟩ = some (.slice a len cap)) (k2 : w.cell? ⟨b, 2, none⟩ = some (.int .i64 e))
    (l0 : w.cell? ⟨b, 3, none⟩ = some (.bool s')) (l1 : w.cell? ⟨b, 4, none⟩ = some (.slice a' len' cap')) (l2 : w.cell? ⟨b, 5, none⟩ = some (.int .i64 e')) :
    Calls Tryd.prog 28 #[.slice (some ⟨b, 0, none⟩) 2 2] w fun r w' => r = .returned (.bool (rightB (val xs) e && rightB (val ys) e')) ∧ Below w.heap.size w w' := by
  have hb0 : Below w.heap.size w (w.alloc (.cells #[.bool s, .slice a len cap, .int .i64 e] 25)) := below_one _ _
  have LC : Hid _ := len_calls a len cap xs _ (h.keep hb0) hm
  cases hg : greatB (val xs) with
  | true =>
    have HR : Hid (rightB (val xs) e = false) := rightB_great hg
    have HG : Hid (greatB (val xs) = true) := hg
    clear hg
    go_enter Tryd.func28, Tryd.ntmps28
    go_wp2_with fail
    refine wp_loop_rounds 3 ?_
    rw [rounds_succ]
    go_wp2_with fail
    refine Calls.mono LC.out ?_
    rintro r w1 ⟨hr, _, hb1⟩
    obtain rfl := hr HG.out
    go_wp2_with fail
    go_ret
    exact ⟨nret_bool (by rw [HR.out]; rfl), nbelow_trans hb0 hb1⟩
  | false =>
    have HR : Hid (rightB (val xs) e = inB e) := rightB_fit hg
    have HG : Hid (greatB (val xs) = false) := hg
    clear hg
    go_enter Tryd.func28, Tryd.ntmps28
    go_wp2_with fail
    refine wp_loop_rounds 3 ?_
    rw [rounds_succ]
    go_wp2_with fail
    refine Calls.mono LC.out ?_
    rintro r w1 ⟨_, hr, hb1⟩
    obtain rfl := hr HG.out
    have m2 : w1.cell? ⟨w.heap.size, 2, none⟩ = some (.int .i64 e) := dcarry_cell hb1 (by go_simp)
    have hb01 := nbelow_trans hb0 hb1
    clear hr
    go_wp2_with fail
    refine Calls.mono (inBounds_calls e _) ?_
    rintro r w1 ⟨rfl, rfl⟩
    rw [← HR.out]
    cases hR : rightB (val xs) e with
    | false =>
      go_wp2_with fail
      go_ret
      exact ⟨nret_bool (by rw [hR]; rfl), hb01⟩
    | true =>
      have HRT : Hid (rightB (val xs) e = true) := hR
      have hb2 : Below w1.heap.size w1 (w1.alloc (.cells #[.bool s', .slice a' len' cap', .int .i64 e'] 25)) := below_one _ _
      have LC2 : Hid _ := len_calls a' len' cap' ys _ (h'.keep (nbelow_trans hb01 hb2)) hm'
      have l0' := dcarry_cell hb01 l0
      have l1' := dcarry_cell hb01 l1
      have l2' := dcarry_cell hb01 l2
      clear hb1 m2 k0 k1 k2 l0 l1 l2 hb0 HR hR LC
      go_wp2_with fail
      rw [rounds_succ]
      go_wp2_with fail
      refine Calls.mono LC2.out ?_
      rintro r w2 ⟨hr1, hr2, hb3⟩
      cases hg : greatB (val ys) with
      | true =>
        have HR2 : Hid (rightB (val ys) e' = false) := rightB_great hg
        obtain rfl := hr1 hg
        clear hr1 hr2 hg
        go_wp2_with fail
        go_ret
        exact ⟨nret_bool (by rw [HR2.out]; simp), nbelow_trans (nbelow_trans hb01 hb2) hb3⟩
      | false =>
        have HR2 : Hid (rightB (val ys) e' = inB e') := rightB_fit hg
        obtain rfl := hr2 hg
        have m2 : w2.cell? ⟨w1.heap.size, 2, none⟩ = some (.int .i64 e') := dcarry_cell hb3 (by go_simp)
        clear hr1 hr2 hg
        go_wp2_with fail
        refine Calls.mono (inBounds_calls e' _) ?_
        rintro r w2 ⟨rfl, rfl⟩
        rw [← HR2.out]
        cases hR : rightB (val ys) e' with
        | false =>
          go_wp2_with fail
          go_ret
          exact ⟨nret_bool (by rw [HRT.out, hR]; rfl), nbelow_trans (nbelow_trans hb01 hb2) hb3⟩
        | true =>
          go_wp2_with fail
          rw [rounds_succ]
          go_wp2_with fail
          go_ret
          exact ⟨nret_bool (by rw [HRT.out, hR]; rfl), nbelow_trans (nbelow_trans hb01 hb2) hb3⟩
end Go.Proofs.YticjhheceoeilaaDoor
