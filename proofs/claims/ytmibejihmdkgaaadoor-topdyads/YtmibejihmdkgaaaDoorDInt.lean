/- The walks of Int, Check, Zero. -/
import Derived.Test.YtmibejihmdkgaaaDoorDCut2
namespace Go.Proofs.YtmibejihmdkgaaaDoor
open Go.RowKit

def intD (i : Int) : Bool × Nat × Int := formD (decide (i < 0)) i.natAbs 0

set_option maxHeartbeats 2000000 in
theorem dzero_calls (s : Bool) (a : Option Addr) (len cap : Nat) (xs : List Int) (e : Int) (w : World) (h : IsW w a len cap xs) (hm : len ≤ 17592186044416) (hT : Tab w) :
    Calls Tryd.prog 36 #[dyV s a len cap e] w fun r w' => r = .returned (.bool (rightB (val xs) e && decide (val xs = 0))) ∧ Below w.heap.size w w' := by
  have hb0 : Below w.heap.size w ((w.alloc (.cells #[.bool s, .slice a len cap, .int .i64 e] 26)).alloc (.cells #[.bool s, .slice a len cap, .int .i64 e] 26)) := nbelow_trans (below_one _ _) (below_one _ _)
  have RC : Hid _ := right1_calls (w.heap.size + 1) s a len cap xs e _ (h.keep hb0) hm (by go_simp) (by go_simp) (by go_simp)
  cases hR : rightB (val xs) e with
  | true =>
    have HCG : Hid (canG s (val xs) e = formD s (val xs) e) := canG_no (rightB_yes hR).1
    rw [hR] at RC
    clear hR
    go_enter Tryd.func36, Tryd.ntmps36
    go_wp2_with fail
    refine Calls.mono RC.out ?_
    rintro r w1 ⟨rfl, hb1⟩
    have hb01 := nbelow_trans hb0 hb1
    have k0 : w1.cell? ⟨w.heap.size, 0, none⟩ = some (.bool s) := dcarry_cell hb1 (by go_simp)
    have k1 : w1.cell? ⟨w.heap.size, 1, none⟩ = some (.slice a len cap) := dcarry_cell hb1 (by go_simp)
    have k2 : w1.cell? ⟨w.heap.size, 2, none⟩ = some (.int .i64 e) := dcarry_cell hb1 (by go_simp)
    go_wp2_with fail
    refine Calls.mono (canonical_calls s a len cap xs e w1 (h.keep hb01) hm (hT.kept hb01)) ?_
    rintro r w2 ⟨a2, n2, c2, e2, rfl, HE, HN2, HZ2, hn2, hO2, hb2⟩
    rw [HCG.out] at HN2
    go_wp2_with fail
    refine Calls.mono (zero_calls _ _ _ _ _ _ _) ?_
    rintro r w3 ⟨rfl, rfl⟩
    go_wp2_with fail
    go_ret
    refine ⟨nret_bool ?_, nbelow_trans (nbelow_trans hb01 hb2) (below_one _ _)⟩
    have e1 : ((n2 : Int) == 0) = decide (val xs = 0) := by
      rw [Bool.eq_iff_iff]
      simp only [beq_iff_eq, decide_eq_true_eq]
      rw [HN2.out, Int.natCast_eq_zero, List.length_eq_zero_iff, words_nil]
      by_cases h0 : val xs = 0
      · rw [h0, form_zero]
      · rw [form_pos s h0]
        constructor
        · intro q
          have := (odd_part h0).1
          simp only at q
          rw [q] at this; omega
        · intro q; exact absurd q h0
    rw [← e1]; rfl
  | false =>
    rw [hR] at RC
    clear hR
    go_enter Tryd.func36, Tryd.ntmps36
    go_wp2_with fail
    refine Calls.mono RC.out ?_
    rintro r w1 ⟨rfl, hb1⟩
    go_wp2_with fail
    go_ret
    exact ⟨rfl, nbelow_trans hb0 hb1⟩
end Go.Proofs.YtmibejihmdkgaaaDoor
