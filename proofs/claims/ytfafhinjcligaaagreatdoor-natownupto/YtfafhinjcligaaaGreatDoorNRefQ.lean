/- The walk of the document's Quotient. -/
import Derived.Test.YtfafhinjcligaaaGreatDoorNRefD
import Derived.Test.YtfafhinjcligaaaGreatDoorNDiv1
namespace Go.Proofs.YtfafhinjcligaaaGreatDoor
open Go.RowKit

set_option maxRecDepth 100000 in
set_option maxHeartbeats 2000000 in
theorem nQuotient_calls (a a' : Option Addr) (len cap len' cap' : Nat) (xs ys : List Int) (w : World) (h : IsW w a len cap xs) (h' : IsW w a' len' cap' ys) (hm : len ≤ 17592186042000) (hm' : len' ≤ 17592186042000) :
    Calls Tryz.prog 50 #[.slice a len cap, .slice a' len' cap'] w fun e w' => ∃ v v', e = .returned (.tuple #[v, v', .int .i64 (divE (val xs) (val ys))]) ∧ NatAt w.heap.size w' v (divQ (val xs) (val ys)) ∧ NatAt w.heap.size w' v' (divM (val xs) (val ys)) ∧ Below w.heap.size w w' := by
  have G1 : Hid _ := nGreat_calls a len cap xs w h (by omega)
  have G2 : Hid _ := nGreat_calls a' len' cap' ys w h' (by omega)
  cases hg : greatB (val xs) with
  | true =>
    rw [show decide (1024 < (wordsOf (val xs)).length) = true from hg] at G1
    have e0 : Hid _ := div_yes (u := val xs) (v := val ys) (by rw [hg]; rfl)
    clear hg
    go_enter Tryz.func50, Tryz.ntmps50
    go_wp2_with fail
    refine Calls.mono G1.out ?_
    rintro e w ⟨rfl, rfl⟩
    go_wp2_with fail
    go_ret3
    rw [e0.out.1, e0.out.2.1, e0.out.2.2]
    exact ⟨_, _, rfl, natAt_nil _ _, natAt_nil _ _, Below.refl _ _⟩
  | false =>
    rw [show decide (1024 < (wordsOf (val xs)).length) = false from hg] at G1
    cases hg' : greatB (val ys) with
    | true =>
      rw [show decide (1024 < (wordsOf (val ys)).length) = true from hg'] at G2
      have e0 : Hid _ := div_yes (u := val xs) (v := val ys) (by rw [hg']; simp)
      clear hg hg'
      go_enter Tryz.func50, Tryz.ntmps50
      go_wp2_with fail
      refine Calls.mono G1.out ?_
      rintro e w ⟨rfl, rfl⟩
      go_wp2_with fail
      refine Calls.mono G2.out ?_
      rintro e w ⟨rfl, rfl⟩
      go_wp2_with fail
      go_ret3
      rw [e0.out.1, e0.out.2.1, e0.out.2.2]
      exact ⟨_, _, rfl, natAt_nil _ _, natAt_nil _ _, Below.refl _ _⟩
    | false =>
      rw [show decide (1024 < (wordsOf (val ys)).length) = false from hg'] at G2
      have hor : (greatB (val xs) || greatB (val ys)) = false := by rw [hg, hg']; rfl
      have HOR : Hid _ := hor
      have HG : Hid (blen (val xs) ≤ 65536) := (great_no2 hg).1
      have hbv := (great_no2 hg').1
      have L1 : Hid _ := nLen_calls a' len' cap' ys w h' (by omega)
      by_cases hv : val ys = 0
      · have e0 : Hid _ := div_zero HOR.out hv
        rw [hv, blen_zero] at L1
        clear hg hg' hor hv hbv
        go_enter Tryz.func50, Tryz.ntmps50
        go_wp2_with fail
        refine Calls.mono G1.out ?_
        rintro e w ⟨rfl, rfl⟩
        go_wp2_with fail
        refine Calls.mono G2.out ?_
        rintro e w ⟨rfl, rfl⟩
        go_wp2_with fail
        refine Calls.mono L1.out ?_
        rintro e w1 ⟨rfl, hb1⟩
        go_wp2_with fail
        go_ret3
        rw [e0.out.1, e0.out.2.1, e0.out.2.2]
        exact ⟨_, _, rfl, natAt_nil _ _, natAt_nil _ _, hb1⟩
      · have e0 : Hid _ := div_no HOR.out hv
        have HV : Hid (val ys ≠ 0) := hv
        have hb0 : 0 < blen (val ys) := by
          rcases Nat.eq_zero_or_pos (blen (val ys)) with q | q
          · exact absurd ((blen_nil _).1 q) hv
          · exact q
        generalize blen (val ys) = bv at L1 hb0 hbv
        clear hg hg' hor hv
        go_enter Tryz.func50, Tryz.ntmps50
        go_wp2_with fail
        refine Calls.mono G1.out ?_
        rintro e w ⟨rfl, rfl⟩
        go_wp2_with fail
        refine Calls.mono G2.out ?_
        rintro e w ⟨rfl, rfl⟩
        go_wp2_with fail
        refine Calls.mono L1.out ?_
        rintro e w1 ⟨rfl, hb1⟩
        have d0 : ((bv : Int) == 0) = false := by simp; omega
        go_wp2_with fail
        refine Calls.mono (nDiv_calls a a' len cap len' cap' xs ys w1 (h.keep hb1) (h'.keep hb1) hm hm' HG.out HV.out) ?_
        rintro e w2 ⟨v, v', rfl, hA, hB, hb2⟩
        have HA : Hid _ := And.intro (hA.low hb1.size) (hB.low hb1.size)
        clear hA hB G1 G2 L1
        go_wp2_with fail
        go_ret3
        rw [e0.out.1, e0.out.2.1, e0.out.2.2]
        exact ⟨v, v', rfl, HA.out.1, HA.out.2, nbelow_trans hb1 hb2⟩
end Go.Proofs.YtfafhinjcligaaaGreatDoor
