/- The walks of the document's shifts, or why there are none. -/
import Derived.Test.YtkkiicjbkofcjaaDoorNRefR
namespace Go.Proofs.YtkkiicjbkofcjaaDoor
open Go.RowKit

set_option maxRecDepth 100000 in
set_option maxHeartbeats 1000000 in
theorem nLeft_calls (a : Option Addr) (len cap : Nat) (xs : List Int) (i : Int) (w : World) (h : IsW w a len cap xs) (hm : len ≤ 17592186042000) :
    Calls Tryd.prog 32 #[.slice a len cap, .int .i64 i] w fun e w' => ∃ v, e = .returned (.tuple #[v, .int .i64 (shlR (val xs) i).2]) ∧ NatAt w.heap.size w' v (shlR (val xs) i).1 ∧ Below w.heap.size w w' := by
  have G1 : Hid _ := nGreat_calls a len cap xs w h (by omega)
  cases hg : greatB (val xs) with
  | true =>
    rw [show decide (1024 < (wordsOf (val xs)).length) = true from hg] at G1
    have e0 : Hid _ := shlR_great (m := i) hg
    clear hg
    go_enter Tryd.func32, Tryd.ntmps32
    go_wp2_with fail
    refine Calls.mono G1.out ?_
    rintro e w ⟨rfl, rfl⟩
    go_wp2_with fail
    go_ret2
    rw [e0.out]
    exact ⟨_, rfl, natAt_nil _ _, Below.refl _ _⟩
  | false =>
    rw [show decide (1024 < (wordsOf (val xs)).length) = false from hg] at G1
    by_cases hi : i < 0
    · have e0 : Hid _ := shlR_neg hg hi
      clear hg
      go_enter Tryd.func32, Tryd.ntmps32
      go_wp2_with fail
      refine Calls.mono G1.out ?_
      rintro e w ⟨rfl, rfl⟩
      go_wp2_with fail
      go_ret2
      rw [e0.out]
      exact ⟨_, rfl, natAt_nil _ _, Below.refl _ _⟩
    · obtain ⟨j, rfl⟩ := Int.eq_ofNat_of_zero_le (show 0 ≤ i by omega)
      have HG : Hid _ := hg
      have hbl : blen (val xs) ≤ 65536 := (great_not _).1 hg
      have LC : Hid _ := nLen_calls a len cap xs w h (by omega)
      clear hg hi
      by_cases h0 : val xs = 0
      · have e0 : Hid _ := shlR_zero (m := (j : Int)) HG.out (by omega) h0
        rw [(blen_nil _).2 h0] at LC
        clear h0 hbl
        go_enter Tryd.func32, Tryd.ntmps32
        go_wp2_with fail
        refine Calls.mono G1.out ?_
        rintro e w ⟨rfl, rfl⟩
        go_wp2_with fail
        refine Calls.mono LC.out ?_
        rintro e w1 ⟨rfl, hb⟩
        go_wp2_with fail
        go_ret2
        rw [e0.out]
        exact ⟨_, rfl, natAt_nil _ _, hb⟩
      · have hn0 : ((blen (val xs) : Int) == 0) = false := by have := (blen_nil (val xs)).1; simp; omega
        by_cases hc : 65536 - (blen (val xs) : Int) < (j : Int)
        · have e0 : Hid _ := shlR_many HG.out (by omega) h0 hc
          clear h0
          go_enter Tryd.func32, Tryd.ntmps32
          go_wp2_with fail
          refine Calls.mono G1.out ?_
          rintro e w ⟨rfl, rfl⟩
          go_wp2_with fail
          refine Calls.mono LC.out ?_
          rintro e w1 ⟨rfl, hb⟩
          have L2 : Hid _ := nLen_calls a len cap xs w1 (h.keep hb) (by omega)
          go_wp2_with fail
          refine Calls.mono L2.out ?_
          rintro e w2 ⟨rfl, hb2⟩
          go_wp2_with fail
          go_ret2
          rw [e0.out]
          exact ⟨_, rfl, natAt_nil _ _, nbelow_trans hb hb2⟩
        · have e0 : Hid _ := shlR_fit HG.out (show 0 ≤ (j : Int) by omega) h0 (show (j : Int) ≤ 65536 - (blen (val xs) : Int) by omega)
          clear h0
          go_enter Tryd.func32, Tryd.ntmps32
          go_wp2_with fail
          refine Calls.mono G1.out ?_
          rintro e w ⟨rfl, rfl⟩
          go_wp2_with fail
          refine Calls.mono LC.out ?_
          rintro e w1 ⟨rfl, hb⟩
          have L2 : Hid _ := nLen_calls a len cap xs w1 (h.keep hb) (by omega)
          go_wp2_with fail
          refine Calls.mono L2.out ?_
          rintro e w2 ⟨rfl, hb2⟩
          have hb02 := nbelow_trans hb hb2
          have SC : Hid _ := nShl_calls a len cap j xs w2 (h.keep hb02) (by omega) (by omega)
          go_wp2_with fail
          refine Calls.mono SC.out ?_
          rintro e w3 ⟨ao, cv, rfl, hO, hb3⟩
          obtain ⟨n4, hn4⟩ : ∃ n, n = (wordsOf (val xs * 2 ^ j)).length := ⟨_, rfl⟩
          rw [← hn4]
          have HA : Hid (NatAt w2.heap.size w3 (.slice ao n4 cv) (val xs * 2 ^ j)) := natAt_own hO hn4.symm
          clear hn4 hO
          go_wp2_with fail
          go_ret2
          rw [e0.out, Int.toNat_natCast]
          exact ⟨_, rfl, NatAt.low HA.out hb02.size, nbelow_trans hb02 hb3⟩

set_option maxRecDepth 100000 in
set_option maxHeartbeats 1000000 in
theorem nRight_calls (a : Option Addr) (len cap : Nat) (xs : List Int) (i : Int) (w : World) (h : IsW w a len cap xs) (hm : len ≤ 17592186042000) (hi1 : i ≤ 9223372036854775807) :
    Calls Tryd.prog 34 #[.slice a len cap, .int .i64 i] w fun e w' => ∃ v, e = .returned (.tuple #[v, .bool (shrL (val xs) i), .int .i64 (shrE (val xs) i)]) ∧ NatAt w.heap.size w' v (shrQ (val xs) i) ∧ Below w.heap.size w w' := by
  have G1 : Hid _ := nGreat_calls a len cap xs w h (by omega)
  cases hg : greatB (val xs) with
  | true =>
    rw [show decide (1024 < (wordsOf (val xs)).length) = true from hg] at G1
    have e0 : Hid _ := shr_great (m := i) hg
    clear hg
    go_enter Tryd.func34, Tryd.ntmps34
    go_wp2_with fail
    refine Calls.mono G1.out ?_
    rintro e w ⟨rfl, rfl⟩
    go_wp2_with fail
    go_ret3
    rw [e0.out.1, e0.out.2.1, e0.out.2.2]
    exact ⟨_, rfl, natAt_nil _ _, Below.refl _ _⟩
  | false =>
    rw [show decide (1024 < (wordsOf (val xs)).length) = false from hg] at G1
    by_cases hi : i < 0
    · have e0 : Hid _ := shr_neg hg hi
      clear hg
      go_enter Tryd.func34, Tryd.ntmps34
      go_wp2_with fail
      refine Calls.mono G1.out ?_
      rintro e w ⟨rfl, rfl⟩
      go_wp2_with fail
      go_ret3
      rw [e0.out.1, e0.out.2.1, e0.out.2.2]
      exact ⟨_, rfl, natAt_nil _ _, Below.refl _ _⟩
    · obtain ⟨j, rfl⟩ := Int.eq_ofNat_of_zero_le (show 0 ≤ i by omega)
      have e0 : Hid _ := shr_fit (j := j) hg
      have NC : Hid _ := nNorm_calls a len cap xs w h (by omega)
      have hl : (wordsOf (val xs)).length ≤ 1024 := len_of_fit rfl hg
      obtain ⟨n, hn⟩ : ∃ n, n = (wordsOf (val xs)).length := ⟨_, rfl⟩
      rw [← hn] at hl NC
      have HN : Hid _ := hn
      clear hg hi hn
      go_enter Tryd.func34, Tryd.ntmps34
      go_wp2_with fail
      refine Calls.mono G1.out ?_
      rintro e w ⟨rfl, rfl⟩
      go_wp2_with fail
      refine Calls.mono NC.out ?_
      rintro e w1 ⟨ao, cv, rfl, hO, hb⟩
      have SC : Hid _ := nShr_calls ao n cv j (wordsOf (val xs)) w1 (hO.isW' (words_U _) HN.out.symm) (by omega) (by omega)
      rw [val_words] at SC
      clear hO
      go_wp2_with fail
      refine Calls.mono SC.out ?_
      rintro e w2 ⟨v, rfl, hA, hb2⟩
      go_wp2_with fail
      go_ret3
      rw [e0.out.1, e0.out.2.1, e0.out.2.2]
      exact ⟨v, rfl, hA.low hb.size, nbelow_trans hb hb2⟩
end Go.Proofs.YtkkiicjbkofcjaaDoor
