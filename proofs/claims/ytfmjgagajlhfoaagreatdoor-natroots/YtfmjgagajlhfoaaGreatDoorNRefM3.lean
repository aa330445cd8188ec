/- The walk of the document's Product. -/
import Derived.Test.YtfmjgagajlhfoaaGreatDoorNRefM2
namespace Go.Proofs.YtfmjgagajlhfoaaGreatDoor
open Go.RowKit

theorem blen_prod (u v : Nat) (hu : 0 < blen u) (hv : 0 < blen v) : blen u + blen v ≤ blen (u * v) + 1 := by
  have a1 : ¬ u < 2 ^ (blen u - 1) := fun q => by have := (blen_le u (blen u - 1)).2 q; omega
  have a2 : ¬ v < 2 ^ (blen v - 1) := fun q => by have := (blen_le v (blen v - 1)).2 q; omega
  have h3 : 2 ^ (blen u - 1) * 2 ^ (blen v - 1) ≤ u * v := Nat.mul_le_mul (by omega) (by omega)
  rw [← Nat.pow_add] at h3
  rcases Nat.lt_or_ge (blen (u * v)) (blen u - 1 + (blen v - 1) + 1) with q | q
  · have h4 := (blen_le (u * v) (blen u - 1 + (blen v - 1))).1 (by omega)
    exact absurd h4 (by omega)
  · omega
theorem mul_words_le (u v k l : Nat) (hu : (wordsOf u).length ≤ k) (hv : (wordsOf v).length ≤ l) : (wordsOf (u * v)).length ≤ k + l := by
  rw [words_len, Nat.pow_add]
  exact Nat.mul_lt_mul'' ((words_len k u).1 hu) ((words_len l v).1 hv)
theorem great_no2 {n : Nat} (h : greatB n = false) : blen n ≤ 65536 ∧ (wordsOf n).length ≤ 1024 := by
  refine ⟨?_, by simpa [greatB] using h⟩
  rcases Nat.lt_or_ge 65536 (blen n) with q | q
  · rw [(great_iff n).2 q] at h; cases h
  · exact q
theorem mulR_long {u v : Nat} (h : (greatB u || greatB v) = false) (hb : 65537 < blen u + blen v) : mulR u v = (0, 3) := by
  have h1 := great_no2 (Bool.or_eq_false_iff.1 h).1
  have h2 := great_no2 (Bool.or_eq_false_iff.1 h).2
  have h3 := blen_prod u v (by omega) (by omega)
  rw [mulR_no h, fitR_yes ((great_iff _).2 (by omega))]

set_option maxRecDepth 100000 in
set_option maxHeartbeats 2000000 in
theorem nProduct_calls (a a' : Option Addr) (len cap len' cap' : Nat) (xs ys : List Int) (w : World) (h : IsW w a len cap xs) (h' : IsW w a' len' cap' ys) (hm : len ≤ 17592186044415) (hm' : len' ≤ 17592186044415) :
    Calls Tryz.prog 21 #[.slice a len cap, .slice a' len' cap'] w fun e w' => ∃ v, e = .returned (.tuple #[v, .int .i64 (mulR (val xs) (val ys)).2]) ∧ NatAt w.heap.size w' v (mulR (val xs) (val ys)).1 ∧ Below w.heap.size w w' := by
  have G1 : Hid _ := nGreat_calls a len cap xs w h (by omega)
  have G2 : Hid _ := nGreat_calls a' len' cap' ys w h' (by omega)
  cases hg : greatB (val xs) with
  | true =>
    rw [show decide (1024 < (wordsOf (val xs)).length) = true from hg] at G1
    have e0 : Hid _ := mulR_yes (u := val xs) (v := val ys) (by rw [hg]; rfl)
    clear hg
    go_enter Tryz.func21, Tryz.ntmps21
    go_wp2_with fail
    refine Calls.mono G1.out ?_
    rintro e w ⟨rfl, rfl⟩
    go_wp2_with fail
    go_ret2
    rw [e0.out]
    exact ⟨_, rfl, natAt_nil _ _, Below.refl _ _⟩
  | false =>
    rw [show decide (1024 < (wordsOf (val xs)).length) = false from hg] at G1
    cases hg' : greatB (val ys) with
    | true =>
      rw [show decide (1024 < (wordsOf (val ys)).length) = true from hg'] at G2
      have e0 : Hid _ := mulR_yes (u := val xs) (v := val ys) (by rw [hg']; simp)
      clear hg hg'
      go_enter Tryz.func21, Tryz.ntmps21
      go_wp2_with fail
      refine Calls.mono G1.out ?_
      rintro e w ⟨rfl, rfl⟩
      go_wp2_with fail
      refine Calls.mono G2.out ?_
      rintro e w ⟨rfl, rfl⟩
      go_wp2_with fail
      go_ret2
      rw [e0.out]
      exact ⟨_, rfl, natAt_nil _ _, Below.refl _ _⟩
    | false =>
      rw [show decide (1024 < (wordsOf (val ys)).length) = false from hg'] at G2
      have hor : (greatB (val xs) || greatB (val ys)) = false := by rw [hg, hg']; rfl
      have HOR : Hid _ := hor
      have g1 := great_no2 hg
      have g2 := great_no2 hg'
      have L1 : Hid _ := nLen_calls a len cap xs w h (by omega)
      obtain ⟨bu, hbu⟩ : ∃ b, b = blen (val xs) := ⟨_, rfl⟩
      obtain ⟨bv, hbv⟩ : ∃ b, b = blen (val ys) := ⟨_, rfl⟩
      have BU : Hid (bu = blen (val xs) ∧ bv = blen (val ys)) := ⟨hbu, hbv⟩
      rw [← hbu] at L1 g1
      rw [← hbv] at g2
      have g3 : bu ≤ 65536 ∧ bv ≤ 65536 := ⟨g1.1, g2.1⟩
      have HW : Hid ((wordsOf (val xs)).length ≤ 1024 ∧ (wordsOf (val ys)).length ≤ 1024) := ⟨g1.2, g2.2⟩
      clear hg hg' hor hbu hbv g1 g2
      by_cases hl : 65537 < bu + bv
      · have HL : Hid (mulR (val xs) (val ys) = (0, 3)) := mulR_long HOR.out (by rw [← BU.out.1, ← BU.out.2]; exact hl)
        go_enter Tryz.func21, Tryz.ntmps21
        go_wp2_with fail
        refine Calls.mono G1.out ?_
        rintro e w ⟨rfl, rfl⟩
        go_wp2_with fail
        refine Calls.mono G2.out ?_
        rintro e w ⟨rfl, rfl⟩
        go_wp2_with fail
        refine Calls.mono L1.out ?_
        rintro e w1 ⟨rfl, hb1⟩
        go_wp2_with fail
        refine Calls.mono (nLen_calls a' len' cap' ys w1 (h'.keep hb1) (by omega)) ?_
        rw [← BU.out.2]
        rintro e w2 ⟨rfl, hb2⟩
        have hb2 := nbelow_trans hb1 hb2
        clear hb1
        go_wp2_with fail
        refine Calls.mono (nLen_calls a len cap xs w2 (h.keep hb2) (by omega)) ?_
        rw [← BU.out.1]
        rintro e w3 ⟨rfl, hb3⟩
        have hb3 := nbelow_trans hb2 hb3
        clear hb2
        go_wp2_with fail
        refine Calls.mono (nLen_calls a' len' cap' ys w3 (h'.keep hb3) (by omega)) ?_
        rw [← BU.out.2]
        rintro e w4 ⟨rfl, hb4⟩
        have hb4 := nbelow_trans hb3 hb4
        clear hb3
        go_wp2_with fail
        go_ret2
        rw [HL.out]
        exact ⟨_, rfl, natAt_nil _ _, hb4⟩
      · have e0 : Hid _ := mulR_no HOR.out
        go_enter Tryz.func21, Tryz.ntmps21
        go_wp2_with fail
        refine Calls.mono G1.out ?_
        rintro e w ⟨rfl, rfl⟩
        go_wp2_with fail
        refine Calls.mono G2.out ?_
        rintro e w ⟨rfl, rfl⟩
        go_wp2_with fail
        refine Calls.mono L1.out ?_
        rintro e w1 ⟨rfl, hb1⟩
        go_wp2_with fail
        refine Calls.mono (nLen_calls a' len' cap' ys w1 (h'.keep hb1) (by omega)) ?_
        rw [← BU.out.2]
        rintro e w2 ⟨rfl, hb2⟩
        have hb2 := nbelow_trans hb1 hb2
        clear hb1
        go_wp2_with fail
        refine Calls.mono (nMul_calls a a' len cap len' cap' xs ys w2 (h.keep hb2) (h'.keep hb2) (by omega) (by omega) (by have := HW.out; omega)) ?_
        rintro e w3 ⟨ao, cv, rfl, hO, hb3⟩
        obtain ⟨n, hn⟩ : ∃ n, n = (wordsOf (val xs * val ys)).length := ⟨_, rfl⟩
        have hnb : n ≤ 17592186044416 := by
          have hw := HW.out
          have h4 := mul_words_le (val xs) (val ys) 1024 1024 hw.1 hw.2
          omega
        rw [← hn]
        have FC : Hid _ := nFit_calls w2.heap.size ao n cv (val xs * val ys) w3 (hO.ownW (words_U _) hn.symm) hnb
        clear hn hO G1 G2 L1
        go_wp2_with fail
        refine Calls.mono FC.out ?_
        rintro e w3 ⟨v, rfl, hA, rfl⟩
        rw [← e0.out] at hA ⊢
        go_wp2_with fail
        go_ret2
        exact ⟨v, rfl, hA.low hb2.size, nbelow_trans hb2 hb3⟩
end Go.Proofs.YtfmjgagajlhfoaaGreatDoor
