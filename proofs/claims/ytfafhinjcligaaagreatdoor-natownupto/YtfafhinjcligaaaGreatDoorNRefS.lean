/- The walks of the document's sums and differences, or why there are none. -/
import Derived.Test.YtfafhinjcligaaaGreatDoorNSub
import Derived.Test.YtfafhinjcligaaaGreatDoorNProg7
namespace Go.Proofs.YtfafhinjcligaaaGreatDoor
open Go.RowKit

theorem natAt_own {B cv : Nat} {w : World} {a : Option Addr} {r n : Nat} (h : Own B w a cv (wordsOf r)) (hn : (wordsOf r).length = n) : NatAt B w (.slice a n cv) r := ⟨a, n, cv, rfl, hn.symm, h.ownW (words_U _) hn⟩

set_option maxHeartbeats 1000000 in
theorem nFit_calls (B : Nat) (a : Option Addr) (n c v : Nat) (w : World) (h : OwnW B w a n c (wordsOf v)) (hm : n ≤ 17592186044416) :
    Calls Tryz.prog 61 #[.slice a n c] w fun e w' => ∃ r, e = .returned (.tuple #[r, .int .i64 (fitR v).2]) ∧ NatAt B w r (fitR v).1 ∧ w' = w := by
  have HN : Hid (n = (wordsOf v).length) := h.1.1
  have HG : Hid _ := nGreat_calls a n c (wordsOf v) w h.1 hm
  rw [val_words, ← HN.out] at HG
  by_cases hg : 1024 < n
  · have e0 : Hid (greatB v = true) := by rw [Hid, greatB, ← HN.out]; simpa using hg
    go_enter Tryz.func61, Tryz.ntmps61
    go_wp2_with fail
    refine Calls.mono HG.out ?_
    rintro e w ⟨rfl, rfl⟩
    go_wp2_with fail
    go_ret2
    rw [fitR_yes e0.out]
    exact ⟨_, rfl, natAt_nil _ _, rfl⟩
  · have e0 : Hid (greatB v = false) := by rw [Hid, greatB, ← HN.out]; simpa using hg
    go_enter Tryz.func61, Tryz.ntmps61
    go_wp2_with fail
    refine Calls.mono HG.out ?_
    rintro e w ⟨rfl, rfl⟩
    go_wp2_with fail
    go_ret2
    rw [fitR_no e0.out]
    exact ⟨_, rfl, ⟨a, n, c, rfl, HN.out, h⟩, rfl⟩
theorem words_bound {u k : Nat} (h : u < 18446744073709551616 ^ k) : (wordsOf u).length ≤ k := (words_len k u).2 h
theorem sum_words {xs ys : List Int} (hx : AllU xs) (hy : AllU ys) : (wordsOf (val xs + val ys)).length ≤ max xs.length ys.length + 1 := by
  apply words_bound
  have h1 : val xs < 18446744073709551616 ^ (max xs.length ys.length) := Nat.lt_of_lt_of_le (val_lt xs hx) (Nat.pow_le_pow_right (by decide) (by omega))
  have h2 : val ys < 18446744073709551616 ^ (max xs.length ys.length) := Nat.lt_of_lt_of_le (val_lt ys hy) (Nat.pow_le_pow_right (by decide) (by omega))
  rw [Nat.pow_succ]
  generalize 18446744073709551616 ^ (max xs.length ys.length) = P at *
  omega

set_option maxRecDepth 100000 in
set_option maxHeartbeats 1000000 in
theorem nSum_calls (a a' : Option Addr) (len cap len' cap' : Nat) (xs ys : List Int) (w : World) (h : IsW w a len cap xs) (h' : IsW w a' len' cap' ys) (hm : len ≤ 17592186044415) (hm' : len' ≤ 17592186044415) :
    Calls Tryz.prog 45 #[.slice a len cap, .slice a' len' cap'] w fun e w' => ∃ v, e = .returned (.tuple #[v, .int .i64 (addR (val xs) (val ys)).2]) ∧ NatAt w.heap.size w' v (addR (val xs) (val ys)).1 ∧ Below w.heap.size w w' := by
  have G1 : Hid _ := nGreat_calls a len cap xs w h (by omega)
  have G2 : Hid _ := nGreat_calls a' len' cap' ys w h' (by omega)
  have HS : Hid ((wordsOf (val xs + val ys)).length ≤ max xs.length ys.length + 1) := sum_words h.2.1 h'.2.1
  have HL : Hid (len = xs.length ∧ len' = ys.length) := ⟨h.1, h'.1⟩
  cases hg : greatB (val xs) with
  | true =>
    rw [show decide (1024 < (wordsOf (val xs)).length) = true from hg] at G1
    have e0 : Hid _ := addR_yes (u := val xs) (v := val ys) (by rw [hg]; rfl)
    clear hg
    go_enter Tryz.func45, Tryz.ntmps45
    go_wp2_with fail
    refine Calls.mono G1.out ?_
    rintro e w ⟨rfl, rfl⟩
    go_wp2_with fail
    go_ret2
    rw [e0.out]
    exact ⟨_, rfl, natAt_nil _ _, Below.refl _ _⟩
  | false =>
    rw [show decide (1024 < (wordsOf (val xs)).length) = false from hg] at G1
    cases hg' : greatB (val ys) with
    | true =>
      rw [show decide (1024 < (wordsOf (val ys)).length) = true from hg'] at G2
      have e0 : Hid _ := addR_yes (u := val xs) (v := val ys) (by rw [hg']; simp)
      clear hg hg'
      go_enter Tryz.func45, Tryz.ntmps45
      go_wp2_with fail
      refine Calls.mono G1.out ?_
      rintro e w ⟨rfl, rfl⟩
      go_wp2_with fail
      refine Calls.mono G2.out ?_
      rintro e w ⟨rfl, rfl⟩
      go_wp2_with fail
      go_ret2
      rw [e0.out]
      exact ⟨_, rfl, natAt_nil _ _, Below.refl _ _⟩
    | false =>
      rw [show decide (1024 < (wordsOf (val ys)).length) = false from hg'] at G2
      have e0 : Hid _ := addR_no (u := val xs) (v := val ys) (by rw [hg, hg']; rfl)
      clear hg hg'
      go_enter Tryz.func45, Tryz.ntmps45
      go_wp2_with fail
      refine Calls.mono G1.out ?_
      rintro e w ⟨rfl, rfl⟩
      go_wp2_with fail
      refine Calls.mono G2.out ?_
      rintro e w ⟨rfl, rfl⟩
      go_wp2_with fail
      refine Calls.mono (nAdd_calls a a' len cap len' cap' xs ys w h h' hm hm') ?_
      rintro e w1 ⟨ao, cv, rfl, hO, hb⟩
      obtain ⟨n, hn⟩ : ∃ n, n = (wordsOf (val xs + val ys)).length := ⟨_, rfl⟩
      have hnb : n ≤ 17592186044416 := by have := HS.out; have := HL.out; omega
      rw [← hn]
      have FC : Hid _ := nFit_calls w.heap.size ao n cv (val xs + val ys) w1 (hO.ownW (words_U _) hn.symm) hnb
      clear hn hO G1 G2
      go_wp2_with fail
      refine Calls.mono FC.out ?_
      rintro e w1 ⟨v, rfl, hA, rfl⟩
      rw [← e0.out] at hA ⊢
      go_wp2_with fail
      go_ret2
      exact ⟨v, rfl, hA, hb⟩

set_option maxRecDepth 100000 in
set_option maxHeartbeats 1000000 in
theorem nLess_calls (a a' : Option Addr) (len cap len' cap' : Nat) (xs ys : List Int) (w : World) (h : IsW w a len cap xs) (h' : IsW w a' len' cap' ys) (hm : len ≤ 17592186044415) (hm' : len' ≤ 17592186044415) :
    Calls Tryz.prog 47 #[.slice a len cap, .slice a' len' cap'] w fun e w' => ∃ v, e = .returned (.tuple #[v, .int .i64 (subR (val xs) (val ys)).2]) ∧ NatAt w.heap.size w' v (subR (val xs) (val ys)).1 ∧ Below w.heap.size w w' := by
  have G1 : Hid _ := nGreat_calls a len cap xs w h (by omega)
  have G2 : Hid _ := nGreat_calls a' len' cap' ys w h' (by omega)
  cases hg : greatB (val xs) with
  | true =>
    rw [show decide (1024 < (wordsOf (val xs)).length) = true from hg] at G1
    have e0 : Hid _ := subR_yes (u := val xs) (v := val ys) (by rw [hg]; rfl)
    clear hg
    go_enter Tryz.func47, Tryz.ntmps47
    go_wp2_with fail
    refine Calls.mono G1.out ?_
    rintro e w ⟨rfl, rfl⟩
    go_wp2_with fail
    go_ret2
    rw [e0.out]
    exact ⟨_, rfl, natAt_nil _ _, Below.refl _ _⟩
  | false =>
    rw [show decide (1024 < (wordsOf (val xs)).length) = false from hg] at G1
    cases hg' : greatB (val ys) with
    | true =>
      rw [show decide (1024 < (wordsOf (val ys)).length) = true from hg'] at G2
      have e0 : Hid _ := subR_yes (u := val xs) (v := val ys) (by rw [hg']; simp)
      clear hg hg'
      go_enter Tryz.func47, Tryz.ntmps47
      go_wp2_with fail
      refine Calls.mono G1.out ?_
      rintro e w ⟨rfl, rfl⟩
      go_wp2_with fail
      refine Calls.mono G2.out ?_
      rintro e w ⟨rfl, rfl⟩
      go_wp2_with fail
      go_ret2
      rw [e0.out]
      exact ⟨_, rfl, natAt_nil _ _, Below.refl _ _⟩
    | false =>
      rw [show decide (1024 < (wordsOf (val ys)).length) = false from hg'] at G2
      have hor : (greatB (val xs) || greatB (val ys)) = false := by rw [hg, hg']; rfl
      have HOR : Hid _ := hor
      have CC : Hid _ := nCmp_calls a a' len cap len' cap' xs ys w h h' (by omega) (by omega)
      clear hg hg' hor
      by_cases hl : val xs < val ys
      · have hc : cmpN (val xs) (val ys) = -1 := by unfold cmpN; rw [if_pos hl]
        have HL : Hid _ := subR_less HOR.out hl
        rw [hc] at CC
        clear hl hc
        go_enter Tryz.func47, Tryz.ntmps47
        go_wp2_with fail
        refine Calls.mono G1.out ?_
        rintro e w ⟨rfl, rfl⟩
        go_wp2_with fail
        refine Calls.mono G2.out ?_
        rintro e w ⟨rfl, rfl⟩
        go_wp2_with fail
        refine Calls.mono CC.out ?_
        rintro e w ⟨rfl, rfl⟩
        go_wp2_with fail
        go_ret2
        rw [HL.out]
        exact ⟨_, rfl, natAt_nil _ _, Below.refl _ _⟩
      · have hc : 0 ≤ cmpN (val xs) (val ys) := by unfold cmpN; rw [if_neg hl]; split <;> omega
        have HLE : Hid (val ys ≤ val xs) := by rw [Hid]; omega
        have HL : Hid _ := subR_no HOR.out HLE.out
        generalize cmpN (val xs) (val ys) = cc at hc CC
        clear hl
        go_enter Tryz.func47, Tryz.ntmps47
        go_wp2_with fail
        refine Calls.mono G1.out ?_
        rintro e w ⟨rfl, rfl⟩
        go_wp2_with fail
        refine Calls.mono G2.out ?_
        rintro e w ⟨rfl, rfl⟩
        go_wp2_with fail
        refine Calls.mono CC.out ?_
        rintro e w ⟨rfl, rfl⟩
        go_wp2_with fail
        refine Calls.mono (nSub_calls a a' len cap len' cap' xs ys w h h' hm hm' HLE.out) ?_
        rintro e w1 ⟨ao, cv, rfl, hO, hb⟩
        obtain ⟨n, hn⟩ : ∃ n, n = (wordsOf (val xs - val ys)).length := ⟨_, rfl⟩
        rw [← hn]
        have HA : Hid _ := natAt_own hO hn.symm
        clear hn hO G1 G2 CC
        go_wp2_with fail
        go_ret2
        rw [HL.out]
        exact ⟨_, rfl, HA.out, hb⟩
end Go.Proofs.YtfafhinjcligaaaGreatDoor
