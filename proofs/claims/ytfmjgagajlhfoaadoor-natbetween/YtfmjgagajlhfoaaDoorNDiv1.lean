/- The walks of quotients: two answers at once; Div as it is called; the quotient by one word. -/
import Derived.Test.YtfmjgagajlhfoaaDoorNProg7
import Derived.Test.YtfmjgagajlhfoaaDoorNDivBy
namespace Go.Proofs.YtfmjgagajlhfoaaDoor
open Go.RowKit

set_option maxHeartbeats 1000000 in
theorem answers_calls (B : Nat) (a a' : Option Addr) (n c n' c' : Nat) (xs ys : List Int) (w : World) (h : OwnW B w a n c xs) (h' : OwnW B w a' n' c' ys) (hm : n ≤ 17592186044416) (hm' : n' ≤ 17592186044416) (hx : greatB (val xs) = false) (hy : greatB (val ys) = false) :
    Calls Tryd.prog 57 #[.slice a n c, .slice a' n' c'] w fun e w' => ∃ v v', e = .returned (.tuple #[v, v', .int .i64 0]) ∧ NatAt B w' v (val xs) ∧ NatAt B w' v' (val ys) ∧ Below w.heap.size w w' := by
  have HX : Hid _ := fitR_no hx
  have HY : Hid _ := fitR_no hy
  go_enter Tryd.func57, Tryd.ntmps57
  go_wp2_with fail
  refine Calls.mono (answer_calls B a n c xs w h hm) ?_
  rintro e w1 ⟨v, rfl, hA, hb⟩
  rw [HX.out] at hA ⊢
  have h1 := h'.keep hb
  clear hx hy
  go_wp2_with fail
  refine Calls.mono (answer_calls B a' n' c' ys w1 h1 hm') ?_
  rintro e w2 ⟨v', rfl, hA', hb'⟩
  rw [HY.out] at hA' ⊢
  go_wp2_with fail
  go_ret3
  exact ⟨v, v', rfl, hA.keep hb', hA', nbelow_trans hb hb'⟩

/-- The quotient of two naturals, word by word: what its call answers. -/
def OverC (u v : Nat) : Prop := ∀ (a b : Option Addr) (n m : Nat) (w : World), IsW w a n n (wordsOf u) → IsW w b m m (wordsOf v) → n ≤ 1024 → m ≤ 1024 →
  Calls Tryd.prog 58 #[.slice a n n, .slice b m m] w fun e w' => ∃ (a1 a2 : Option Addr) (k1 c1 k2 c2 : Nat) (M1 M2 : List Int), e = .returned (.tuple #[.slice a1 k1 c1, .slice a2 k2 c2]) ∧ OwnW w.heap.size w' a1 k1 c1 M1 ∧ val M1 = u / v ∧ k1 ≤ 4096 ∧ OwnW w.heap.size w' a2 k2 c2 M2 ∧ val M2 = u % v ∧ k2 ≤ 4096 ∧ Below w.heap.size w w'

set_option maxRecDepth 100000 in
set_option maxHeartbeats 1000000 in
theorem over_small (u v : Nat) (hlt : u < v) : OverC u v := by
  intro a b n m w hA hB hn hm
  have HC : Hid (cmpN u v = -1) := by rw [Hid, cmpN, if_pos hlt]
  go_enter Tryd.func58, Tryd.ntmps58
  go_wp2_with fail
  refine Calls.mono (against_calls a b n m u v w hA hB (by omega) (by omega)) ?_
  rintro e w1 ⟨rfl, hb⟩
  rw [HC.out]
  go_wp2_with fail
  refine Calls.mono (copied_calls a n (wordsOf u) w1 (hA.keep hb) (by omega)) ?_
  rintro e w2 ⟨ao, cv, rfl, hO, hb2⟩
  have HD : Hid (u / v = 0 ∧ u % v = u) := ⟨Nat.div_eq_of_lt hlt, Nat.mod_eq_of_lt hlt⟩
  clear hlt
  go_wp2_with fail
  go_ret2
  exact ⟨none, ao, 0, 0, n, cv, [], wordsOf u, rfl, ownW_nil _ _, by rw [HD.out.1]; rfl, by omega, hO.low hb.size, by rw [HD.out.2, val_words], by omega, nbelow_trans hb hb2⟩

set_option maxRecDepth 100000 in
set_option maxHeartbeats 1000000 in
theorem over_one (u v : Nat) (hv0 : 0 < v) (hv : v < 18446744073709551616) : OverC u v := by
  by_cases hlt : u < v
  · exact over_small u v hlt
  intro a b n m w hA hB hn hm
  have hc : 0 ≤ cmpN u v := by unfold cmpN; rw [if_neg hlt]; split <;> omega
  have hW : wordsOf v = [(v : Int)] := by
    rw [words_pos v (by omega), Nat.mod_eq_of_lt hv, Nat.div_eq_of_lt hv, words_zero]
  have hm1 : m = 1 := by rw [hB.1, hW]; rfl
  subst hm1
  obtain ⟨bb, bo, rfl, hbl, hbc⟩ := hB.2.2.2 0 (by omega)
  rw [hW] at hbc
  have hbc1 : w.cell? ⟨bb, bo, none⟩ = some (.int .u64 (v : Int)) := hbc
  have hu : u ≠ 0 := by omega
  have hn1 : 0 < n := by
    rcases Nat.eq_zero_or_pos n with h1 | h1
    · exact absurd ((words_nil _).1 (List.length_eq_zero_iff.1 (by rw [← hA.1]; exact h1))) hu
    · exact h1
  have AG : Hid _ := against_calls a (some ⟨bb, bo, none⟩) n 1 u v w hA hB (by omega) (by omega)
  clear hlt hW hbc hB hu
  go_enter Tryd.func58, Tryd.ntmps58
  go_wp2_with fail
  refine Calls.mono AG.out ?_
  rintro e w1 ⟨rfl, hb⟩
  generalize cmpN u v = cc at hc ⊢
  have hbc2 : w1.cell? ⟨bb, bo, none⟩ = some (.int .u64 (v : Int)) := (hb.cell (p := ⟨bb, bo, none⟩) hbl).trans hbc1
  have hbl1 : bb < w1.heap.size := Nat.lt_of_lt_of_le hbl hb.size
  clear AG
  go_wp2_with fail
  refine Calls.mono (copied_calls a n (wordsOf u) w1 (hA.keep hb) (by omega)) ?_
  rintro e w2 ⟨ao, cv, rfl, hO, hb2⟩
  obtain ⟨g, off, rfl, hgl, _⟩ := hO.1.2.2.2 0 hn1
  have hgB := (hO.2 g off 0 rfl hn1).1
  have hbc3 : w2.cell? ⟨bb, bo, none⟩ = some (.int .u64 (v : Int)) := (hb2.cell (p := ⟨bb, bo, none⟩) hbl1).trans hbc2
  clear hbc1 hbc2
  go_wp2_with fail
  refine Calls.mono (divideBy_calls w1.heap.size g off n cv v (wordsOf u) w2 hO (by omega) hv0 hv) ?_
  rintro e w3 ⟨M, rfl, hO3, hvM, hg3⟩
  rw [val_words] at hvM ⊢
  have HM : Hid (val M = u / v) := hvM
  have hrl := Nat.mod_lt u hv0
  have HR : Hid _ := hvM
  obtain ⟨rm, hrm⟩ : ∃ rm, rm = u % v := ⟨_, rfl⟩
  rw [← hrm] at hrl ⊢
  have HRM : Hid (rm = u % v) := hrm
  clear hvM hrm HR
  have hb3 : Below w1.heap.size w1 w3 := hb2.grown hg3 hb2.size (fun k e => by simp at e; omega)
  go_wp2_with fail
  refine Calls.mono (word_calls (rm : Int) w3 (by omega) (by omega)) ?_
  rintro e w4 ⟨ao4, n4, rfl, hn4, hO4, hb4⟩
  rw [Int.toNat_natCast] at hn4 hO4
  have hn4l : n4 ≤ 1 := by
    rw [hn4, words_len]; omega
  clear hn4
  go_wp2_with fail
  go_ret2
  exact ⟨some ⟨g, off, none⟩, ao4, n, cv, n4, n4, M, wordsOf rm, rfl, (hO3.keep hb4).low hb.size, HM.out, by omega, hO4.low (Nat.le_trans hb.size hb3.size), by rw [val_words, HRM.out], by omega, nbelow_trans (nbelow_trans hb hb3) hb4⟩

/-- The quotient and what is left, or why there is none. -/
def divE (u v : Nat) : Int := if (greatB u || greatB v) = true then 3 else if v = 0 then 30 else 0
def divQ (u v : Nat) : Nat := if (greatB u || greatB v) = true then 0 else if v = 0 then 0 else u / v
def divM (u v : Nat) : Nat := if (greatB u || greatB v) = true then 0 else if v = 0 then 0 else u % v
theorem div_yes {u v : Nat} (h : (greatB u || greatB v) = true) : divE u v = 3 ∧ divQ u v = 0 ∧ divM u v = 0 := by simp [divE, divQ, divM, h]
theorem div_zero {u v : Nat} (h : (greatB u || greatB v) = false) (hv : v = 0) : divE u v = 30 ∧ divQ u v = 0 ∧ divM u v = 0 := by
  rw [divE, divQ, divM, h, if_pos hv, if_pos hv, if_pos hv]; simp
theorem div_no {u v : Nat} (h : (greatB u || greatB v) = false) (hv : v ≠ 0) : divE u v = 0 ∧ divQ u v = u / v ∧ divM u v = u % v := by simp [divE, divQ, divM, h, hv]

set_option maxHeartbeats 1000000 in
theorem div_calls (a a' : Option Addr) (len cap len' cap' : Nat) (xs ys : List Int) (w : World) (h : IsW w a len cap xs) (h' : IsW w a' len' cap' ys) (hm : len ≤ 17592186044416) (hm' : len' ≤ 17592186044416) (hov : val ys ≠ 0 → OverC (val xs) (val ys)) :
    Calls Tryd.prog 34 #[.slice a len cap, .slice a' len' cap'] w fun e w' => ∃ v v', e = .returned (.tuple #[v, v', .int .i64 (divE (val xs) (val ys))]) ∧ NatAt w.heap.size w' v (divQ (val xs) (val ys)) ∧ NatAt w.heap.size w' v' (divM (val xs) (val ys)) ∧ Below w.heap.size w w' := by
  have HT := trimN_pack a len cap xs w h hm
  have HT' := trimN_pack a' len' cap' ys w h' hm'
  have HOV : Hid (val ys ≠ 0 → OverC (val xs) (val ys)) := hov
  clear hov
  go_enter Tryd.func34, Tryd.ntmps34
  go_wp2_with fail
  refine Calls.mono HT ?_
  rintro e w ⟨a1, n, rfl, hn, hI, rfl⟩
  have HN : Hid (n = (wordsOf (val xs)).length) := hn
  clear hn HT h hm
  go_wp2_with fail
  refine Calls.mono HT' ?_
  rintro e w ⟨a2, n', rfl, hn', hI', rfl⟩
  have HN' : Hid (n' = (wordsOf (val ys)).length) := hn'
  clear hn' HT' h' hm'
  go_wp2_with fail
  refine Calls.mono (great2_calls _ a1 a2 n n n' n' _ (by go_simp) (by go_simp)) ?_
  rintro e w1 ⟨rfl, rfl⟩
  cases hd : (decide (1024 < n) || decide (1024 < n')) with
  | true =>
    have e0 : Hid _ := div_yes (u := val xs) (v := val ys) (by rw [greatB, greatB, ← HN.out, ← HN'.out]; exact hd)
    clear hd
    go_wp2_with fail
    go_ret3
    rw [e0.out.1, e0.out.2.1, e0.out.2.2]
    exact ⟨_, _, rfl, natAt_nil _ _, natAt_nil _ _, below_one _ _⟩
  | false =>
    have e0 : Hid ((greatB (val xs) || greatB (val ys)) = false) := by
      rw [Hid, greatB, greatB, ← HN.out, ← HN'.out]; exact hd
    have hle : n ≤ 1024 ∧ n' ≤ 1024 := by simpa using hd
    clear hd
    by_cases hv : val ys = 0
    · have e1 : Hid _ := div_zero e0.out hv
      have hn0 : n' = 0 := by rw [HN'.out, hv, words_zero]; rfl
      subst hn0
      clear hv
      go_wp2_with fail
      go_ret3
      rw [e1.out.1, e1.out.2.1, e1.out.2.2]
      exact ⟨_, _, rfl, natAt_nil _ _, natAt_nil _ _, below_one _ _⟩
    · have e1 : Hid _ := div_no e0.out hv
      have hn0 : ((n' : Int) == 0) = false := by
        have : n' ≠ 0 := fun e => hv ((words_nil _).1 (List.length_eq_zero_iff.1 (by rw [← HN'.out]; exact e)))
        simp; omega
      have hfit := e0.out
      rw [Bool.or_eq_false_iff] at hfit
      have HF : Hid (greatB (val xs / val ys) = false ∧ greatB (val xs % val ys) = false) := ⟨great_mono (Nat.div_le_self _ _) hfit.1, great_mono (Nat.mod_le _ _) hfit.1⟩
      have HO := HOV.out hv a1 a2 n n' _ (hI.keep (below_one w (.cells #[.slice a1 n n, .slice a2 n' n'] 46))) (hI'.keep (below_one w (.cells #[.slice a1 n n, .slice a2 n' n'] 46))) hle.1 hle.2
      have HO2 : Hid _ := HO
      clear hv hfit HO HOV
      go_wp2_with fail
      refine Calls.mono HO2.out ?_
      rintro e w2 ⟨b1, b2, k1, c1, k2, c2, M1, M2, rfl, hO1, hv1, hk1, hOb, hv2, hk2, hb2⟩
      have HV1 : Hid (val M1 = val xs / val ys) := hv1
      have HV2 : Hid (val M2 = val xs % val ys) := hv2
      clear hv1 hv2 HO2
      go_wp2_with fail
      refine Calls.mono (answers_calls _ b1 b2 k1 c1 k2 c2 M1 M2 w2 hO1 hOb (by omega) (by omega) (by rw [HV1.out]; exact HF.out.1) (by rw [HV2.out]; exact HF.out.2)) ?_
      rintro e w3 ⟨v, v', rfl, hA, hA', hb3⟩
      rw [HV1.out] at hA
      rw [HV2.out] at hA'
      go_wp2_with fail
      go_ret3
      rw [e1.out.1, e1.out.2.1, e1.out.2.2]
      exact ⟨v, v', rfl, hA.low (by simp), hA'.low (by simp), nbelow_trans (nbelow_trans (below_one _ _) hb2) hb3⟩
end Go.Proofs.YtfmjgagajlhfoaaDoor
