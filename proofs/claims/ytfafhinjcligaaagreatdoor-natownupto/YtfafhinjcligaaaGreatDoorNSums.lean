/- The walk of the statement NatSums. -/
import Derived.Test.YtfafhinjcligaaaGreatDoorNLives
import Derived.Test.YtfafhinjcligaaaGreatDoorNRefS
namespace Go.Proofs.YtfafhinjcligaaaGreatDoor
open Go.RowKit

set_option maxRecDepth 100000 in
set_option maxHeartbeats 4000000 in
theorem sums_ga (a b : Option Addr) (len cap len' cap' : Nat) (xs ys : List Int) (w : World) (hA : IsW w a len cap xs) (hm : len ≤ 17592186044415) (hB : IsW w b len' cap' ys) (hm' : len' ≤ 17592186044415) (hP : TabP w) (hg : greatB (val xs) = true) :
    Calls Tryz.prog 20 #[.slice a len cap, .slice b len' cap'] w fun e w' => e = .returned (.bool true) ∧ Below w.heap.size w w' := by
  have HGA : Hid (greatB (val xs) = true) := hg
  have HOR : Hid ((greatB (val xs) || greatB (val ys)) = true) := by rw [Hid, hg]; rfl
  clear hg
  have HXL : Hid ((wordsOf (addR (val xs) (val ys)).1).length ≤ 17592186044416) := by
    have h1 := sum_words hA.2.1 hB.2.1
    have h2 := hA.1; have h3 := hB.1
    rw [Hid]
    unfold addR fitR
    split
    · rw [words_zero]; simp
    · split
      · rw [words_zero]; simp
      · simp only; omega
  have HYL : Hid ((wordsOf (subR (val xs) (val ys)).1).length ≤ 17592186044416) := by
    have h1 := words_le xs hA.2.1
    have h2 := hA.1
    have h3 := words_mono (Nat.sub_le (val xs) (val ys))
    rw [Hid]
    unfold subR
    split
    · rw [words_zero]; simp
    · split
      · rw [words_zero]; simp
      · simp only; omega
  go_enter Tryz.func20, Tryz.ntmps20
  go_wp2_with fail
  refine Calls.mono (add_calls a b len cap len' cap' xs ys w hA hB (by omega) (by omega)) ?_
  rintro e w1 ⟨v, rfl, ⟨a1, n1, c1, rfl, hn1, hO1⟩, hb1⟩
  have HN1 : Hid (n1 = (wordsOf (addR (val xs) (val ys)).1).length) := hn1
  clear hn1
  have hA1 := hA.keep hb1
  have hB1 := hB.keep hb1
  have hP1 := hP.kept hb1
  have hI1 := hO1.1
  clear hA hB hP hO1
  go_wp2_with fail
  refine Calls.mono (nSum_calls a b len cap len' cap' xs ys w1 hA1 hB1 hm hm') ?_
  rintro e w2 ⟨v, rfl, ⟨a2, n2, c2, rfl, hn2, hO2⟩, hb2⟩
  have hbw2 := nbelow_trans hb1 hb2
  have hA2 := hA1.keep hb2
  have hB2 := hB1.keep hb2
  have hP2 := hP1.kept hb2
  have hI2 := hI1.keep hb2
  have hJ2 := hO2.1
  obtain ⟨ra, hra⟩ : ∃ r, r = addR (val xs) (val ys) := ⟨_, rfl⟩
  rw [← hra] at HN1 hn2 hI2 hJ2 HXL ⊢
  have hn1b : n1 ≤ 17592186044416 := by rw [HN1.out]; exact HXL.out
  have hn2b : n2 ≤ 17592186044416 := by rw [hn2]; exact HXL.out
  clear hA1 hB1 hP1 hI1 hb1 hb2 hO2 hra HN1 hn2
  go_wp2_with fail
  refine Calls.mono (sub_calls a b len cap len' cap' xs ys w2 hA2 hB2 (by omega) (by omega)) ?_
  rintro e w3 ⟨v, rfl, ⟨a3, n3, c3, rfl, hn3, hO3⟩, hb3⟩
  have HN3 : Hid (n3 = (wordsOf (subR (val xs) (val ys)).1).length) := hn3
  clear hn3
  have hbw3 := nbelow_trans hbw2 hb3
  have hA3 := hA2.keep hb3
  have hB3 := hB2.keep hb3
  have hP3 := hP2.kept hb3
  have hI3 := hI2.keep hb3
  have hJ3 := hJ2.keep hb3
  have hK3 := hO3.1
  clear hA2 hB2 hP2 hI2 hJ2 hb3 hbw2 hO3
  go_wp2_with fail
  refine Calls.mono (nLess_calls a b len cap len' cap' xs ys w3 hA3 hB3 hm hm') ?_
  rintro e w4 ⟨v, rfl, ⟨a4, n4, c4, rfl, hn4, hO4⟩, hb4⟩
  have hbw4 := nbelow_trans hbw3 hb4
  have hA4 := hA3.keep hb4
  have hB4 := hB3.keep hb4
  have hP4 := hP3.kept hb4
  have hI4 := hI3.keep hb4
  have hJ4 := hJ3.keep hb4
  have hK4 := hK3.keep hb4
  have hM4 := hO4.1
  obtain ⟨rs, hrs⟩ : ∃ r, r = subR (val xs) (val ys) := ⟨_, rfl⟩
  rw [← hrs] at HN3 hn4 hK4 hM4 HYL ⊢
  have hn3b : n3 ≤ 17592186044416 := by rw [HN3.out]; exact HYL.out
  have hn4b : n4 ≤ 17592186044416 := by rw [hn4]; exact HYL.out
  clear hA3 hB3 hP3 hI3 hJ3 hK3 hb4 hbw3 hO4 hrs HN3 hn4
  go_wp2_with fail
  refine Calls.mono (cmp_calls a b len cap len' cap' xs ys w4 hA4 hB4 (by omega) (by omega)) ?_
  rintro e w5 ⟨he1, he2, hb5⟩
  obtain rfl := he1 HOR.out
  have hbw5 := nbelow_trans hbw4 hb5
  have hA5 := hA4.keep hb5
  have hB5 := hB4.keep hb5
  have hP5 := hP4.kept hb5
  have hI5 := hI4.keep hb5
  have hJ5 := hJ4.keep hb5
  have hK5 := hK4.keep hb5
  have hM5 := hM4.keep hb5
  clear hA4 hB4 hP4 hI4 hJ4 hK4 hM4 hb5 hbw4 he1 he2
  go_wp2_with fail
  refine Calls.mono (lives_calls w5 hP5) ?_
  rintro e w6 ⟨rfl, hb6⟩
  have hbw6 := nbelow_trans hbw5 hb6
  have hA6 := hA5.keep hb6
  have hB6 := hB5.keep hb6
  have hI6 := hI5.keep hb6
  have hJ6 := hJ5.keep hb6
  have hK6 := hK5.keep hb6
  have hM6 := hM5.keep hb6
  clear hA5 hB5 hP5 hI5 hJ5 hK5 hM5 hb6 hbw5
  go_wp2_with fail
  refine Calls.mono (nSame_calls _ _ _ _ _ _ _ _ _ hI6 hJ6 hn1b hn2b) ?_
  rintro e w7 ⟨rfl, hb7⟩
  rw [show decide (wordsOf ra.1 = wordsOf ra.1) = true by simp]
  have hbw7 := nbelow_trans hbw6 hb7
  have hA7 := hA6.keep hb7
  have hB7 := hB6.keep hb7
  have hK7 := hK6.keep hb7
  have hM7 := hM6.keep hb7
  clear hA6 hB6 hI6 hJ6 hK6 hM6 hb7 hbw6
  go_wp2_with fail
  refine Calls.mono (nSame_calls _ _ _ _ _ _ _ _ _ hK7 hM7 hn3b hn4b) ?_
  rintro e w8 ⟨rfl, hb8⟩
  rw [show decide (wordsOf rs.1 = wordsOf rs.1) = true by simp]
  have hbw8 := nbelow_trans hbw7 hb8
  have hA8 := hA7.keep hb8
  have hB8 := hB7.keep hb8
  clear hA7 hB7 hK7 hM7 hb8 hbw7
  go_wp2_with fail
  refine Calls.mono (nGreat_calls a len cap xs w8 hA8 (by omega)) ?_
  rintro e w8 ⟨rfl, rfl⟩
  rw [show decide (1024 < (wordsOf (val xs)).length) = true from HGA.out]
  go_wp2_with fail
  go_ret
  exact ⟨rfl, hbw8⟩

set_option maxRecDepth 100000 in
set_option maxHeartbeats 4000000 in
theorem sums_gb (a b : Option Addr) (len cap len' cap' : Nat) (xs ys : List Int) (w : World) (hA : IsW w a len cap xs) (hm : len ≤ 17592186044415) (hB : IsW w b len' cap' ys) (hm' : len' ≤ 17592186044415) (hP : TabP w) (hg : greatB (val xs) = false) (hg2 : greatB (val ys) = true) :
    Calls Tryz.prog 20 #[.slice a len cap, .slice b len' cap'] w fun e w' => e = .returned (.bool true) ∧ Below w.heap.size w w' := by
  have HGA : Hid (greatB (val xs) = false) := hg
  have HGB : Hid (greatB (val ys) = true) := hg2
  have HOR : Hid ((greatB (val xs) || greatB (val ys)) = true) := by rw [Hid, hg2]; simp
  clear hg hg2
  have HXL : Hid ((wordsOf (addR (val xs) (val ys)).1).length ≤ 17592186044416) := by
    have h1 := sum_words hA.2.1 hB.2.1
    have h2 := hA.1; have h3 := hB.1
    rw [Hid]
    unfold addR fitR
    split
    · rw [words_zero]; simp
    · split
      · rw [words_zero]; simp
      · simp only; omega
  have HYL : Hid ((wordsOf (subR (val xs) (val ys)).1).length ≤ 17592186044416) := by
    have h1 := words_le xs hA.2.1
    have h2 := hA.1
    have h3 := words_mono (Nat.sub_le (val xs) (val ys))
    rw [Hid]
    unfold subR
    split
    · rw [words_zero]; simp
    · split
      · rw [words_zero]; simp
      · simp only; omega
  go_enter Tryz.func20, Tryz.ntmps20
  go_wp2_with fail
  refine Calls.mono (add_calls a b len cap len' cap' xs ys w hA hB (by omega) (by omega)) ?_
  rintro e w1 ⟨v, rfl, ⟨a1, n1, c1, rfl, hn1, hO1⟩, hb1⟩
  have HN1 : Hid (n1 = (wordsOf (addR (val xs) (val ys)).1).length) := hn1
  clear hn1
  have hA1 := hA.keep hb1
  have hB1 := hB.keep hb1
  have hP1 := hP.kept hb1
  have hI1 := hO1.1
  clear hA hB hP hO1
  go_wp2_with fail
  refine Calls.mono (nSum_calls a b len cap len' cap' xs ys w1 hA1 hB1 hm hm') ?_
  rintro e w2 ⟨v, rfl, ⟨a2, n2, c2, rfl, hn2, hO2⟩, hb2⟩
  have hbw2 := nbelow_trans hb1 hb2
  have hA2 := hA1.keep hb2
  have hB2 := hB1.keep hb2
  have hP2 := hP1.kept hb2
  have hI2 := hI1.keep hb2
  have hJ2 := hO2.1
  obtain ⟨ra, hra⟩ : ∃ r, r = addR (val xs) (val ys) := ⟨_, rfl⟩
  rw [← hra] at HN1 hn2 hI2 hJ2 HXL ⊢
  have hn1b : n1 ≤ 17592186044416 := by rw [HN1.out]; exact HXL.out
  have hn2b : n2 ≤ 17592186044416 := by rw [hn2]; exact HXL.out
  clear hA1 hB1 hP1 hI1 hb1 hb2 hO2 hra HN1 hn2
  go_wp2_with fail
  refine Calls.mono (sub_calls a b len cap len' cap' xs ys w2 hA2 hB2 (by omega) (by omega)) ?_
  rintro e w3 ⟨v, rfl, ⟨a3, n3, c3, rfl, hn3, hO3⟩, hb3⟩
  have HN3 : Hid (n3 = (wordsOf (subR (val xs) (val ys)).1).length) := hn3
  clear hn3
  have hbw3 := nbelow_trans hbw2 hb3
  have hA3 := hA2.keep hb3
  have hB3 := hB2.keep hb3
  have hP3 := hP2.kept hb3
  have hI3 := hI2.keep hb3
  have hJ3 := hJ2.keep hb3
  have hK3 := hO3.1
  clear hA2 hB2 hP2 hI2 hJ2 hb3 hbw2 hO3
  go_wp2_with fail
  refine Calls.mono (nLess_calls a b len cap len' cap' xs ys w3 hA3 hB3 hm hm') ?_
  rintro e w4 ⟨v, rfl, ⟨a4, n4, c4, rfl, hn4, hO4⟩, hb4⟩
  have hbw4 := nbelow_trans hbw3 hb4
  have hA4 := hA3.keep hb4
  have hB4 := hB3.keep hb4
  have hP4 := hP3.kept hb4
  have hI4 := hI3.keep hb4
  have hJ4 := hJ3.keep hb4
  have hK4 := hK3.keep hb4
  have hM4 := hO4.1
  obtain ⟨rs, hrs⟩ : ∃ r, r = subR (val xs) (val ys) := ⟨_, rfl⟩
  rw [← hrs] at HN3 hn4 hK4 hM4 HYL ⊢
  have hn3b : n3 ≤ 17592186044416 := by rw [HN3.out]; exact HYL.out
  have hn4b : n4 ≤ 17592186044416 := by rw [hn4]; exact HYL.out
  clear hA3 hB3 hP3 hI3 hJ3 hK3 hb4 hbw3 hO4 hrs HN3 hn4
  go_wp2_with fail
  refine Calls.mono (cmp_calls a b len cap len' cap' xs ys w4 hA4 hB4 (by omega) (by omega)) ?_
  rintro e w5 ⟨he1, he2, hb5⟩
  obtain rfl := he1 HOR.out
  have hbw5 := nbelow_trans hbw4 hb5
  have hA5 := hA4.keep hb5
  have hB5 := hB4.keep hb5
  have hP5 := hP4.kept hb5
  have hI5 := hI4.keep hb5
  have hJ5 := hJ4.keep hb5
  have hK5 := hK4.keep hb5
  have hM5 := hM4.keep hb5
  clear hA4 hB4 hP4 hI4 hJ4 hK4 hM4 hb5 hbw4 he1 he2
  go_wp2_with fail
  refine Calls.mono (lives_calls w5 hP5) ?_
  rintro e w6 ⟨rfl, hb6⟩
  have hbw6 := nbelow_trans hbw5 hb6
  have hA6 := hA5.keep hb6
  have hB6 := hB5.keep hb6
  have hI6 := hI5.keep hb6
  have hJ6 := hJ5.keep hb6
  have hK6 := hK5.keep hb6
  have hM6 := hM5.keep hb6
  clear hA5 hB5 hP5 hI5 hJ5 hK5 hM5 hb6 hbw5
  go_wp2_with fail
  refine Calls.mono (nSame_calls _ _ _ _ _ _ _ _ _ hI6 hJ6 hn1b hn2b) ?_
  rintro e w7 ⟨rfl, hb7⟩
  rw [show decide (wordsOf ra.1 = wordsOf ra.1) = true by simp]
  have hbw7 := nbelow_trans hbw6 hb7
  have hA7 := hA6.keep hb7
  have hB7 := hB6.keep hb7
  have hK7 := hK6.keep hb7
  have hM7 := hM6.keep hb7
  clear hA6 hB6 hI6 hJ6 hK6 hM6 hb7 hbw6
  go_wp2_with fail
  refine Calls.mono (nSame_calls _ _ _ _ _ _ _ _ _ hK7 hM7 hn3b hn4b) ?_
  rintro e w8 ⟨rfl, hb8⟩
  rw [show decide (wordsOf rs.1 = wordsOf rs.1) = true by simp]
  have hbw8 := nbelow_trans hbw7 hb8
  have hA8 := hA7.keep hb8
  have hB8 := hB7.keep hb8
  clear hA7 hB7 hK7 hM7 hb8 hbw7
  go_wp2_with fail
  refine Calls.mono (nGreat_calls a len cap xs w8 hA8 (by omega)) ?_
  rintro e w8 ⟨rfl, rfl⟩
  rw [show decide (1024 < (wordsOf (val xs)).length) = false from HGA.out]
  go_wp2_with fail
  refine Calls.mono (nGreat_calls b len' cap' ys w8 hB8 (by omega)) ?_
  rintro e w8 ⟨rfl, rfl⟩
  rw [show decide (1024 < (wordsOf (val ys)).length) = true from HGB.out]
  go_wp2_with fail
  go_ret
  exact ⟨rfl, hbw8⟩

set_option maxRecDepth 100000 in
set_option maxHeartbeats 4000000 in
theorem sums_fit (a b : Option Addr) (len cap len' cap' : Nat) (xs ys : List Int) (w : World) (hA : IsW w a len cap xs) (hm : len ≤ 17592186044415) (hB : IsW w b len' cap' ys) (hm' : len' ≤ 17592186044415) (hP : TabP w) (hg : greatB (val xs) = false) (hg2 : greatB (val ys) = false) :
    Calls Tryz.prog 20 #[.slice a len cap, .slice b len' cap'] w fun e w' => e = .returned (.bool true) ∧ Below w.heap.size w w' := by
  have HGA : Hid (greatB (val xs) = false) := hg
  have HGB : Hid (greatB (val ys) = false) := hg2
  have HOR : Hid ((greatB (val xs) || greatB (val ys)) = false) := by rw [Hid, hg, hg2]; rfl
  clear hg hg2
  have HXL : Hid ((wordsOf (addR (val xs) (val ys)).1).length ≤ 17592186044416) := by
    have h1 := sum_words hA.2.1 hB.2.1
    have h2 := hA.1; have h3 := hB.1
    rw [Hid]
    unfold addR fitR
    split
    · rw [words_zero]; simp
    · split
      · rw [words_zero]; simp
      · simp only; omega
  have HYL : Hid ((wordsOf (subR (val xs) (val ys)).1).length ≤ 17592186044416) := by
    have h1 := words_le xs hA.2.1
    have h2 := hA.1
    have h3 := words_mono (Nat.sub_le (val xs) (val ys))
    rw [Hid]
    unfold subR
    split
    · rw [words_zero]; simp
    · split
      · rw [words_zero]; simp
      · simp only; omega
  go_enter Tryz.func20, Tryz.ntmps20
  go_wp2_with fail
  refine Calls.mono (add_calls a b len cap len' cap' xs ys w hA hB (by omega) (by omega)) ?_
  rintro e w1 ⟨v, rfl, ⟨a1, n1, c1, rfl, hn1, hO1⟩, hb1⟩
  have HN1 : Hid (n1 = (wordsOf (addR (val xs) (val ys)).1).length) := hn1
  clear hn1
  have hA1 := hA.keep hb1
  have hB1 := hB.keep hb1
  have hP1 := hP.kept hb1
  have hI1 := hO1.1
  clear hA hB hP hO1
  go_wp2_with fail
  refine Calls.mono (nSum_calls a b len cap len' cap' xs ys w1 hA1 hB1 hm hm') ?_
  rintro e w2 ⟨v, rfl, ⟨a2, n2, c2, rfl, hn2, hO2⟩, hb2⟩
  have hbw2 := nbelow_trans hb1 hb2
  have hA2 := hA1.keep hb2
  have hB2 := hB1.keep hb2
  have hP2 := hP1.kept hb2
  have hI2 := hI1.keep hb2
  have hJ2 := hO2.1
  obtain ⟨ra, hra⟩ : ∃ r, r = addR (val xs) (val ys) := ⟨_, rfl⟩
  rw [← hra] at HN1 hn2 hI2 hJ2 HXL ⊢
  have hn1b : n1 ≤ 17592186044416 := by rw [HN1.out]; exact HXL.out
  have hn2b : n2 ≤ 17592186044416 := by rw [hn2]; exact HXL.out
  clear hA1 hB1 hP1 hI1 hb1 hb2 hO2 hra HN1 hn2
  go_wp2_with fail
  refine Calls.mono (sub_calls a b len cap len' cap' xs ys w2 hA2 hB2 (by omega) (by omega)) ?_
  rintro e w3 ⟨v, rfl, ⟨a3, n3, c3, rfl, hn3, hO3⟩, hb3⟩
  have HN3 : Hid (n3 = (wordsOf (subR (val xs) (val ys)).1).length) := hn3
  clear hn3
  have hbw3 := nbelow_trans hbw2 hb3
  have hA3 := hA2.keep hb3
  have hB3 := hB2.keep hb3
  have hP3 := hP2.kept hb3
  have hI3 := hI2.keep hb3
  have hJ3 := hJ2.keep hb3
  have hK3 := hO3.1
  clear hA2 hB2 hP2 hI2 hJ2 hb3 hbw2 hO3
  go_wp2_with fail
  refine Calls.mono (nLess_calls a b len cap len' cap' xs ys w3 hA3 hB3 hm hm') ?_
  rintro e w4 ⟨v, rfl, ⟨a4, n4, c4, rfl, hn4, hO4⟩, hb4⟩
  have hbw4 := nbelow_trans hbw3 hb4
  have hA4 := hA3.keep hb4
  have hB4 := hB3.keep hb4
  have hP4 := hP3.kept hb4
  have hI4 := hI3.keep hb4
  have hJ4 := hJ3.keep hb4
  have hK4 := hK3.keep hb4
  have hM4 := hO4.1
  obtain ⟨rs, hrs⟩ : ∃ r, r = subR (val xs) (val ys) := ⟨_, rfl⟩
  rw [← hrs] at HN3 hn4 hK4 hM4 HYL ⊢
  have hn3b : n3 ≤ 17592186044416 := by rw [HN3.out]; exact HYL.out
  have hn4b : n4 ≤ 17592186044416 := by rw [hn4]; exact HYL.out
  clear hA3 hB3 hP3 hI3 hJ3 hK3 hb4 hbw3 hO4 hrs HN3 hn4
  go_wp2_with fail
  refine Calls.mono (cmp_calls a b len cap len' cap' xs ys w4 hA4 hB4 (by omega) (by omega)) ?_
  rintro e w5 ⟨he1, he2, hb5⟩
  obtain rfl := he2 HOR.out
  have hbw5 := nbelow_trans hbw4 hb5
  have hA5 := hA4.keep hb5
  have hB5 := hB4.keep hb5
  have hP5 := hP4.kept hb5
  have hI5 := hI4.keep hb5
  have hJ5 := hJ4.keep hb5
  have hK5 := hK4.keep hb5
  have hM5 := hM4.keep hb5
  clear hA4 hB4 hP4 hI4 hJ4 hK4 hM4 hb5 hbw4 he1 he2
  go_wp2_with fail
  refine Calls.mono (lives_calls w5 hP5) ?_
  rintro e w6 ⟨rfl, hb6⟩
  have hbw6 := nbelow_trans hbw5 hb6
  have hA6 := hA5.keep hb6
  have hB6 := hB5.keep hb6
  have hI6 := hI5.keep hb6
  have hJ6 := hJ5.keep hb6
  have hK6 := hK5.keep hb6
  have hM6 := hM5.keep hb6
  clear hA5 hB5 hP5 hI5 hJ5 hK5 hM5 hb6 hbw5
  go_wp2_with fail
  refine Calls.mono (nSame_calls _ _ _ _ _ _ _ _ _ hI6 hJ6 hn1b hn2b) ?_
  rintro e w7 ⟨rfl, hb7⟩
  rw [show decide (wordsOf ra.1 = wordsOf ra.1) = true by simp]
  have hbw7 := nbelow_trans hbw6 hb7
  have hA7 := hA6.keep hb7
  have hB7 := hB6.keep hb7
  have hK7 := hK6.keep hb7
  have hM7 := hM6.keep hb7
  clear hA6 hB6 hI6 hJ6 hK6 hM6 hb7 hbw6
  go_wp2_with fail
  refine Calls.mono (nSame_calls _ _ _ _ _ _ _ _ _ hK7 hM7 hn3b hn4b) ?_
  rintro e w8 ⟨rfl, hb8⟩
  rw [show decide (wordsOf rs.1 = wordsOf rs.1) = true by simp]
  have hbw8 := nbelow_trans hbw7 hb8
  have hA8 := hA7.keep hb8
  have hB8 := hB7.keep hb8
  clear hA7 hB7 hK7 hM7 hb8 hbw7
  go_wp2_with fail
  refine Calls.mono (nGreat_calls a len cap xs w8 hA8 (by omega)) ?_
  rintro e w8 ⟨rfl, rfl⟩
  rw [show decide (1024 < (wordsOf (val xs)).length) = false from HGA.out]
  go_wp2_with fail
  refine Calls.mono (nGreat_calls b len' cap' ys w8 hB8 (by omega)) ?_
  rintro e w8 ⟨rfl, rfl⟩
  rw [show decide (1024 < (wordsOf (val ys)).length) = false from HGB.out]
  go_wp2_with fail
  refine Calls.mono (nCmp_calls a b len cap len' cap' xs ys w8 hA8 hB8 (by omega) (by omega)) ?_
  rintro e w8 ⟨rfl, rfl⟩
  go_wp2_with fail
  go_ret
  exact ⟨nret_bool (by simp), hbw8⟩

theorem natSums_walk (a : Option Addr) (len cap : Nat) (xs : List Int) (b : Option Addr) (len' cap' : Nat) (ys : List Int) (w : World) (hA : IsW w a len cap xs) (hm : len ≤ 17592186044415) (hB : IsW w b len' cap' ys) (hm' : len' ≤ 17592186044415) (_hT : Tab w) (hP : TabP w) :
    Calls Tryz.prog 20 #[.slice a len cap, .slice b len' cap'] w fun e w' => e = .returned (.bool true) ∧ Below w.heap.size w w' := by
  cases hg : greatB (val xs) with
  | true => exact sums_ga a b len cap len' cap' xs ys w hA hm hB hm' hP hg
  | false =>
    cases hg2 : greatB (val ys) with
    | true => exact sums_gb a b len cap len' cap' xs ys w hA hm hB hm' hP hg hg2
    | false => exact sums_fit a b len cap len' cap' xs ys w hA hm hB hm' hP hg hg2
end Go.Proofs.YtfafhinjcligaaaGreatDoor
