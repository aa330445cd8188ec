/- The walk of the statements' first question: answers that the document gives. -/
import Derived.Test.YtfmjgagajlhfoaaDoorNDiv1
import Derived.Test.YtfmjgagajlhfoaaDoorNText
namespace Go.Proofs.YtfmjgagajlhfoaaDoor
open Go.RowKit

theorem fits_small (n : Nat) (h : n < 2 ^ 128) : greatB n = false := (great_not n).2 (by have := (blen_le n 128).2 h; omega)
theorem words_two : wordsOf 18446744073709551616 = [0, 1] := by
  rw [words_pos _ (by decide), words_pos _ (by decide), show 18446744073709551616 / 18446744073709551616 / 18446744073709551616 = 0 by decide, words_zero]; rfl
theorem words_single (n : Nat) (h0 : 0 < n) (h : n < 18446744073709551616) : wordsOf n = [(n : Int)] := by
  rw [words_pos n (by omega), Nat.mod_eq_of_lt h, Nat.div_eq_of_lt h, words_zero]
theorem dec_lives : Lib.decDigits 18446744073709551616 = [49, 56, 52, 52, 54, 55, 52, 52, 48, 55, 51, 55, 48, 57, 53, 53, 49, 54, 49, 54] := by
  have := dec_pad 19 1 8446744073709551616 (by decide) (by decide)
  rw [show 1 * 10 ^ 19 + 8446744073709551616 = 18446744073709551616 by decide, dec_small (u := 1) (by decide)] at this
  rw [this]; decide
theorem lit1_isW (x : Int) (t : TypeId) (w : World) (b : Nat) (hb : b = w.heap.size) (h0 : 0 ≤ x) (h1 : x ≤ 18446744073709551615) : IsW (w.alloc (.cells #[.int .u64 x] t)) (some ⟨b, 0, none⟩) 1 1 [x] := by
  subst hb
  refine ⟨rfl, fun y hy => ?_, ⟨Nat.le_refl _, fun e => by cases e⟩, fun i hi => ?_⟩
  · simp at hy; subst hy; exact ⟨h0, h1⟩
  · obtain rfl : i = 0 := by omega
    exact ⟨w.heap.size, 0, rfl, by simp, by go_simp⟩
theorem lit2_isW (x y : Int) (t : TypeId) (w : World) (b : Nat) (hb : b = w.heap.size) (h0 : 0 ≤ x) (h1 : x ≤ 18446744073709551615) (h2 : 0 ≤ y) (h3 : y ≤ 18446744073709551615) : IsW (w.alloc (.cells #[.int .u64 x, .int .u64 y] t)) (some ⟨b, 0, none⟩) 2 2 [x, y] := by
  subst hb
  refine ⟨rfl, fun z hz => ?_, ⟨Nat.le_refl _, fun e => by cases e⟩, fun i hi => ?_⟩
  · simp at hz
    rcases hz with rfl | rfl
    · exact ⟨h0, h1⟩
    · exact ⟨h2, h3⟩
  · rcases (show i = 0 ∨ i = 1 by omega) with rfl | rfl
    · exact ⟨w.heap.size, 0, rfl, by simp, by go_simp⟩
    · exact ⟨w.heap.size, 0, rfl, by simp, by go_simp⟩

set_option maxRecDepth 100000 in
set_option maxHeartbeats 1000000 in
theorem misfit007 (w : World) : Calls Tryd.prog 28 #[.string ⟨#[48, 48, 55]⟩] w fun e w' => e = .returned (.int .i64 1) ∧ w' = w := by
  go_enter Tryd.func28, Tryd.ntmps28
  go_wp2_with fail
  refine wp_loop_rounds 2 ?_
  rw [rounds_succ]
  go_wp2_with fail
  rw [rounds_succ]
  go_wp2_with fail
  go_ret
  exact ⟨rfl, rfl⟩

set_option maxRecDepth 100000 in
set_option maxHeartbeats 1000000 in
theorem parse007 (w : World) : Calls Tryd.prog 6 #[.string ⟨#[48, 48, 55]⟩] w fun e w' => e = .returned (.tuple #[.slice none 0 0, .int .i64 32, .int .i64 1]) ∧ w' = w := by
  go_enter Tryd.func6, Tryd.ntmps6
  go_wp2_with fail
  refine Calls.mono (misfit007 _) ?_
  rintro e w ⟨rfl, rfl⟩
  go_wp2_with fail
  go_ret3
  exact ⟨rfl, rfl⟩

set_option maxRecDepth 100000 in
set_option maxHeartbeats 4000000 in
theorem lives_calls (w : World) (hT : TabP w) : Calls Tryd.prog 8 #[] w fun e w' => e = .returned (.bool true) ∧ Below w.heap.size w w' := by
  have eA : addR (val [18446744073709551615]) (val [1]) = (18446744073709551616, 0) := by
    have h : val [(18446744073709551615 : Int)] = 18446744073709551615 := rfl
    have h' : val [(1 : Int)] = 1 := rfl
    rw [h, h', addR_no (by rw [fits_small _ (by decide), fits_small _ (by decide)]; rfl), fitR_no (fits_small _ (by decide))]
  have eD : divE (val [0, 1]) (val [3]) = 0 ∧ divQ (val [0, 1]) (val [3]) = 6148914691236517205 ∧ divM (val [0, 1]) (val [3]) = 1 := by
    have h : val [(0 : Int), 1] = 18446744073709551616 := rfl
    have h' : val [(3 : Int)] = 3 := rfl
    rw [h, h']
    exact div_no (by rw [fits_small _ (by decide), fits_small _ (by decide)]; rfl) (by decide)
  have eT : greatB (val [(0 : Int), 1]) = false ∧ val [(0 : Int), 1] = 18446744073709551616 := ⟨fits_small _ (by decide), rfl⟩
  have EA : Hid _ := eA
  have ED : Hid _ := eD
  have ET : Hid _ := eT
  clear eA eD eT
  go_enter Tryd.func8, Tryd.ntmps8
  go_wp2_with fail
  refine Calls.mono (add_calls _ _ _ _ _ _ _ _ _ ((lit1_isW 18446744073709551615 39 w _ rfl (by decide) (by decide)).keep (below_one _ (.cells #[.int .u64 1] 39))) (lit1_isW 1 39 (w.alloc (.cells #[.int .u64 18446744073709551615] 39)) _ (by simp) (by decide) (by decide)) (by decide) (by decide)) ?_
  rintro e w1 ⟨v, rfl, ⟨a1, n1, c1, rfl, hn1, hO1⟩, hb1⟩
  rw [EA.out] at hn1 hO1 ⊢
  rw [words_two] at hn1 hO1
  have hn1' : n1 = 2 := hn1
  subst hn1'
  have hbw1 : Below w.heap.size w w1 := nbelow_trans (nbelow_trans (below_one _ _) (below_one _ _)) hb1
  have hI1 := hO1.1
  clear hb1 hn1 hO1 EA
  go_wp2_with fail
  refine Calls.mono (div_calls _ _ _ _ _ _ _ _ _ ((lit2_isW 0 1 39 w1 _ rfl (by decide) (by decide) (by decide) (by decide)).keep (below_one _ (.cells #[.int .u64 3] 39))) (lit1_isW 3 39 (w1.alloc (.cells #[.int .u64 0, .int .u64 1] 39)) _ (by simp) (by decide) (by decide)) (by decide) (by decide) (fun _ => over_one _ _ (by decide) (by decide))) ?_
  rintro e w2 ⟨v, v', rfl, ⟨a2, n2, c2, rfl, hn2, hO2⟩, ⟨a3, n3, c3, rfl, hn3, hO3⟩, hb2⟩
  rw [ED.out.1] at ⊢
  rw [ED.out.2.1, words_single _ (by decide) (by decide)] at hn2 hO2
  rw [ED.out.2.2, words_single _ (by decide) (by decide)] at hn3 hO3
  have hn2' : n2 = 1 := hn2
  have hn3' : n3 = 1 := hn3
  subst hn2' hn3'
  have hb12 : Below w1.heap.size w1 w2 := nbelow_trans (nbelow_trans (below_one _ _) (below_one _ _)) hb2
  have hbw2 := nbelow_trans hbw1 hb12
  have hI1' := hI1.keep hb12
  have hI2 := hO2.1
  have hI3 := hO3.1
  clear hn2 hO2 hn3 hO3 hb2 hb12 hI1 hbw1 ED
  have TC : Hid _ := text_calls _ _ _ _ _ (lit2_isW 0 1 39 w2 _ rfl (by decide) (by decide) (by decide) (by decide)) (by decide) (hT.kept (nbelow_trans hbw2 (below_one _ (.cells #[.int .u64 0, .int .u64 1] 39))))
  clear hT
  go_wp2_with fail
  refine Calls.mono TC.out ?_
  rintro e w3 ⟨_, he, hb3⟩
  have he := he ET.out.1
  rw [ET.out.2, dec_lives] at he
  subst he
  have hb23 := nbelow_trans (below_one w2 (.cells #[.int .u64 0, .int .u64 1] 39)) hb3
  have hbw3 := nbelow_trans hbw2 hb23
  have hJ1 := hI1'.keep hb23
  have hJ2 := hI2.keep hb23
  have hJ3 := hI3.keep hb23
  clear hI1' hI2 hI3 hb23 hb3 hbw2 TC ET
  go_wp2_with fail
  refine Calls.mono (parse007 _) ?_
  rintro e w3 ⟨rfl, rfl⟩
  go_wp2_with fail
  have hz3 := below_one w3 (.cells #[.int .u64 0, .int .u64 1] 39)
  refine Calls.mono (nSame_calls _ _ _ _ _ _ _ _ _ (hJ1.keep hz3) (lit2_isW 0 1 39 w3 _ rfl (by decide) (by decide) (by decide) (by decide)) (by decide) (by decide)) ?_
  rintro e w4 ⟨rfl, hb4⟩
  have hb34 := nbelow_trans hz3 hb4
  have hK2 := hJ2.keep hb34
  have hK3 := hJ3.keep hb34
  have hbw4 := nbelow_trans hbw3 hb34
  clear hb4 hb34 hz3 hJ1 hJ2 hJ3 hbw3
  rw [show decide ([(0 : Int), 1] = [0, 1]) = true from rfl]
  go_wp2_with fail
  have hz4 := below_one w4 (.cells #[.int .u64 6148914691236517205] 39)
  refine Calls.mono (nSame_calls _ _ _ _ _ _ _ _ _ (hK2.keep hz4) (lit1_isW 6148914691236517205 39 w4 _ rfl (by decide) (by decide)) (by decide) (by decide)) ?_
  rintro e w5 ⟨rfl, hb5⟩
  have hb45 := nbelow_trans hz4 hb5
  have hL3 := hK3.keep hb45
  have hbw5 := nbelow_trans hbw4 hb45
  clear hb5 hb45 hz4 hK2 hK3 hbw4
  rw [show decide ([((6148914691236517205 : Nat) : Int)] = [6148914691236517205]) = true from rfl]
  go_wp2_with fail
  have hz5 := below_one w5 (.cells #[.int .u64 1] 39)
  refine Calls.mono (nSame_calls _ _ _ _ _ _ _ _ _ (hL3.keep hz5) (lit1_isW 1 39 w5 _ rfl (by decide) (by decide)) (by decide) (by decide)) ?_
  rintro e w6 ⟨rfl, hb6⟩
  have hbw6 := nbelow_trans hbw5 (nbelow_trans hz5 hb6)
  clear hb6 hz5 hL3 hbw5
  rw [show decide ([((1 : Nat) : Int)] = [1]) = true from rfl]
  go_wp2_with fail
  go_ret
  exact ⟨rfl, hbw6⟩
end Go.Proofs.YtfmjgagajlhfoaaDoor
