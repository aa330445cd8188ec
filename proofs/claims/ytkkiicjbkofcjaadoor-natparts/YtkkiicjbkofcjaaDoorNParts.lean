/- The walk of the statement NatParts. -/
import Derived.Test.YtkkiicjbkofcjaaDoorNLives
namespace Go.Proofs.YtkkiicjbkofcjaaDoor
open Go.RowKit

set_option maxRecDepth 100000 in
set_option maxHeartbeats 4000000 in
theorem parts_great (a : Option Addr) (len cap : Nat) (xs : List Int) (x i : Int) (w : World) (hW : IsW w a len cap xs) (hm : len ≤ 17592186044415) (hx : 0 ≤ x ∧ x ≤ 18446744073709551615) (hi : -9223372036854775808 ≤ i ∧ i ≤ 9223372036854775807) (hT : Tab w) (hP : TabP w) (hg : greatB (val xs) = true) :
    Calls Tryd.prog 3 #[.slice a len cap, .int .u64 x, .int .i64 i] w fun e w' => e = .returned (.bool true) ∧ Below w.heap.size w w' := by
  have HG : Hid (greatB (val xs) = true) := hg
  have HF : Hid (fitR (val xs) = (0, 3)) := fitR_yes hg
  clear hg
  go_enter Tryd.func3, Tryd.ntmps3
  go_wp2_with fail
  refine Calls.mono (norm_calls a len cap xs w hW (by omega)) ?_
  rintro e w1 ⟨v, rfl, ⟨a1, n1, c1, rfl, hn1, hO1⟩, hb1⟩
  rw [HF.out] at hn1 hO1 ⊢
  have hW1 := hW.keep hb1
  have hT1 := hT.kept hb1
  have hP1 := hP.kept hb1
  have hI1 := hO1.1
  clear hW hT hP hO1
  rw [words_zero] at hn1 hI1
  have hn1' : n1 = 0 := hn1
  subst hn1'
  clear hn1
  go_wp2_with fail
  refine Calls.mono (len_calls a len cap xs w1 hW1 (by omega)) ?_
  rintro e w2 ⟨he1, he2, hb2⟩
  obtain rfl := he1 HG.out
  have hbw := nbelow_trans hb1 hb2
  have hW2 := hW1.keep hb2
  have hT2 := hT1.kept hb2
  have hP2 := hP1.kept hb2
  have hI2 := hI1.keep hb2
  clear hW1 hT1 hP1 hI1 hb1 hb2 he1 he2
  go_wp2_with fail
  refine Calls.mono (low_calls a len cap xs w2 hW2 (by omega) hT2) ?_
  rintro e w3 ⟨he1, he2, hb3⟩
  obtain rfl := he1 HG.out
  have hbw3 := nbelow_trans hbw hb3
  have hW3 := hW2.keep hb3
  have hP3 := hP2.kept hb3
  have hI3 := hI2.keep hb3
  clear hW2 hT2 hP2 hI2 hb3 hbw he1 he2
  go_wp2_with fail
  refine Calls.mono (bit_calls a len cap xs i w3 hW3 (by omega) hi.2) ?_
  rintro e w4 ⟨he1, he2, he3, hb4⟩
  obtain rfl := he1 HG.out
  have hbw4 := nbelow_trans hbw3 hb4
  have hW4 := hW3.keep hb4
  have hP4 := hP3.kept hb4
  have hI4 := hI3.keep hb4
  clear hW3 hP3 hI3 hb4 hbw3 he1 he2 he3
  go_wp2_with fail
  refine Calls.mono (lives_calls w4 hP4) ?_
  rintro e w5 ⟨rfl, hb5⟩
  have hbw5 := nbelow_trans hbw4 hb5
  have hW5 := hW4.keep hb5
  have hI5 := hI4.keep hb5
  clear hW4 hP4 hI4 hb5 hbw4
  go_wp2_with fail
  refine Calls.mono (of_calls x w5 hx.1 hx.2) ?_
  rintro e w6 ⟨v, rfl, ⟨a6, n6, c6, rfl, hn6, hO6⟩, hb6⟩
  have hbw6 := nbelow_trans hbw5 hb6
  have hW6 := hW5.keep hb6
  have hI6 := hI5.keep hb6
  have hJ6 := hO6.1
  have hn6l : n6 ≤ 1 := by rw [hn6, words_len]; omega
  clear hW5 hI5 hb6 hbw5 hO6 hn6
  go_wp2_with fail
  refine Calls.mono (nOf_calls x w6 hx.1 hx.2) ?_
  rintro e w7 ⟨a7, c7, rfl, hO7, hb7⟩
  have hK7 := hO7.isW (words_U _)
  obtain ⟨n7, hn7⟩ : ∃ n, n = (wordsOf x.toNat).length := ⟨_, rfl⟩
  have hn7l : n7 ≤ 1 := by rw [hn7, words_len]; omega
  rw [← hn7] at hK7 ⊢
  have hbw7 := nbelow_trans hbw6 hb7
  have hW7 := hW6.keep hb7
  have hI7 := hI6.keep hb7
  have hJ7 := hJ6.keep hb7
  clear hW6 hI6 hJ6 hb7 hbw6 hO7 hn7
  go_wp2_with fail
  refine Calls.mono (nSame_calls _ _ _ _ _ _ _ _ _ hJ7 hK7 (by omega) (by omega)) ?_
  rintro e w8 ⟨rfl, hb8⟩
  rw [show decide (wordsOf x.toNat = wordsOf x.toNat) = true by simp]
  have hbw8 := nbelow_trans hbw7 hb8
  have hW8 := hW7.keep hb8
  have hI8 := hI7.keep hb8
  clear hW7 hI7 hJ7 hK7 hb8 hbw7
  go_wp2_with fail
  refine Calls.mono (nGreat_calls a len cap xs w8 hW8 (by omega)) ?_
  rintro e w8 ⟨rfl, rfl⟩
  rw [show decide (1024 < (wordsOf (val xs)).length) = true from HG.out]
  go_wp2_with fail
  go_ret
  exact ⟨rfl, hbw8⟩

set_option maxRecDepth 100000 in
set_option maxHeartbeats 4000000 in
theorem parts_neg (a : Option Addr) (len cap : Nat) (xs : List Int) (x i : Int) (w : World) (hW : IsW w a len cap xs) (hm : len ≤ 17592186044415) (hx : 0 ≤ x ∧ x ≤ 18446744073709551615) (hi : -9223372036854775808 ≤ i ∧ i ≤ 9223372036854775807) (hT : Tab w) (hP : TabP w) (hg : greatB (val xs) = false) (hi0 : i < 0) :
    Calls Tryd.prog 3 #[.slice a len cap, .int .u64 x, .int .i64 i] w fun e w' => e = .returned (.bool true) ∧ Below w.heap.size w w' := by
  have HG : Hid (greatB (val xs) = false) := hg
  have HF : Hid (fitR (val xs) = (val xs, 0)) := fitR_no hg
  clear hg
  go_enter Tryd.func3, Tryd.ntmps3
  go_wp2_with fail
  refine Calls.mono (norm_calls a len cap xs w hW (by omega)) ?_
  rintro e w1 ⟨v, rfl, ⟨a1, n1, c1, rfl, hn1, hO1⟩, hb1⟩
  rw [HF.out] at hn1 hO1 ⊢
  have hW1 := hW.keep hb1
  have hT1 := hT.kept hb1
  have hP1 := hP.kept hb1
  have hI1 := hO1.1
  clear hW hT hP hO1
  have HN1 : Hid (n1 = (wordsOf (val xs)).length) := hn1
  have hn1l : n1 ≤ 1024 := len_of_fit hn1 HG.out
  clear hn1
  go_wp2_with fail
  refine Calls.mono (len_calls a len cap xs w1 hW1 (by omega)) ?_
  rintro e w2 ⟨he1, he2, hb2⟩
  obtain rfl := he2 HG.out
  have hbw := nbelow_trans hb1 hb2
  have hW2 := hW1.keep hb2
  have hT2 := hT1.kept hb2
  have hP2 := hP1.kept hb2
  have hI2 := hI1.keep hb2
  clear hW1 hT1 hP1 hI1 hb1 hb2 he1 he2
  go_wp2_with fail
  refine Calls.mono (low_calls a len cap xs w2 hW2 (by omega) hT2) ?_
  rintro e w3 ⟨he1, he2, hb3⟩
  obtain rfl := he2 HG.out
  have hbw3 := nbelow_trans hbw hb3
  have hW3 := hW2.keep hb3
  have hP3 := hP2.kept hb3
  have hI3 := hI2.keep hb3
  clear hW2 hT2 hP2 hI2 hb3 hbw he1 he2
  go_wp2_with fail
  refine Calls.mono (bit_calls a len cap xs i w3 hW3 (by omega) hi.2) ?_
  rintro e w4 ⟨he1, he2, he3, hb4⟩
  obtain rfl := he2 HG.out hi0
  have hbw4 := nbelow_trans hbw3 hb4
  have hW4 := hW3.keep hb4
  have hP4 := hP3.kept hb4
  have hI4 := hI3.keep hb4
  clear hW3 hP3 hI3 hb4 hbw3 he1 he2 he3
  go_wp2_with fail
  refine Calls.mono (lives_calls w4 hP4) ?_
  rintro e w5 ⟨rfl, hb5⟩
  have hbw5 := nbelow_trans hbw4 hb5
  have hW5 := hW4.keep hb5
  have hI5 := hI4.keep hb5
  clear hW4 hP4 hI4 hb5 hbw4
  go_wp2_with fail
  refine Calls.mono (of_calls x w5 hx.1 hx.2) ?_
  rintro e w6 ⟨v, rfl, ⟨a6, n6, c6, rfl, hn6, hO6⟩, hb6⟩
  have hbw6 := nbelow_trans hbw5 hb6
  have hW6 := hW5.keep hb6
  have hI6 := hI5.keep hb6
  have hJ6 := hO6.1
  have hn6l : n6 ≤ 1 := by rw [hn6, words_len]; omega
  clear hW5 hI5 hb6 hbw5 hO6 hn6
  go_wp2_with fail
  refine Calls.mono (nOf_calls x w6 hx.1 hx.2) ?_
  rintro e w7 ⟨a7, c7, rfl, hO7, hb7⟩
  have hK7 := hO7.isW (words_U _)
  obtain ⟨n7, hn7⟩ : ∃ n, n = (wordsOf x.toNat).length := ⟨_, rfl⟩
  have hn7l : n7 ≤ 1 := by rw [hn7, words_len]; omega
  rw [← hn7] at hK7 ⊢
  have hbw7 := nbelow_trans hbw6 hb7
  have hW7 := hW6.keep hb7
  have hI7 := hI6.keep hb7
  have hJ7 := hJ6.keep hb7
  clear hW6 hI6 hJ6 hb7 hbw6 hO7 hn7
  go_wp2_with fail
  refine Calls.mono (nSame_calls _ _ _ _ _ _ _ _ _ hJ7 hK7 (by omega) (by omega)) ?_
  rintro e w8 ⟨rfl, hb8⟩
  rw [show decide (wordsOf x.toNat = wordsOf x.toNat) = true by simp]
  have hbw8 := nbelow_trans hbw7 hb8
  have hW8 := hW7.keep hb8
  have hI8 := hI7.keep hb8
  clear hW7 hI7 hJ7 hK7 hb8 hbw7
  go_wp2_with fail
  refine Calls.mono (nGreat_calls a len cap xs w8 hW8 (by omega)) ?_
  rintro e w8 ⟨rfl, rfl⟩
  rw [show decide (1024 < (wordsOf (val xs)).length) = false from HG.out]
  go_wp2_with fail
  refine Calls.mono (nNorm_calls a len cap xs w8 hW8 (by omega)) ?_
  rintro e w9 ⟨a9, c9, rfl, hO9, hb9⟩
  have hK9 := hO9.isW (words_U _)
  rw [← HN1.out] at hK9 ⊢
  have hbw9 := nbelow_trans hbw8 hb9
  have hW9 := hW8.keep hb9
  have hI9 := hI8.keep hb9
  clear hW8 hI8 hb9 hbw8 hO9
  go_wp2_with fail
  refine Calls.mono (nSame_calls _ _ _ _ _ _ _ _ _ hI9 hK9 (by omega) (by omega)) ?_
  rintro e w10 ⟨rfl, hb10⟩
  rw [show decide (wordsOf (val xs) = wordsOf (val xs)) = true by simp]
  have hbw10 := nbelow_trans hbw9 hb10
  have hW10 := hW9.keep hb10
  clear hW9 hI9 hK9 hb10 hbw9
  go_wp2_with fail
  refine Calls.mono (nLen_calls a len cap xs w10 hW10 (by omega)) ?_
  rintro e w11 ⟨rfl, hb11⟩
  have hbw11 := nbelow_trans hbw10 hb11
  have hW11 := hW10.keep hb11
  clear hW10 hb11 hbw10
  go_wp2_with fail
  refine Calls.mono (nLow_calls a len cap xs w11 hW11 (by omega)) ?_
  rintro e w12 ⟨rfl, hb12⟩
  have hbw12 := nbelow_trans hbw11 hb12
  have hW12 := hW11.keep hb12
  clear hW11 hb12 hbw11
  go_wp2_with fail
  refine Calls.mono (nBit_neg a len cap i w12 hi0) ?_
  rintro e w12 ⟨rfl, rfl⟩
  go_wp2_with fail
  go_ret
  exact ⟨nret_bool (by simp), hbw12⟩

set_option maxRecDepth 100000 in
set_option maxHeartbeats 4000000 in
theorem parts_pos (a : Option Addr) (len cap : Nat) (xs : List Int) (x : Int) (j : Nat) (w : World) (hW : IsW w a len cap xs) (hm : len ≤ 17592186044415) (hx : 0 ≤ x ∧ x ≤ 18446744073709551615) (hi : (j : Int) ≤ 9223372036854775807) (hT : Tab w) (hP : TabP w) (hg : greatB (val xs) = false) :
    Calls Tryd.prog 3 #[.slice a len cap, .int .u64 x, .int .i64 (j : Int)] w fun e w' => e = .returned (.bool true) ∧ Below w.heap.size w w' := by
  have HG : Hid (greatB (val xs) = false) := hg
  have HF : Hid (fitR (val xs) = (val xs, 0)) := fitR_no hg
  clear hg
  go_enter Tryd.func3, Tryd.ntmps3
  go_wp2_with fail
  refine Calls.mono (norm_calls a len cap xs w hW (by omega)) ?_
  rintro e w1 ⟨v, rfl, ⟨a1, n1, c1, rfl, hn1, hO1⟩, hb1⟩
  rw [HF.out] at hn1 hO1 ⊢
  have hW1 := hW.keep hb1
  have hT1 := hT.kept hb1
  have hP1 := hP.kept hb1
  have hI1 := hO1.1
  clear hW hT hP hO1
  have HN1 : Hid (n1 = (wordsOf (val xs)).length) := hn1
  have hn1l : n1 ≤ 1024 := len_of_fit hn1 HG.out
  clear hn1
  go_wp2_with fail
  refine Calls.mono (len_calls a len cap xs w1 hW1 (by omega)) ?_
  rintro e w2 ⟨he1, he2, hb2⟩
  obtain rfl := he2 HG.out
  have hbw := nbelow_trans hb1 hb2
  have hW2 := hW1.keep hb2
  have hT2 := hT1.kept hb2
  have hP2 := hP1.kept hb2
  have hI2 := hI1.keep hb2
  clear hW1 hT1 hP1 hI1 hb1 hb2 he1 he2
  go_wp2_with fail
  refine Calls.mono (low_calls a len cap xs w2 hW2 (by omega) hT2) ?_
  rintro e w3 ⟨he1, he2, hb3⟩
  obtain rfl := he2 HG.out
  have hbw3 := nbelow_trans hbw hb3
  have hW3 := hW2.keep hb3
  have hP3 := hP2.kept hb3
  have hI3 := hI2.keep hb3
  clear hW2 hT2 hP2 hI2 hb3 hbw he1 he2
  go_wp2_with fail
  refine Calls.mono (bit_calls a len cap xs (j : Int) w3 hW3 (by omega) hi) ?_
  rintro e w4 ⟨he1, he2, he3, hb4⟩
  obtain rfl := he3 HG.out (by omega)
  rw [Int.toNat_natCast]
  have hbw4 := nbelow_trans hbw3 hb4
  have hW4 := hW3.keep hb4
  have hP4 := hP3.kept hb4
  have hI4 := hI3.keep hb4
  clear hW3 hP3 hI3 hb4 hbw3 he1 he2 he3
  go_wp2_with fail
  refine Calls.mono (lives_calls w4 hP4) ?_
  rintro e w5 ⟨rfl, hb5⟩
  have hbw5 := nbelow_trans hbw4 hb5
  have hW5 := hW4.keep hb5
  have hI5 := hI4.keep hb5
  clear hW4 hP4 hI4 hb5 hbw4
  go_wp2_with fail
  refine Calls.mono (of_calls x w5 hx.1 hx.2) ?_
  rintro e w6 ⟨v, rfl, ⟨a6, n6, c6, rfl, hn6, hO6⟩, hb6⟩
  have hbw6 := nbelow_trans hbw5 hb6
  have hW6 := hW5.keep hb6
  have hI6 := hI5.keep hb6
  have hJ6 := hO6.1
  have hn6l : n6 ≤ 1 := by rw [hn6, words_len]; omega
  clear hW5 hI5 hb6 hbw5 hO6 hn6
  go_wp2_with fail
  refine Calls.mono (nOf_calls x w6 hx.1 hx.2) ?_
  rintro e w7 ⟨a7, c7, rfl, hO7, hb7⟩
  have hK7 := hO7.isW (words_U _)
  obtain ⟨n7, hn7⟩ : ∃ n, n = (wordsOf x.toNat).length := ⟨_, rfl⟩
  have hn7l : n7 ≤ 1 := by rw [hn7, words_len]; omega
  rw [← hn7] at hK7 ⊢
  have hbw7 := nbelow_trans hbw6 hb7
  have hW7 := hW6.keep hb7
  have hI7 := hI6.keep hb7
  have hJ7 := hJ6.keep hb7
  clear hW6 hI6 hJ6 hb7 hbw6 hO7 hn7
  go_wp2_with fail
  refine Calls.mono (nSame_calls _ _ _ _ _ _ _ _ _ hJ7 hK7 (by omega) (by omega)) ?_
  rintro e w8 ⟨rfl, hb8⟩
  rw [show decide (wordsOf x.toNat = wordsOf x.toNat) = true by simp]
  have hbw8 := nbelow_trans hbw7 hb8
  have hW8 := hW7.keep hb8
  have hI8 := hI7.keep hb8
  clear hW7 hI7 hJ7 hK7 hb8 hbw7
  go_wp2_with fail
  refine Calls.mono (nGreat_calls a len cap xs w8 hW8 (by omega)) ?_
  rintro e w8 ⟨rfl, rfl⟩
  rw [show decide (1024 < (wordsOf (val xs)).length) = false from HG.out]
  go_wp2_with fail
  refine Calls.mono (nNorm_calls a len cap xs w8 hW8 (by omega)) ?_
  rintro e w9 ⟨a9, c9, rfl, hO9, hb9⟩
  have hK9 := hO9.isW (words_U _)
  rw [← HN1.out] at hK9 ⊢
  have hbw9 := nbelow_trans hbw8 hb9
  have hW9 := hW8.keep hb9
  have hI9 := hI8.keep hb9
  clear hW8 hI8 hb9 hbw8 hO9
  go_wp2_with fail
  refine Calls.mono (nSame_calls _ _ _ _ _ _ _ _ _ hI9 hK9 (by omega) (by omega)) ?_
  rintro e w10 ⟨rfl, hb10⟩
  rw [show decide (wordsOf (val xs) = wordsOf (val xs)) = true by simp]
  have hbw10 := nbelow_trans hbw9 hb10
  have hW10 := hW9.keep hb10
  clear hW9 hI9 hK9 hb10 hbw9
  go_wp2_with fail
  refine Calls.mono (nLen_calls a len cap xs w10 hW10 (by omega)) ?_
  rintro e w11 ⟨rfl, hb11⟩
  have hbw11 := nbelow_trans hbw10 hb11
  have hW11 := hW10.keep hb11
  clear hW10 hb11 hbw10
  go_wp2_with fail
  refine Calls.mono (nLow_calls a len cap xs w11 hW11 (by omega)) ?_
  rintro e w12 ⟨rfl, hb12⟩
  have hbw12 := nbelow_trans hbw11 hb12
  have hW12 := hW11.keep hb12
  clear hW11 hb12 hbw11
  go_wp2_with fail
  refine Calls.mono (nBit_calls a len cap xs j w12 hW12 (by omega)) ?_
  rintro e w12 ⟨rfl, rfl⟩
  go_wp2_with fail
  go_ret
  exact ⟨nret_bool (by simp), hbw12⟩

theorem natParts_walk (a : Option Addr) (len cap : Nat) (xs : List Int) (x i : Int) (w : World) (hW : IsW w a len cap xs) (hm : len ≤ 17592186044415) (hx : 0 ≤ x ∧ x ≤ 18446744073709551615) (hi : -9223372036854775808 ≤ i ∧ i ≤ 9223372036854775807) (hT : Tab w) (hP : TabP w) :
    Calls Tryd.prog 3 #[.slice a len cap, .int .u64 x, .int .i64 i] w fun e w' => e = .returned (.bool true) ∧ Below w.heap.size w w' := by
  cases hg : greatB (val xs) with
  | true => exact parts_great a len cap xs x i w hW hm hx hi hT hP hg
  | false =>
    by_cases h0 : i < 0
    · exact parts_neg a len cap xs x i w hW hm hx hi hT hP hg h0
    · obtain ⟨j, rfl⟩ := Int.eq_ofNat_of_zero_le (show 0 ≤ i by omega)
      exact parts_pos a len cap xs x j w hW hm hx hi.2 hT hP hg
end Go.Proofs.YtkkiicjbkofcjaaDoor
