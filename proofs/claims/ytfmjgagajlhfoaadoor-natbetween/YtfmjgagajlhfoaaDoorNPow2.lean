/- The walk of Pow as it is called. -/
import Derived.Test.YtfmjgagajlhfoaaDoorNPow
import Derived.Test.YtfmjgagajlhfoaaDoorNShs
namespace Go.Proofs.YtfmjgagajlhfoaaDoor
open Go.RowKit

/-- A power, or why there is none. -/
def powR (u : Nat) (m : Int) : Nat × Int := if greatB u = true then (0, 3) else if m < 0 then (0, 2) else fitR (u ^ m.toNat)
theorem powR_great {u : Nat} {m : Int} (h : greatB u = true) : powR u m = (0, 3) := by unfold powR; rw [if_pos h]
theorem powR_neg {u : Nat} {m : Int} (h : greatB u = false) (h2 : m < 0) : powR u m = (0, 2) := by unfold powR; rw [if_neg (by rw [h]; decide), if_pos h2]
theorem powR_fit {u j : Nat} (h : greatB u = false) : powR u (j : Int) = fitR (u ^ j) := by unfold powR; rw [if_neg (by rw [h]; decide), if_neg (by omega), Int.toNat_natCast]
theorem pow_mono2 (a b : Nat) (h : a ≤ b) : 2 ^ a ≤ 2 ^ b := Nat.pow_le_pow_right (by decide) h
theorem pow_lt2 (a b : Nat) (h : a < b) : 2 ^ a < 2 ^ b := Nat.pow_lt_pow_right (by decide) h
theorem pow_many {u j : Nat} (hb : 1 < blen u) (h : 65535 / (blen u - 1) < j) : greatB (u ^ j) = true := by
  have hu : u ≠ 0 := fun e => by rw [e] at hb; simp [blen_zero] at hb
  have h1 := blen_ge u hu
  have h2 := Nat.pow_le_pow_left h1 j
  rw [← Nat.pow_mul] at h2
  rw [great_iff]
  rw [Nat.div_lt_iff_lt_mul (by omega)] at h
  rcases Nat.lt_or_ge 65536 (blen (u ^ j)) with q | q
  · exact q
  · exfalso
    have h3 := (blen_le _ _).1 q
    have h4 := pow_mono2 65536 ((blen u - 1) * j) (by rw [Nat.mul_comm]; omega)
    exact absurd (Nat.lt_of_le_of_lt h2 h3) (Nat.not_lt.2 h4)
theorem pow_small {u j : Nat} (h : ¬ (1 < blen u ∧ 65535 / (blen u - 1) < j)) : (wordsOf (u ^ j)).length ≤ 4000 := by
  by_cases hb : 1 < blen u
  · have h1 : ¬ 65535 / (blen u - 1) < j := fun q => h ⟨hb, q⟩
    suffices hs : ∀ K, K = 4000 → (wordsOf (u ^ j)).length ≤ K from hs _ rfl
    intro K hK
    rw [words_len2, blen_le]
    rw [Nat.div_lt_iff_lt_mul (by omega)] at h1
    have h2 := Nat.pow_le_pow_left (Nat.le_of_lt (lt_blen u)) j
    rw [← Nat.pow_mul] at h2
    refine Nat.lt_of_le_of_lt h2 (pow_lt2 _ _ ?_)
    obtain ⟨b, hb2⟩ : ∃ b, blen u = b + 1 := ⟨blen u - 1, by omega⟩
    rw [hb2] at h1 hb ⊢
    rw [Nat.add_sub_cancel] at h1
    rw [Nat.add_mul, Nat.one_mul]
    have h3 : j * 1 ≤ j * b := Nat.mul_le_mul_left j (by omega)
    rw [Nat.mul_comm b j]
    omega
  · have hu : u ≤ 1 := by
      have := (blen_le u 1).1 (by omega)
      omega
    have h2 : u ^ j ≤ 1 := by
      have := Nat.pow_le_pow_left hu j
      rwa [Nat.one_pow] at this
    suffices hs : ∀ K, 0 < K → (wordsOf (u ^ j)).length ≤ K from hs _ (by decide)
    intro K hK
    rw [words_len]
    exact Nat.lt_of_le_of_lt h2 (one_lt_big _ hK)

set_option maxRecDepth 100000 in
set_option maxHeartbeats 1000000 in
theorem pow_calls (a : Option Addr) (len cap : Nat) (xs : List Int) (i : Int) (w : World) (h : IsW w a len cap xs) (hm : len ≤ 17592186044416) (hi1 : i ≤ 9223372036854775807) :
    Calls Tryd.prog 16 #[.slice a len cap, .int .i64 i] w fun e w' => ∃ v, e = .returned (.tuple #[v, .int .i64 (powR (val xs) i).2]) ∧ NatAt w.heap.size w' v (powR (val xs) i).1 ∧ Below w.heap.size w w' := by
  have HT := withCount_calls a len cap xs i w h hm
  go_enter Tryd.func16, Tryd.ntmps16
  go_wp2_with fail
  refine Calls.mono HT ?_
  rintro e w1 ⟨h1, h2, h3, hb⟩
  clear HT
  cases hg : greatB (val xs) with
  | true =>
    obtain rfl := h1 hg
    have e0 : Hid _ := powR_great (m := i) hg
    clear h1 h2 h3 hg
    go_wp2_with fail
    go_ret2
    rw [e0.out]
    exact ⟨_, rfl, natAt_nil _ _, hb⟩
  | false =>
    by_cases hi : i < 0
    · obtain rfl := h2 hg hi
      have e0 : Hid _ := powR_neg hg hi
      clear h1 h2 h3 hg
      go_wp2_with fail
      go_ret2
      rw [e0.out]
      exact ⟨_, rfl, natAt_nil _ _, hb⟩
    · obtain ⟨a1, n, rfl, hn, hn2, hI⟩ := h3 hg (by omega)
      obtain ⟨j, rfl⟩ := Int.eq_ofNat_of_zero_le (show 0 ≤ i by omega)
      have e0 : Hid _ := powR_fit (u := val xs) (j := j) hg
      have HG : Hid _ := hg
      have hbl : blen (val xs) ≤ 65536 := (great_not _).1 hg
      clear h1 h2 h3 hg hn
      have BC : Hid _ := bits_calls a1 n (val xs) w1 hI (by omega)
      obtain ⟨b, hbb⟩ : ∃ b, b = blen (val xs) := ⟨_, rfl⟩
      have HPM : Hid (1 < b → 65535 / (b - 1) < j → greatB (val xs ^ j) = true) := fun q1 q2 => by rw [hbb] at q1 q2; exact pow_many q1 q2
      have HPS : Hid (¬ (1 < b ∧ 65535 / (b - 1) < j) → (wordsOf (val xs ^ j)).length ≤ 4000) := fun q => by rw [hbb] at q; exact pow_small q
      rw [← hbb] at BC hbl
      clear hbb
      have PC : Hid ((wordsOf (val xs ^ j)).length ≤ 4000 → _) := fun hf => power_calls a1 n (val xs) j w1 hI (by omega) (by omega) hf
      by_cases hb1 : 1 < b
      · have hd0 : ((b : Int) - 1 == 0) = false := by simp; omega
        obtain ⟨c, hc⟩ : ∃ c, c = 65535 / (b - 1) := ⟨_, rfl⟩
        have hc2 : (65535 : Int) / ((b : Int) - 1) = (c : Int) := by
          rw [hc, Int.natCast_ediv, Int.natCast_sub (by omega)]; rfl
        rw [← hc] at HPM HPS
        clear hc
        by_cases hc3 : c < j
        · have HQ : Hid (fitR (val xs ^ j) = (0, 3)) := fitR_yes (HPM.out hb1 hc3)
          go_wp2_with fail
          refine Calls.mono BC.out ?_
          rintro e w1 ⟨rfl, rfl⟩
          go_wp2_with fail
          refine Calls.mono BC.out ?_
          rintro e w1 ⟨rfl, rfl⟩
          go_wp2_with fail
          go_ret2
          rw [e0.out, HQ.out]
          exact ⟨_, rfl, natAt_nil _ _, hb⟩
        · have hf := HPS.out (fun q => hc3 q.2)
          have PD : Hid _ := PC.out hf
          have hf2 : Hid _ := hf
          clear PC HPM HPS hf
          go_wp2_with fail
          refine Calls.mono BC.out ?_
          rintro e w1 ⟨rfl, rfl⟩
          go_wp2_with fail
          refine Calls.mono BC.out ?_
          rintro e w1 ⟨rfl, rfl⟩
          go_wp2_with fail
          refine Calls.mono PD.out ?_
          rintro e w2 ⟨ao, m, rfl, hmm, hO, hb2⟩
          have hml : m ≤ 4000 := by rw [hmm]; exact hf2.out
          clear PD BC hmm
          go_wp2_with fail
          refine Calls.mono (answer_calls _ ao m m _ w2 hO (by omega)) ?_
          rintro e w3 ⟨v, rfl, hA, hb3⟩
          rw [val_words] at hA ⊢
          go_wp2_with fail
          go_ret2
          rw [e0.out]
          exact ⟨v, rfl, hA.low hb.size, nbelow_trans (nbelow_trans hb hb2) hb3⟩
      · have hf := HPS.out (fun q => hb1 q.1)
        have PD : Hid _ := PC.out hf
        have hf2 : Hid _ := hf
        clear PC HPM HPS hf
        go_wp2_with fail
        refine Calls.mono BC.out ?_
        rintro e w1 ⟨rfl, rfl⟩
        go_wp2_with fail
        refine Calls.mono PD.out ?_
        rintro e w2 ⟨ao, m, rfl, hmm, hO, hb2⟩
        have hml : m ≤ 4000 := by rw [hmm]; exact hf2.out
        clear PD BC hmm
        go_wp2_with fail
        refine Calls.mono (answer_calls _ ao m m _ w2 hO (by omega)) ?_
        rintro e w3 ⟨v, rfl, hA, hb3⟩
        rw [val_words] at hA ⊢
        go_wp2_with fail
        go_ret2
        rw [e0.out]
        exact ⟨v, rfl, hA.low hb.size, nbelow_trans (nbelow_trans hb hb2) hb3⟩
end Go.Proofs.YtfmjgagajlhfoaaDoor
