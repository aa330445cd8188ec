/- Powers; the calls of package nat where what they come to is known; the walk of the statement NatOwn. -/
import Derived.Test.YtfafhinjcligaaaGreatDoorNMul2
import Derived.Test.YtfafhinjcligaaaGreatDoorNDiv1
import Derived.Test.YtfafhinjcligaaaGreatDoorNShs
import Derived.Test.YtfafhinjcligaaaGreatDoorNOver
import Derived.Test.YtfafhinjcligaaaGreatDoorNSums
import Derived.Test.YtfafhinjcligaaaGreatDoorNProducts
namespace Go.Proofs.YtfafhinjcligaaaGreatDoor
open Go.RowKit

set_option maxHeartbeats 1000000 in
theorem lenU_calls (x : Nat) (w : World) (h : x < 18446744073709551616) :
    Calls Tryz.prog 60 #[.int .u64 (x : Int)] w fun e w' => e = .returned (.int .i64 (blen x)) ∧ w' = w := by
  have hb : Hid (Lib.bitLen x = blen x) := blen_lib x h
  go_enter Tryz.func60, Tryz.ntmps60
  go_wp2_with fail
  refine Calls.mono (Tryz.bits_Len64 _ _ (by omega) (by omega)) ?_
  rintro e w ⟨rfl, rfl⟩
  rw [Int.toNat_natCast, hb.out]
  go_wp2_with fail
  go_ret
  exact ⟨rfl, rfl⟩

theorem bit_i64 (x : Nat) (h : x < 9223372036854775808) : bits BinOp.and IntKind.i64 (x : Int) 1 = ((x % 2 : Nat) : Int) := by
  have h1 : (BitVec.ofInt 64 (x : Int)).toNat = x := by
    rw [BitVec.ofInt_natCast, BitVec.toNat_ofNat]; exact Nat.mod_eq_of_lt (by omega)
  have h2 : (BitVec.ofInt 64 (1 : Int)).toNat = 1 := by decide
  show IntKind.i64.wrap ((BitVec.ofInt 64 (x : Int) &&& BitVec.ofInt 64 (1 : Int)).toNat : Int) = _
  rw [BitVec.toNat_and, h1, h2, Nat.and_one_is_mod, IntKind.wrap_i64]
  omega
theorem pow_half (n d : Nat) : n / 2 ^ d = 2 * (n / 2 ^ (d + 1)) + n / 2 ^ d % 2 := by
  rw [Nat.pow_succ, ← Nat.div_div_eq_div_mul]; omega
theorem pow_step (v n d : Nat) : v ^ (n / 2 ^ d) = v ^ (n / 2 ^ (d + 1)) * v ^ (n / 2 ^ (d + 1)) * v ^ (n / 2 ^ d % 2) := by
  conv => lhs; rw [pow_half n d, Nat.pow_add, Nat.two_mul, Nat.pow_add]
theorem one_lt_big (k : Nat) (h : 0 < k) : 1 < 18446744073709551616 ^ k := Nat.one_lt_pow (by omega) (by decide)
theorem pow_le_len (v n j K : Nat) (hK : 0 < K) (hj : j ≤ n) (hf : (wordsOf (v ^ n)).length ≤ K) : (wordsOf (v ^ j)).length ≤ K := by
  rw [words_len] at *
  rcases Nat.eq_zero_or_pos v with h | h
  · subst h
    have : (0 : Nat) ^ j ≤ 1 := by cases j <;> simp
    exact Nat.lt_of_le_of_lt this (one_lt_big _ hK)
  · exact Nat.lt_of_le_of_lt (Nat.pow_le_pow_right h hj) hf

set_option maxRecDepth 100000 in
set_option maxHeartbeats 1000000 in
theorem power_calls (a : Option Addr) (k v n : Nat) (w : World) (h : IsW w a k k (wordsOf v)) (hk : k ≤ 4000) (hn : n ≤ 9223372036854775807) (hf : (wordsOf (v ^ n)).length ≤ 4000) :
    Calls Tryz.prog 28 #[.slice a k k, .int .i64 (n : Int)] w fun e w' => ∃ (ao : Option Addr) (m : Nat), e = .returned (.slice ao m m) ∧ m = (wordsOf (v ^ n)).length ∧ OwnW w.heap.size w' ao m m (wordsOf (v ^ n)) ∧ Below w.heap.size w w' := by
  obtain ⟨L, hL⟩ : ∃ L, L = blen n := ⟨_, rfl⟩
  have LC : Hid (∀ W : World, Calls Tryz.prog 60 #[.int .u64 (n : Int)] W fun e w' => e = .returned (.int .i64 (L : Int)) ∧ w' = W) := fun W => by
    rw [hL]; exact lenU_calls n W (by omega)
  have HN : Hid (n < 2 ^ L) := by rw [hL]; exact lt_blen n
  have hL64 : L ≤ 63 := by rw [hL, blen_le]; have : (2 : Nat) ^ 63 = 9223372036854775808 := rfl; omega
  have HF : Hid ((wordsOf (v ^ n)).length ≤ 4000) := hf
  clear hL hf
  go_enter Tryz.func28, Tryz.ntmps28
  go_wp2_with fail
  refine Calls.mono (word_calls 1 w (by omega) (by omega)) ?_
  rintro e w1 ⟨a1, n1, rfl, hn1, hO1, hb1⟩
  have HN1 : Hid (n1 = (wordsOf 1).length) := hn1
  clear hn1
  go_wp2_with fail
  refine Calls.mono (LC.out _) ?_
  rintro e w1 ⟨rfl, rfl⟩
  go_wp2_with fail
  go_loopw [5, 11] (fun vm vi wr => ∃ (i m : Nat) (ao : Option Addr), i ≤ L ∧ vi = .int .i64 (i : Int) ∧ vm = .slice ao m m ∧ Hid (m = (wordsOf (v ^ (n / 2 ^ (L - i)))).length) ∧ OwnW w.heap.size wr ao m m (wordsOf (v ^ (n / 2 ^ (L - i)))) ∧ Below w.heap.size w wr) (fun _ vi _ => L - (intOf vi).toNat)
  case atStart =>
    have e0 : n / 2 ^ (L - 0) = 0 := Nat.div_eq_of_lt HN.out
    exact ⟨0, n1, a1, by omega, rfl, rfl, by rw [e0, Nat.pow_zero]; exact HN1, by rw [e0, Nat.pow_zero]; exact hO1, hb1⟩
  case round =>
    clear hO1 hb1
    obtain ⟨i, m, ao, hi, rfl, rfl, HM, hO, hbr⟩ := hrel
    by_cases hlt : i < L
    · have hm : m ≤ 4000 := by rw [HM.out]; exact pow_le_len v n _ _ (by decide) (Nat.div_le_self _ _) HF.out
      go_wp2_with fail
      refine Calls.mono (times_calls ao ao m m _ _ wr hO.1 hO.1 (by omega) (by omega)) ?_
      rintro e w2 ⟨a2, k2, M, rfl, hO2, hv2, hk2, hb2⟩
      rw [val_words] at hv2
      have HV2 : Hid (val M = v ^ (n / 2 ^ (L - i)) * v ^ (n / 2 ^ (L - i))) := hv2
      have hb3 := nbelow_trans hbr hb2
      have hwr : w.heap.size ≤ wr.heap.size := hbr.size
      clear hv2 hO HM hbr
      go_wp2_with fail
      refine Calls.mono (trimW_pack _ a2 k2 k2 M w2 hO2 (by omega)) ?_
      rintro e w2 ⟨a3, k3, rfl, hk3, hO3, rfl⟩
      rw [HV2.out] at hk3 hO3
      have HK3 : Hid (k3 = (wordsOf (v ^ (n / 2 ^ (L - i)) * v ^ (n / 2 ^ (L - i)))).length) := hk3
      clear hk3 hO2
      go_wp2_with fail
      refine Calls.mono (LC.out _) ?_
      rintro e w2 ⟨rfl, rfl⟩
      have hqe : (n : Int) / 2 ^ (L - 1 - i) = ((n / 2 ^ (L - 1 - i) : Nat) : Int) := by rw [Int.natCast_ediv, Int.natCast_pow]; rfl
      have hqb : bits BinOp.and IntKind.i64 ((n / 2 ^ (L - 1 - i) : Nat) : Int) 1 = ((n / 2 ^ (L - 1 - i) % 2 : Nat) : Int) := bit_i64 _ (by have := Nat.div_le_self n (2 ^ (L - 1 - i)); omega)
      have HPS : Hid (v ^ (n / 2 ^ (L - (i + 1))) = v ^ (n / 2 ^ (L - i)) * v ^ (n / 2 ^ (L - i)) * v ^ (n / 2 ^ (L - 1 - i) % 2)) := by
        have := pow_step v n (L - 1 - i)
        rw [show L - 1 - i + 1 = L - i by omega] at this
        rw [show L - (i + 1) = L - 1 - i by omega]; exact this
      have hsq : k3 ≤ 4000 := by
        rw [HK3.out, ← Nat.pow_add]
        refine pow_le_len v n _ _ (by decide) ?_ HF.out
        have h1 := pow_half n (L - 1 - i)
        rw [show L - 1 - i + 1 = L - i by omega] at h1
        have h2 := Nat.div_le_self n (2 ^ (L - 1 - i))
        omega
      obtain ⟨bt, hbt⟩ : ∃ bt, bt = n / 2 ^ (L - 1 - i) % 2 := ⟨_, rfl⟩
      rw [← hbt] at hqb HPS
      have hbt2 : bt = 0 ∨ bt = 1 := by omega
      have HLM : Hid (L - (i + 1) = L - 1 - i) := by rw [Hid]; omega
      clear hbt
      generalize hX : n / 2 ^ (L - 1 - i) = X at *
      clear hX
      rcases hbt2 with rfl | rfl
      · rw [Nat.pow_zero, Nat.mul_one] at HPS
        go_wp2_with fail
        refine ⟨⟨i + 1, k3, a3, by omega, by go_num, rfl, by rw [HPS.out]; exact HK3, by rw [HPS.out]; exact hO3.low hwr, hb3⟩, by simp [intOf]; omega⟩
      · rw [Nat.pow_one] at HPS
        go_wp2_with fail
        refine Calls.mono (times_calls a3 a k3 k _ _ w2 hO3.1 (h.keep hb3) (by omega) (by omega)) ?_
        rintro e w4 ⟨a4, k4, M4, rfl, hO4, hv4, hk4, hb4⟩
        rw [val_words, val_words] at hv4
        have HV4 : Hid (val M4 = v ^ (n / 2 ^ (L - (i + 1)))) := by rw [Hid, HPS.out]; exact hv4
        have hb5 := nbelow_trans hb3 hb4
        clear hv4 hO3 hb4
        go_wp2_with fail
        refine Calls.mono (trimW_pack _ a4 k4 k4 M4 w4 hO4 (by omega)) ?_
        rintro e w4 ⟨a5, k5, rfl, hk5, hO5, rfl⟩
        rw [HV4.out] at hk5 hO5
        have HK5 : Hid (k5 = (wordsOf (v ^ (n / 2 ^ (L - (i + 1))))).length) := hk5
        have hlow : w.heap.size ≤ w2.heap.size := hb3.size
        clear hk5 hO4
        go_wp2_with fail
        refine ⟨⟨i + 1, k5, a5, by omega, by go_num, rfl, HK5, hO5.low hlow, hb5⟩, by simp [intOf]; omega⟩
    · have e0 : n / 2 ^ (L - i) = n := by rw [show L - i = 0 by omega, Nat.pow_zero, Nat.div_one]
      rw [e0] at HM hO
      clear e0
      go_wp2_with fail
      go_ret
      exact ⟨ao, m, rfl, HM.out, hO, hbr⟩

/-- A power, or why there is none. -/
def powR (u : Nat) (m : Int) : Nat × Int := if greatB u = true then (0, 3) else if m < 0 then (0, 2) else fitR (u ^ m.toNat)
theorem powR_great {u : Nat} {m : Int} (h : greatB u = true) : powR u m = (0, 3) := by unfold powR; rw [if_pos h]
theorem powR_neg {u : Nat} {m : Int} (h : greatB u = false) (h2 : m < 0) : powR u m = (0, 2) := by unfold powR; rw [if_neg (by rw [h]; decide), if_pos h2]
theorem powR_fit {u j : Nat} (h : greatB u = false) : powR u (j : Int) = fitR (u ^ j) := by unfold powR; rw [if_neg (by rw [h]; decide), if_neg (by omega), Int.toNat_natCast]
theorem pow_mono2 (a b : Nat) (h : a ≤ b) : 2 ^ a ≤ 2 ^ b := Nat.pow_le_pow_right (by decide) h
theorem pow_lt2 (a b : Nat) (h : a < b) : 2 ^ a < 2 ^ b := Nat.pow_lt_pow_right (by decide) h
theorem pow_many {u j : Nat} (hb : 1 < blen u) (h : 65535 / (blen u - 1) < j) : greatB (u ^ j) = true := by
  have hu : u ≠ 0 := fun e => by rw [e] at hb; simp [blen_zero] at hb
  have h1 := blen_ge u hu
  have h2 := Nat.pow_le_pow_left h1 j
  rw [← Nat.pow_mul] at h2
  rw [great_iff]
  rw [Nat.div_lt_iff_lt_mul (by omega)] at h
  rcases Nat.lt_or_ge 65536 (blen (u ^ j)) with q | q
  · exact q
  · exfalso
    have h3 := (blen_le _ _).1 q
    have h4 := pow_mono2 65536 ((blen u - 1) * j) (by rw [Nat.mul_comm]; omega)
    exact absurd (Nat.lt_of_le_of_lt h2 h3) (Nat.not_lt.2 h4)
theorem pow_small {u j : Nat} (h : ¬ (1 < blen u ∧ 65535 / (blen u - 1) < j)) : (wordsOf (u ^ j)).length ≤ 4000 := by
  by_cases hb : 1 < blen u
  · have h1 : ¬ 65535 / (blen u - 1) < j := fun q => h ⟨hb, q⟩
    suffices hs : ∀ K, K = 4000 → (wordsOf (u ^ j)).length ≤ K from hs _ rfl
    intro K hK
    rw [words_len2, blen_le]
    rw [Nat.div_lt_iff_lt_mul (by omega)] at h1
    have h2 := Nat.pow_le_pow_left (Nat.le_of_lt (lt_blen u)) j
    rw [← Nat.pow_mul] at h2
    refine Nat.lt_of_le_of_lt h2 (pow_lt2 _ _ ?_)
    obtain ⟨b, hb2⟩ : ∃ b, blen u = b + 1 := ⟨blen u - 1, by omega⟩
    rw [hb2] at h1 hb ⊢
    rw [Nat.add_sub_cancel] at h1
    rw [Nat.add_mul, Nat.one_mul]
    have h3 : j * 1 ≤ j * b := Nat.mul_le_mul_left j (by omega)
    rw [Nat.mul_comm b j]
    omega
  · have hu : u ≤ 1 := by
      have := (blen_le u 1).1 (by omega)
      omega
    have h2 : u ^ j ≤ 1 := by
      have := Nat.pow_le_pow_left hu j
      rwa [Nat.one_pow] at this
    suffices hs : ∀ K, 0 < K → (wordsOf (u ^ j)).length ≤ K from hs _ (by decide)
    intro K hK
    rw [words_len]
    exact Nat.lt_of_le_of_lt h2 (one_lt_big _ hK)

set_option maxRecDepth 100000 in
set_option maxHeartbeats 1000000 in
theorem pow_calls (a : Option Addr) (len cap : Nat) (xs : List Int) (i : Int) (w : World) (h : IsW w a len cap xs) (hm : len ≤ 17592186044416) (hi1 : i ≤ 9223372036854775807) :
    Calls Tryz.prog 8 #[.slice a len cap, .int .i64 i] w fun e w' => ∃ v, e = .returned (.tuple #[v, .int .i64 (powR (val xs) i).2]) ∧ NatAt w.heap.size w' v (powR (val xs) i).1 ∧ Below w.heap.size w w' := by
  have HT := withCount_calls a len cap xs i w h hm
  go_enter Tryz.func8, Tryz.ntmps8
  go_wp2_with fail
  refine Calls.mono HT ?_
  rintro e w1 ⟨h1, h2, h3, hb⟩
  clear HT
  cases hg : greatB (val xs) with
  | true =>
    obtain rfl := h1 hg
    have e0 : Hid _ := powR_great (m := i) hg
    clear h1 h2 h3 hg
    go_wp2_with fail
    go_ret2
    rw [e0.out]
    exact ⟨_, rfl, natAt_nil _ _, hb⟩
  | false =>
    by_cases hi : i < 0
    · obtain rfl := h2 hg hi
      have e0 : Hid _ := powR_neg hg hi
      clear h1 h2 h3 hg
      go_wp2_with fail
      go_ret2
      rw [e0.out]
      exact ⟨_, rfl, natAt_nil _ _, hb⟩
    · obtain ⟨a1, n, rfl, hn, hn2, hI⟩ := h3 hg (by omega)
      obtain ⟨j, rfl⟩ := Int.eq_ofNat_of_zero_le (show 0 ≤ i by omega)
      have e0 : Hid _ := powR_fit (u := val xs) (j := j) hg
      have HG : Hid _ := hg
      have hbl : blen (val xs) ≤ 65536 := (great_not _).1 hg
      clear h1 h2 h3 hg hn
      have BC : Hid _ := bits_calls a1 n (val xs) w1 hI (by omega)
      obtain ⟨b, hbb⟩ : ∃ b, b = blen (val xs) := ⟨_, rfl⟩
      have HPM : Hid (1 < b → 65535 / (b - 1) < j → greatB (val xs ^ j) = true) := fun q1 q2 => by rw [hbb] at q1 q2; exact pow_many q1 q2
      have HPS : Hid (¬ (1 < b ∧ 65535 / (b - 1) < j) → (wordsOf (val xs ^ j)).length ≤ 4000) := fun q => by rw [hbb] at q; exact pow_small q
      rw [← hbb] at BC hbl
      clear hbb
      have PC : Hid ((wordsOf (val xs ^ j)).length ≤ 4000 → _) := fun hf => power_calls a1 n (val xs) j w1 hI (by omega) (by omega) hf
      by_cases hb1 : 1 < b
      · have hd0 : ((b : Int) - 1 == 0) = false := by simp; omega
        obtain ⟨c, hc⟩ : ∃ c, c = 65535 / (b - 1) := ⟨_, rfl⟩
        have hc2 : (65535 : Int) / ((b : Int) - 1) = (c : Int) := by
          rw [hc, Int.natCast_ediv, Int.natCast_sub (by omega)]; rfl
        rw [← hc] at HPM HPS
        clear hc
        by_cases hc3 : c < j
        · have HQ : Hid (fitR (val xs ^ j) = (0, 3)) := fitR_yes (HPM.out hb1 hc3)
          go_wp2_with fail
          refine Calls.mono BC.out ?_
          rintro e w1 ⟨rfl, rfl⟩
          go_wp2_with fail
          refine Calls.mono BC.out ?_
          rintro e w1 ⟨rfl, rfl⟩
          go_wp2_with fail
          go_ret2
          rw [e0.out, HQ.out]
          exact ⟨_, rfl, natAt_nil _ _, hb⟩
        · have hf := HPS.out (fun q => hc3 q.2)
          have PD : Hid _ := PC.out hf
          have hf2 : Hid _ := hf
          clear PC HPM HPS hf
          go_wp2_with fail
          refine Calls.mono BC.out ?_
          rintro e w1 ⟨rfl, rfl⟩
          go_wp2_with fail
          refine Calls.mono BC.out ?_
          rintro e w1 ⟨rfl, rfl⟩
          go_wp2_with fail
          refine Calls.mono PD.out ?_
          rintro e w2 ⟨ao, m, rfl, hmm, hO, hb2⟩
          have hml : m ≤ 4000 := by rw [hmm]; exact hf2.out
          clear PD BC hmm
          go_wp2_with fail
          refine Calls.mono (answer_calls _ ao m m _ w2 hO (by omega)) ?_
          rintro e w3 ⟨v, rfl, hA, hb3⟩
          rw [val_words] at hA ⊢
          go_wp2_with fail
          go_ret2
          rw [e0.out]
          exact ⟨v, rfl, hA.low hb.size, nbelow_trans (nbelow_trans hb hb2) hb3⟩
      · have hf := HPS.out (fun q => hb1 q.1)
        have PD : Hid _ := PC.out hf
        have hf2 : Hid _ := hf
        clear PC HPM HPS hf
        go_wp2_with fail
        refine Calls.mono BC.out ?_
        rintro e w1 ⟨rfl, rfl⟩
        go_wp2_with fail
        refine Calls.mono PD.out ?_
        rintro e w2 ⟨ao, m, rfl, hmm, hO, hb2⟩
        have hml : m ≤ 4000 := by rw [hmm]; exact hf2.out
        clear PD BC hmm
        go_wp2_with fail
        refine Calls.mono (answer_calls _ ao m m _ w2 hO (by omega)) ?_
        rintro e w3 ⟨v, rfl, hA, hb3⟩
        rw [val_words] at hA ⊢
        go_wp2_with fail
        go_ret2
        rw [e0.out]
        exact ⟨v, rfl, hA.low hb.size, nbelow_trans (nbelow_trans hb hb2) hb3⟩

theorem zero_len : (wordsOf 0).length ≤ 1024 := by rw [words_zero]; simp
theorem addR_len (u v : Nat) : (wordsOf (addR u v).1).length ≤ 1024 := by
  unfold addR
  split
  · exact zero_len
  · exact fitR_len _
theorem subR_len (u v : Nat) : (wordsOf (subR u v).1).length ≤ 1024 := by
  unfold subR
  split
  · exact zero_len
  · rename_i h
    rw [Bool.not_eq_true, Bool.or_eq_false_iff] at h
    split
    · exact zero_len
    · exact (great_len _).1 (great_mono (Nat.sub_le _ _) h.1)
theorem shlR_len (u : Nat) (i : Int) : (wordsOf (shlR u i).1).length ≤ 1024 := by
  unfold shlR
  split
  · exact zero_len
  · split
    · exact zero_len
    · split
      · exact zero_len
      · split
        · exact zero_len
        · rename_i h1 h2 h3 h4
          simp only
          obtain ⟨j, rfl⟩ := Int.eq_ofNat_of_zero_le (show 0 ≤ i by omega)
          rw [Int.toNat_natCast, ← great_len, great_not, blen_mul _ _ h3]; omega
theorem shrQ_len (u : Nat) (i : Int) : (wordsOf (shrQ u i)).length ≤ 1024 := by
  unfold shrQ
  split
  · exact zero_len
  · split
    · exact zero_len
    · rename_i h1 h2
      rw [← great_len]
      exact great_mono (Nat.div_le_self _ _) (by simpa using h1)
theorem powR_len (u : Nat) (i : Int) : (wordsOf (powR u i).1).length ≤ 1024 := by
  unfold powR
  split
  · exact zero_len
  · split
    · exact zero_len
    · exact fitR_len _
theorem NatAt.open {B : Nat} {w : World} {v : Value} {r : Nat} (h : NatAt B w v r) (hl : (wordsOf r).length ≤ 1024) : ∃ (ao : Option Addr) (n c : Nat), v = .slice ao n c ∧ Hid (n = (wordsOf r).length) ∧ n ≤ 1024 ∧ OwnW B w ao n c (wordsOf r) := by
  obtain ⟨ao, n, c, rfl, hn, hO⟩ := h
  exact ⟨ao, n, c, rfl, hn, by omega, hO⟩

section
variable {a a' : Option Addr} {len cap len' cap' : Nat} {xs ys : List Int} {w : World}

theorem add_eq (h : IsW w a len cap xs) (h' : IsW w a' len' cap' ys) (hm : len ≤ 17592186044416) (hm' : len' ≤ 17592186044416) {r : Nat} {k : Int} (hr : addR (val xs) (val ys) = (r, k)) :
    Calls Tryz.prog 13 #[.slice a len cap, .slice a' len' cap'] w fun e w' => ∃ (ao : Option Addr) (n c : Nat), e = .returned (.tuple #[.slice ao n c, .int .i64 k]) ∧ Hid (n = (wordsOf r).length) ∧ n ≤ 1024 ∧ OwnW w.heap.size w' ao n c (wordsOf r) ∧ Below w.heap.size w w' := by
  have hl := addR_len (val xs) (val ys)
  refine Calls.mono (add_calls a a' len cap len' cap' xs ys w h h' hm hm') ?_
  rw [hr] at hl ⊢
  rintro e w' ⟨v, rfl, hA, hb⟩
  obtain ⟨ao, n, c, rfl, h1, h2, h3⟩ := hA.open hl
  exact ⟨ao, n, c, rfl, h1, h2, h3, hb⟩

theorem sub_eq (h : IsW w a len cap xs) (h' : IsW w a' len' cap' ys) (hm : len ≤ 17592186044416) (hm' : len' ≤ 17592186044416) {r : Nat} {k : Int} (hr : subR (val xs) (val ys) = (r, k)) :
    Calls Tryz.prog 46 #[.slice a len cap, .slice a' len' cap'] w fun e w' => ∃ (ao : Option Addr) (n c : Nat), e = .returned (.tuple #[.slice ao n c, .int .i64 k]) ∧ Hid (n = (wordsOf r).length) ∧ n ≤ 1024 ∧ OwnW w.heap.size w' ao n c (wordsOf r) ∧ Below w.heap.size w w' := by
  have hl := subR_len (val xs) (val ys)
  refine Calls.mono (sub_calls a a' len cap len' cap' xs ys w h h' hm hm') ?_
  rw [hr] at hl ⊢
  rintro e w' ⟨v, rfl, hA, hb⟩
  obtain ⟨ao, n, c, rfl, h1, h2, h3⟩ := hA.open hl
  exact ⟨ao, n, c, rfl, h1, h2, h3, hb⟩

theorem mul_eq (h : IsW w a len cap xs) (h' : IsW w a' len' cap' ys) (hm : len ≤ 17592186044416) (hm' : len' ≤ 17592186044416) {r : Nat} {k : Int} (hr : mulR (val xs) (val ys) = (r, k)) :
    Calls Tryz.prog 14 #[.slice a len cap, .slice a' len' cap'] w fun e w' => ∃ (ao : Option Addr) (n c : Nat), e = .returned (.tuple #[.slice ao n c, .int .i64 k]) ∧ Hid (n = (wordsOf r).length) ∧ n ≤ 1024 ∧ OwnW w.heap.size w' ao n c (wordsOf r) ∧ Below w.heap.size w w' := by
  have hl := mulR_len (val xs) (val ys)
  refine Calls.mono (mul_calls a a' len cap len' cap' xs ys w h h' hm hm') ?_
  rw [hr] at hl ⊢
  rintro e w' ⟨v, rfl, hA, hb⟩
  obtain ⟨ao, n, c, rfl, h1, h2, h3⟩ := hA.open hl
  exact ⟨ao, n, c, rfl, h1, h2, h3, hb⟩

theorem norm_eq2 (h : IsW w a len cap xs) (hm : len ≤ 17592186044416) {r : Nat} {k : Int} (hr : fitR (val xs) = (r, k)) :
    Calls Tryz.prog 12 #[.slice a len cap] w fun e w' => ∃ (ao : Option Addr) (n c : Nat), e = .returned (.tuple #[.slice ao n c, .int .i64 k]) ∧ Hid (n = (wordsOf r).length) ∧ n ≤ 1024 ∧ OwnW w.heap.size w' ao n c (wordsOf r) ∧ Below w.heap.size w w' := by
  have hl := fitR_len (val xs)
  refine Calls.mono (norm_calls a len cap xs w h hm) ?_
  rw [hr] at hl ⊢
  rintro e w' ⟨v, rfl, hA, hb⟩
  obtain ⟨ao, n, c, rfl, h1, h2, h3⟩ := hA.open hl
  exact ⟨ao, n, c, rfl, h1, h2, h3, hb⟩

theorem shl_eq {i : Int} (h : IsW w a len cap xs) (hm : len ≤ 17592186044416) {r : Nat} {k : Int} (hr : shlR (val xs) i = (r, k)) :
    Calls Tryz.prog 16 #[.slice a len cap, .int .i64 i] w fun e w' => ∃ (ao : Option Addr) (n c : Nat), e = .returned (.tuple #[.slice ao n c, .int .i64 k]) ∧ Hid (n = (wordsOf r).length) ∧ n ≤ 1024 ∧ OwnW w.heap.size w' ao n c (wordsOf r) ∧ Below w.heap.size w w' := by
  have hl := shlR_len (val xs) i
  refine Calls.mono (shl_calls a len cap xs i w h hm) ?_
  rw [hr] at hl ⊢
  rintro e w' ⟨v, rfl, hA, hb⟩
  obtain ⟨ao, n, c, rfl, h1, h2, h3⟩ := hA.open hl
  exact ⟨ao, n, c, rfl, h1, h2, h3, hb⟩

theorem shr_eq {i : Int} (h : IsW w a len cap xs) (hm : len ≤ 17592186044416) (hi : i ≤ 9223372036854775807) {r : Nat} {l : Bool} {k : Int} (hr : shrQ (val xs) i = r) (hr2 : shrL (val xs) i = l) (hr3 : shrE (val xs) i = k) :
    Calls Tryz.prog 17 #[.slice a len cap, .int .i64 i] w fun e w' => ∃ (ao : Option Addr) (n c : Nat), e = .returned (.tuple #[.slice ao n c, .bool l, .int .i64 k]) ∧ Hid (n = (wordsOf r).length) ∧ n ≤ 1024 ∧ OwnW w.heap.size w' ao n c (wordsOf r) ∧ Below w.heap.size w w' := by
  have hl := shrQ_len (val xs) i
  refine Calls.mono (shr_calls a len cap xs i w h hm hi) ?_
  rw [hr] at hl ⊢
  rw [hr2, hr3]
  rintro e w' ⟨v, rfl, hA, hb⟩
  obtain ⟨ao, n, c, rfl, h1, h2, h3⟩ := hA.open hl
  exact ⟨ao, n, c, rfl, h1, h2, h3, hb⟩

theorem pow_eq {i : Int} (h : IsW w a len cap xs) (hm : len ≤ 17592186044416) (hi : i ≤ 9223372036854775807) {r : Nat} {k : Int} (hr : powR (val xs) i = (r, k)) :
    Calls Tryz.prog 8 #[.slice a len cap, .int .i64 i] w fun e w' => ∃ (ao : Option Addr) (n c : Nat), e = .returned (.tuple #[.slice ao n c, .int .i64 k]) ∧ Hid (n = (wordsOf r).length) ∧ n ≤ 1024 ∧ OwnW w.heap.size w' ao n c (wordsOf r) ∧ Below w.heap.size w w' := by
  have hl := powR_len (val xs) i
  refine Calls.mono (pow_calls a len cap xs i w h hm hi) ?_
  rw [hr] at hl ⊢
  rintro e w' ⟨v, rfl, hA, hb⟩
  obtain ⟨ao, n, c, rfl, h1, h2, h3⟩ := hA.open hl
  exact ⟨ao, n, c, rfl, h1, h2, h3, hb⟩

theorem div_eq (h : IsW w a len cap xs) (h' : IsW w a' len' cap' ys) (hm : len ≤ 17592186044416) (hm' : len' ≤ 17592186044416) {q r : Nat} {k : Int} (hr : divQ (val xs) (val ys) = q) (hr2 : divM (val xs) (val ys) = r) (hr3 : divE (val xs) (val ys) = k) :
    Calls Tryz.prog 15 #[.slice a len cap, .slice a' len' cap'] w fun e w' => ∃ (a1 a2 : Option Addr) (n1 c1 n2 c2 : Nat), e = .returned (.tuple #[.slice a1 n1 c1, .slice a2 n2 c2, .int .i64 k]) ∧ Hid (n1 = (wordsOf q).length) ∧ n1 ≤ 1024 ∧ OwnW w.heap.size w' a1 n1 c1 (wordsOf q) ∧ Hid (n2 = (wordsOf r).length) ∧ n2 ≤ 1024 ∧ OwnW w.heap.size w' a2 n2 c2 (wordsOf r) ∧ Below w.heap.size w w' := by
  have hl := div_len (val xs) (val ys)
  refine Calls.mono (div_calls a a' len cap len' cap' xs ys w h h' hm hm' (fun h => over_any _ _ (by omega))) ?_
  rw [hr, hr2] at hl ⊢
  rw [hr3]
  rintro e w' ⟨v, v', rfl, hA, hA', hb⟩
  obtain ⟨a1, n1, c1, rfl, h1, h2, h3⟩ := hA.open hl.1
  obtain ⟨a2, n2, c2, rfl, h4, h5, h6⟩ := hA'.open hl.2
  exact ⟨a1, a2, n1, c1, n2, c2, rfl, h1, h2, h3, h4, h5, h6, hb⟩
end

/-- A list that may be written, from block B on. -/
def Wr (B : Nat) (w : World) (a : Option Addr) (n : Nat) : Prop := ∀ i, i < n → ∃ (b off : Nat) (v : Value), a = some ⟨b, off, none⟩ ∧ B ≤ b ∧ w.cell? ⟨b, off + i, none⟩ = some v ∧ w.frozen? ⟨b, off + i, none⟩ = false
/-- What may be written stays so. -/
def Soft (w w' : World) : Prop := ∀ (p : Addr) (v : Value), w.cell? p = some v → w.frozen? p = false → ∃ v', w'.cell? p = some v' ∧ w'.frozen? p = false
theorem Soft.refl (w : World) : Soft w w := fun _ v h1 h2 => ⟨v, h1, h2⟩
theorem Soft.trans {a b c : World} (h : Soft a b) (k : Soft b c) : Soft a c := fun p v h1 h2 => by
  obtain ⟨v', q1, q2⟩ := h p v h1 h2
  exact k p v' q1 q2
theorem Soft.set {a b : World} (h : Soft a b) (q : Addr) (u : Value) : Soft a (b.setCell q u) := fun p v h1 h2 => by
  obtain ⟨v', q1, q2⟩ := h p v h1 h2
  by_cases e : q = p
  · subst e
    exact ⟨u, World.cell?_setCell_same b _ _ q1, (World.frozen?_setCell b _ _ _).trans q2⟩
  · exact ⟨v', (World.cell?_setCell_other b _ _ _ (fun e2 => e (by first | exact e2 | exact e2.symm))).trans q1, (World.frozen?_setCell b _ _ _).trans q2⟩
theorem soft_below {w w' : World} (hb : Below w.heap.size w w') : Soft w w' := fun _ v h1 h2 => ⟨v, carry_cell hb h1, carry_frozen hb h1 h2⟩
theorem Wr.soft {B : Nat} {w w' : World} {a : Option Addr} {n : Nat} (h : Wr B w a n) (hs : Soft w w') : Wr B w' a n := fun i hi => by
  obtain ⟨b, off, v, e1, e2, e3, e4⟩ := h i hi
  obtain ⟨v', q1, q2⟩ := hs _ v e3 e4
  exact ⟨b, off, v', e1, e2, q1, q2⟩
theorem OwnW.wr {B : Nat} {w : World} {a : Option Addr} {n c : Nat} {xs : List Int} (h : OwnW B w a n c xs) : Wr B w a n := fun i hi => by
  obtain ⟨b, off, e1, e2, e3⟩ := h.1.2.2.2 i hi
  obtain ⟨q1, q2⟩ := h.2 b off i e1 hi
  exact ⟨b, off, _, e1, q1, e3, q2⟩

set_option maxHeartbeats 1000000 in
theorem spoil_calls (B : Nat) (a : Option Addr) (n c : Nat) (w : World) (h : Wr B w a n) (hn : n ≤ 1024) :
    Calls Tryz.prog 18 #[.slice a n c] w fun r w' => r = .returned (.tuple #[]) ∧ Below B w w' ∧ Soft w w' := by
  go_enter Tryz.func18, Tryz.ntmps18
  go_wp2_with fail
  go_loopw [5] (fun vi wr => ∃ k : Nat, k ≤ n ∧ vi = .int .i64 (k : Int) ∧ Below B w wr ∧ Soft w wr) (fun vi _ => n - (intOf vi).toNat)
  case atStart => exact ⟨0, by omega, rfl, Below.refl _ _, Soft.refl _⟩
  case round =>
    obtain ⟨k, hk, rfl, hbr, hsr⟩ := hrel
    by_cases hlt : k < n
    · obtain ⟨b, off, v, e1, e2, e3, e4⟩ := (h.soft hsr) k hlt
      have HL : Hid (∀ a' : Option Addr, Wr B w a' n → True) := fun _ _ => trivial
      clear HL
      subst e1
      have hs2 := hsr.set ⟨b, off + k, none⟩ (.int .u64 77)
      have hb2 := hbr.setCell (p := ⟨b, off + k, none⟩) e2 (.int .u64 77)
      clear hsr hbr h
      go_wp2_with fail
      refine ⟨⟨k + 1, by omega, by go_num, hb2, hs2⟩, by simp [intOf]; omega⟩
    · go_wp2_with fail
      go_end0
      exact ⟨rfl, hbr, hsr⟩

theorem isW_zero {w : World} {ad : Addr} {xs : List Int} (h : 0 = xs.length) (hU : AllU xs) : IsW w (some ad) 0 0 xs := ⟨h, hU, ⟨Nat.le_refl _, fun e => by cases e⟩, fun i hi => by omega⟩
theorem nbelow_trans2 {B : Nat} {a b c : World} (h : Below B a b) (k : Below b.heap.size b c) (hB : B ≤ b.heap.size) : Below B a c := h.trans (k.mono hB)
theorem Wr.lowW {B B' : Nat} {w : World} {a : Option Addr} {n : Nat} (h : Wr B w a n) (hB : B' ≤ B) : Wr B' w a n := fun i hi => by
  obtain ⟨b, off, v, e1, e2, e3, e4⟩ := h i hi
  exact ⟨b, off, v, e1, Nat.le_trans hB e2, e3, e4⟩
set_option maxHeartbeats 400000 in
theorem same_calls (a a' : Option Addr) (len cap len' cap' : Nat) (xs ys : List Int) (w : World) (h : IsW w a len cap xs) (h' : IsW w a' len' cap' ys) (hm : len ≤ 17592186044416) (hm' : len' ≤ 17592186044416) :
    Calls Tryz.prog 19 #[.slice a len cap, .slice a' len' cap'] w fun e w' => e = .returned (.bool (decide (xs = ys))) ∧ Below w.heap.size w w' := by
  have SC : Hid _ := nSame_calls a a' len cap len' cap' xs ys w h h' hm hm'
  go_enter Tryz.func19, Tryz.ntmps19
  go_wp2_with fail
  refine Calls.mono SC.out ?_
  rintro e w1 ⟨rfl, hb⟩
  go_wp2_with fail
  go_ret
  exact ⟨rfl, hb⟩
theorem ownsRow_lit2 (w : World) (k : Nat) (hk : k = w.heap.size) : (w.alloc (.cells #[] 49)).ownsRow k 49 1 (.slice (some ⟨k, 0, none⟩) 0 0) 0 [] := by
  subst hk
  exact ⟨rfl, Or.inr ⟨w.heap.size, 0, #[], rfl, Nat.le_refl _, heap_alloc_new _ _, Nat.le_refl _, by unfold maxLen; omega, rfl, rfl⟩⟩
theorem own_any {B k : Nat} {w : World} {v : Value} {L : List Int} (hk : L.length = k) (h : w.ownsRow B 49 1 v k (L.map (Value.int .u64))) : ∃ ao cap, v = .slice ao k cap ∧ Own B w ao cap L := by
  rcases h.2 with ⟨e1, e2⟩ | ⟨g3, cap3, cur, e1, r⟩
  · subst e2
    have hx : L = [] := List.length_eq_zero_iff.1 hk
    subst hx
    exact ⟨none, 0, e1, World.ownsRow_nil _ _ _ _⟩
  · refine ⟨some ⟨g3, 0, none⟩, cap3, e1, ?_⟩
    unfold Own
    rw [hk, ← e1]; exact h
theorem isW_newsN {w : World} {ad : Addr} {n c : Nat} {xs : List Int} (h : IsW w (some ad) n c xs) : ∀ j u, (xs.map (Value.int .u64))[j]? = some u → w.cell? (ad.add j) = some u := by
  intro j u hj
  have hjl : j < n := by
    have := (List.getElem?_eq_some_iff.1 hj).1
    simp at this; have := h.1; omega
  obtain ⟨b2, off2, e2, _, q2⟩ := h.2.2.2 j hjl
  simp only [Option.some.injEq] at e2
  subst e2
  have hu : u = .int .u64 (xs.getD j 0) := by
    simp only [List.getElem?_map] at hj
    have hj2 : xs[j]? = some (xs.getD j 0) := by
      rw [List.getElem?_eq_getElem (by have := h.1; omega)]; simp [List.getD, show j < xs.length by have := h.1; omega]
    rw [hj2] at hj
    simpa using hj.symm
  rw [hu]
  by_cases h00 : j = 0
  · subst h00; simpa [Addr.add] using q2
  · simpa [Addr.add, h00] using q2

set_option maxRecDepth 100000 in
set_option maxHeartbeats 4000000 in
theorem own_ss (ada adb : Addr) (len cap : Nat) (xs : List Int) (len' cap' : Nat) (ys : List Int) (w : World) (hA : IsW w (some ada) len cap xs) (hm : len ≤ 17592186042000) (hB : IsW w (some adb) len' cap' ys) (hm' : len' ≤ 17592186042000) (hT : Tab w) (hP : TabP w) :
    Calls Tryz.prog 4 #[.slice (some ada) len cap, .slice (some adb) len' cap'] w fun e w' => e = .returned (.bool true) ∧ Below w.heap.size w w' := by
  obtain ⟨i0, hi, hz0, hz1, hz2⟩ := info_parts word_info
  have HLx : Hid (len = xs.length) := hA.1
  have HLy : Hid (len' = ys.length) := hB.1
  have HUx : Hid (AllU xs) := hA.2.1
  have HUy : Hid (AllU ys) := hB.2.1
  go_enter Tryz.func4, Tryz.ntmps4
  go_wp2_with fail
  refine Calls.mono (lives_calls w hP) ?_
  rintro e w1 ⟨rfl, hb1⟩
  have hA1 := hA.keep hb1
  have hB1 := hB.keep hb1
  have hP1 := hP.kept hb1
  have hT1 := hT.kept hb1
  clear hA hB hP hT
  go_wp2_with (first | (at_builtin; refine wpList_append_own _ rfl _ _ 23 rfl w1.heap.size 49 i0 (.int .u64 0) 1 8 Tryz.underlying23 hi hz0 hz1 hz2 rfl (by decide) _ _ _ rfl (ownsRow_lit2 _ _ (by simp)) ada len cap (xs.map (Value.int .u64)) rfl (by rw [List.length_map, ← HLx.out]; omega) (isW_newsN (hA1.keep (below_one _ _))) (fun u hu => by simp only [List.mem_map] at hu; obtain ⟨y, _, rfl⟩ := hu; rfl) (by unfold maxLen; omega) (by omega) (by simp) ?_; intro vx wx hownx hgrowx hnilx; obtain ⟨ax, cx, rfl, hOx⟩ := own_any (L := xs) (by rw [← HLx.out]; exact (Nat.zero_add len).symm) hownx; have hbx : Below w1.heap.size w1 wx := (below_one w1 (.cells #[] 49)).grown hgrowx (by simp) (fun k e => by have e2 : some (w1.heap.size) = some k := e; simp only [Option.some.injEq] at e2; simp; omega); have hIx := hOx.isW HUx.out; rw [← HLx.out] at hIx; rw [Nat.zero_add]; clear hownx hgrowx hnilx hOx) | (at_builtin; refine wpList_append_own _ rfl _ _ 23 rfl wx.heap.size 49 i0 (.int .u64 0) 1 8 Tryz.underlying23 hi hz0 hz1 hz2 rfl (by decide) _ _ _ rfl (ownsRow_lit2 _ _ (by simp)) adb len' cap' (ys.map (Value.int .u64)) rfl (by rw [List.length_map, ← HLy.out]; omega) (isW_newsN (hB1.keep (nbelow_trans hbx (below_one _ _)))) (fun u hu => by simp only [List.mem_map] at hu; obtain ⟨y, _, rfl⟩ := hu; rfl) (by unfold maxLen; omega) (by omega) (by simp) ?_; intro vy wy howny hgrowy hnily; obtain ⟨ay, cy, rfl, hOy⟩ := own_any (L := ys) (by rw [← HLy.out]; exact (Nat.zero_add len').symm) howny; have hby : Below wx.heap.size wx wy := (below_one wx (.cells #[] 49)).grown hgrowy (by simp) (fun k e => by have e2 : some (wx.heap.size) = some k := e; simp only [Option.some.injEq] at e2; simp; omega); have hIy := hOy.isW HUy.out; rw [← HLy.out] at hIy; rw [Nat.zero_add]; clear howny hgrowy hnily hOy))
  have hb12 := nbelow_trans hbx hby
  have gA := hA1.keep hb12
  have gB := hB1.keep hb12
  have gP := hP1.kept hb12
  have gT := hT1.kept hb12
  have gX := hIx.keep hby
  have gY := hIy
  have hbw0 := nbelow_trans hb1 hb12
  clear hA1 hB1 hP1 hT1 hIx hIy hb1 hb12 hbx hby
  have hmx : len ≤ 17592186042000 := by omega
  have hmy : len' ≤ 17592186042000 := by omega
  have HY0 : Hid (Below wy.heap.size wy wy) := Below.refl _ _
  refine Calls.mono (norm_eq2 (r := (fitR (val xs)).1) (k := (fitR (val xs)).2) (gX) (by omega) rfl) ?_
  rintro e v1 ⟨a1, n1, c1, rfl, _, m1, o1, hb1⟩
  have hY1 := nbelow_trans HY0.out hb1
  have sf := soft_below hb1
  have r1 := o1.wr.lowW (show wy.heap.size ≤ _ from Nat.le_refl _)
  clear sf hb1 o1
  go_wp2_with fail
  refine Calls.mono (add_eq (r := (addR (val xs) (val ys)).1) (k := (addR (val xs) (val ys)).2) (gX.keep hY1) (gY.keep hY1) (by omega) (by omega) rfl) ?_
  rintro e v2 ⟨a2, n2, c2, rfl, _, m2, o2, hb2⟩
  have hY2 := nbelow_trans hY1 hb2
  have sf := soft_below hb2
  have r1 := r1.soft sf
  have r2 := o2.wr.lowW (show wy.heap.size ≤ _ from hY1.size)
  clear sf hb2 hY1 o2
  go_wp2_with fail
  refine Calls.mono (mul_eq (r := (mulR (val xs) (val ys)).1) (k := (mulR (val xs) (val ys)).2) (gX.keep hY2) (gY.keep hY2) (by omega) (by omega) rfl) ?_
  rintro e v3 ⟨a3, n3, c3, rfl, _, m3, o3, hb3⟩
  have hY3 := nbelow_trans hY2 hb3
  have sf := soft_below hb3
  have r1 := r1.soft sf
  have r2 := r2.soft sf
  have r3 := o3.wr.lowW (show wy.heap.size ≤ _ from hY2.size)
  clear sf hb3 hY2 o3
  go_wp2_with fail
  refine Calls.mono (div_eq (q := divQ (val xs) (val ys)) (r := divM (val xs) (val ys)) (k := divE (val xs) (val ys)) (gX.keep hY3) (gY.keep hY3) (by omega) (by omega) rfl rfl rfl) ?_
  rintro e v4 ⟨a4, a5, n4, c4, n5, c5, rfl, _, m4, o4, _, m5, o5, hb4⟩
  have hY4 := nbelow_trans hY3 hb4
  have sf := soft_below hb4
  have r1 := r1.soft sf
  have r2 := r2.soft sf
  have r3 := r3.soft sf
  have r4 := o4.wr.lowW (show wy.heap.size ≤ _ from hY3.size)
  have r5 := o5.wr.lowW (show wy.heap.size ≤ _ from hY3.size)
  clear sf hb4 hY3 o4 o5
  go_wp2_with fail
  refine Calls.mono (shl_eq (i := 0) (r := (shlR (val xs) 0).1) (k := (shlR (val xs) 0).2) (gX.keep hY4) (by omega) rfl) ?_
  rintro e v5 ⟨a6, n6, c6, rfl, _, m6, o6, hb5⟩
  have hY5 := nbelow_trans hY4 hb5
  have sf := soft_below hb5
  have r1 := r1.soft sf
  have r2 := r2.soft sf
  have r3 := r3.soft sf
  have r4 := r4.soft sf
  have r5 := r5.soft sf
  have r6 := o6.wr.lowW (show wy.heap.size ≤ _ from hY4.size)
  clear sf hb5 hY4 o6
  go_wp2_with fail
  refine Calls.mono (shr_eq (i := 0) (r := shrQ (val xs) 0) (l := shrL (val xs) 0) (k := shrE (val xs) 0) (gX.keep hY5) (by omega) (by decide) rfl rfl rfl) ?_
  rintro e v6 ⟨a7, n7, c7, rfl, _, m7, o7, hb6⟩
  have hY6 := nbelow_trans hY5 hb6
  have sf := soft_below hb6
  have r1 := r1.soft sf
  have r2 := r2.soft sf
  have r3 := r3.soft sf
  have r4 := r4.soft sf
  have r5 := r5.soft sf
  have r6 := r6.soft sf
  have r7 := o7.wr.lowW (show wy.heap.size ≤ _ from hY5.size)
  clear sf hb6 hY5 o7
  go_wp2_with fail
  refine Calls.mono (spoil_calls wy.heap.size a1 n1 c1 _ r1 m1) ?_
  rintro e v7 ⟨rfl, hb7, sf⟩
  have hY7 := hY6.trans hb7
  clear r1
  have r2 := r2.soft sf
  have r3 := r3.soft sf
  have r4 := r4.soft sf
  have r5 := r5.soft sf
  have r6 := r6.soft sf
  have r7 := r7.soft sf
  clear sf hb7 hY6
  go_wp2_with fail
  refine Calls.mono (spoil_calls wy.heap.size a2 n2 c2 _ r2 m2) ?_
  rintro e v8 ⟨rfl, hb8, sf⟩
  have hY8 := hY7.trans hb8
  clear r2
  have r3 := r3.soft sf
  have r4 := r4.soft sf
  have r5 := r5.soft sf
  have r6 := r6.soft sf
  have r7 := r7.soft sf
  clear sf hb8 hY7
  go_wp2_with fail
  refine Calls.mono (spoil_calls wy.heap.size a3 n3 c3 _ r3 m3) ?_
  rintro e v9 ⟨rfl, hb9, sf⟩
  have hY9 := hY8.trans hb9
  clear r3
  have r4 := r4.soft sf
  have r5 := r5.soft sf
  have r6 := r6.soft sf
  have r7 := r7.soft sf
  clear sf hb9 hY8
  go_wp2_with fail
  refine Calls.mono (spoil_calls wy.heap.size a4 n4 c4 _ r4 m4) ?_
  rintro e v10 ⟨rfl, hb10, sf⟩
  have hY10 := hY9.trans hb10
  clear r4
  have r5 := r5.soft sf
  have r6 := r6.soft sf
  have r7 := r7.soft sf
  clear sf hb10 hY9
  go_wp2_with fail
  refine Calls.mono (spoil_calls wy.heap.size a5 n5 c5 _ r5 m5) ?_
  rintro e v11 ⟨rfl, hb11, sf⟩
  have hY11 := hY10.trans hb11
  clear r5
  have r6 := r6.soft sf
  have r7 := r7.soft sf
  clear sf hb11 hY10
  go_wp2_with fail
  refine Calls.mono (spoil_calls wy.heap.size a6 n6 c6 _ r6 m6) ?_
  rintro e v12 ⟨rfl, hb12, sf⟩
  have hY12 := hY11.trans hb12
  clear r6
  have r7 := r7.soft sf
  clear sf hb12 hY11
  go_wp2_with fail
  refine Calls.mono (spoil_calls wy.heap.size a7 n7 c7 _ r7 m7) ?_
  rintro e v13 ⟨rfl, hb13, sf⟩
  have hY13 := hY12.trans hb13
  clear r7
  clear sf hb13 hY12
  go_wp2_with fail
  refine Calls.mono (same_calls _ _ _ _ _ _ _ _ _ (gX.keep hY13) (gA.keep hY13) (by omega) (by omega)) ?_
  rintro e v14 ⟨rfl, hb14⟩
  rw [show decide (xs = xs) = true by simp]
  have hY14 := nbelow_trans hY13 hb14
  clear hb14 hY13
  go_wp2_with fail
  refine Calls.mono (same_calls _ _ _ _ _ _ _ _ _ (gY.keep hY14) (gB.keep hY14) (by omega) (by omega)) ?_
  rintro e v15 ⟨rfl, hb15⟩
  rw [show decide (ys = ys) = true by simp]
  have hY15 := nbelow_trans hY14 hb15
  clear hb15 hY14
  go_wp2_with fail
  refine Calls.mono (natSums_walk _ _ _ _ _ _ _ _ _ (gX.keep hY15) (by omega) (gY.keep hY15) (by omega) (gT.kept hY15) (gP.kept hY15)) ?_
  rintro e v16 ⟨rfl, hb16⟩
  have hY16 := nbelow_trans hY15 hb16
  clear hb16 hY15
  go_wp2_with fail
  refine Calls.mono (natProducts_walk _ _ _ _ _ _ _ _ _ (gX.keep hY16) (by omega) (gY.keep hY16) (by omega) (gT.kept hY16) (gP.kept hY16)) ?_
  rintro e v17 ⟨rfl, hb17⟩
  have hY17 := nbelow_trans hY16 hb17
  clear hb17 hY16
  go_wp2_with fail
  go_ret
  exact ⟨rfl, nbelow_trans hbw0 hY17⟩

set_option maxRecDepth 100000 in
set_option maxHeartbeats 4000000 in
theorem own_sn (ada : Addr) (len cap : Nat) (xs : List Int) (len' cap' : Nat) (ys : List Int) (w : World) (hA : IsW w (some ada) len cap xs) (hm : len ≤ 17592186042000) (hB : IsW w none len' cap' ys) (hm' : len' ≤ 17592186042000) (hT : Tab w) (hP : TabP w) :
    Calls Tryz.prog 4 #[.slice (some ada) len cap, .slice none len' cap'] w fun e w' => e = .returned (.bool true) ∧ Below w.heap.size w w' := by
  obtain ⟨i0, hi, hz0, hz1, hz2⟩ := info_parts word_info
  have HLx : Hid (len = xs.length) := hA.1
  have HLy : Hid (len' = ys.length) := hB.1
  have HUx : Hid (AllU xs) := hA.2.1
  have HUy : Hid (AllU ys) := hB.2.1
  have hc0' := hB.2.2.1.2 rfl
  have hl0' : len' = 0 := by have h2 := hB.2.2.1.1; omega
  subst hl0'
  subst hc0'
  go_enter Tryz.func4, Tryz.ntmps4
  go_wp2_with fail
  refine Calls.mono (lives_calls w hP) ?_
  rintro e w1 ⟨rfl, hb1⟩
  have hA1 := hA.keep hb1
  have hB1 := hB.keep hb1
  have hP1 := hP.kept hb1
  have hT1 := hT.kept hb1
  clear hA hB hP hT
  go_wp2_with (first | (at_builtin; refine wpList_append_own _ rfl _ _ 23 rfl w1.heap.size 49 i0 (.int .u64 0) 1 8 Tryz.underlying23 hi hz0 hz1 hz2 rfl (by decide) _ _ _ rfl (ownsRow_lit2 _ _ (by simp)) ada len cap (xs.map (Value.int .u64)) rfl (by rw [List.length_map, ← HLx.out]; omega) (isW_newsN (hA1.keep (below_one _ _))) (fun u hu => by simp only [List.mem_map] at hu; obtain ⟨y, _, rfl⟩ := hu; rfl) (by unfold maxLen; omega) (by omega) (by simp) ?_; intro vx wx hownx hgrowx hnilx; obtain ⟨ax, cx, rfl, hOx⟩ := own_any (L := xs) (by rw [← HLx.out]; exact (Nat.zero_add len).symm) hownx; have hbx : Below w1.heap.size w1 wx := (below_one w1 (.cells #[] 49)).grown hgrowx (by simp) (fun k e => by have e2 : some (w1.heap.size) = some k := e; simp only [Option.some.injEq] at e2; simp; omega); have hIx := hOx.isW HUx.out; rw [← HLx.out] at hIx; rw [Nat.zero_add]; clear hownx hgrowx hnilx hOx))
  have hby : Below wx.heap.size wx (wx.alloc (.cells #[] 49)) := below_one _ _
  have hIy : IsW (wx.alloc (.cells #[] 49)) (some ⟨wx.heap.size, 0, none⟩) 0 0 ys := isW_zero HLy.out HUy.out
  have hb12 := nbelow_trans hbx hby
  have gA := hA1.keep hb12
  have gB := hB1.keep hb12
  have gP := hP1.kept hb12
  have gT := hT1.kept hb12
  have gX := hIx.keep hby
  have gY := hIy
  have hbw0 := nbelow_trans hb1 hb12
  clear hA1 hB1 hP1 hT1 hIx hIy hb1 hb12 hbx hby
  have hmx : len ≤ 17592186042000 := by omega
  have hmy : 0 ≤ 17592186042000 := by omega
  have HY0 : Hid (Below (wx.alloc (.cells #[] 49)).heap.size (wx.alloc (.cells #[] 49)) (wx.alloc (.cells #[] 49))) := Below.refl _ _
  refine Calls.mono (norm_eq2 (r := (fitR (val xs)).1) (k := (fitR (val xs)).2) (gX) (by omega) rfl) ?_
  rintro e v1 ⟨a1, n1, c1, rfl, _, m1, o1, hb1⟩
  have hY1 := nbelow_trans HY0.out hb1
  have sf := soft_below hb1
  have r1 := o1.wr.lowW (show (wx.alloc (.cells #[] 49)).heap.size ≤ _ from Nat.le_refl _)
  clear sf hb1 o1
  go_wp2_with fail
  refine Calls.mono (add_eq (r := (addR (val xs) (val ys)).1) (k := (addR (val xs) (val ys)).2) (gX.keep hY1) (gY.keep hY1) (by omega) (by omega) rfl) ?_
  rintro e v2 ⟨a2, n2, c2, rfl, _, m2, o2, hb2⟩
  have hY2 := nbelow_trans hY1 hb2
  have sf := soft_below hb2
  have r1 := r1.soft sf
  have r2 := o2.wr.lowW (show (wx.alloc (.cells #[] 49)).heap.size ≤ _ from hY1.size)
  clear sf hb2 hY1 o2
  go_wp2_with fail
  refine Calls.mono (mul_eq (r := (mulR (val xs) (val ys)).1) (k := (mulR (val xs) (val ys)).2) (gX.keep hY2) (gY.keep hY2) (by omega) (by omega) rfl) ?_
  rintro e v3 ⟨a3, n3, c3, rfl, _, m3, o3, hb3⟩
  have hY3 := nbelow_trans hY2 hb3
  have sf := soft_below hb3
  have r1 := r1.soft sf
  have r2 := r2.soft sf
  have r3 := o3.wr.lowW (show (wx.alloc (.cells #[] 49)).heap.size ≤ _ from hY2.size)
  clear sf hb3 hY2 o3
  go_wp2_with fail
  refine Calls.mono (div_eq (q := divQ (val xs) (val ys)) (r := divM (val xs) (val ys)) (k := divE (val xs) (val ys)) (gX.keep hY3) (gY.keep hY3) (by omega) (by omega) rfl rfl rfl) ?_
  rintro e v4 ⟨a4, a5, n4, c4, n5, c5, rfl, _, m4, o4, _, m5, o5, hb4⟩
  have hY4 := nbelow_trans hY3 hb4
  have sf := soft_below hb4
  have r1 := r1.soft sf
  have r2 := r2.soft sf
  have r3 := r3.soft sf
  have r4 := o4.wr.lowW (show (wx.alloc (.cells #[] 49)).heap.size ≤ _ from hY3.size)
  have r5 := o5.wr.lowW (show (wx.alloc (.cells #[] 49)).heap.size ≤ _ from hY3.size)
  clear sf hb4 hY3 o4 o5
  go_wp2_with fail
  refine Calls.mono (shl_eq (i := 0) (r := (shlR (val xs) 0).1) (k := (shlR (val xs) 0).2) (gX.keep hY4) (by omega) rfl) ?_
  rintro e v5 ⟨a6, n6, c6, rfl, _, m6, o6, hb5⟩
  have hY5 := nbelow_trans hY4 hb5
  have sf := soft_below hb5
  have r1 := r1.soft sf
  have r2 := r2.soft sf
  have r3 := r3.soft sf
  have r4 := r4.soft sf
  have r5 := r5.soft sf
  have r6 := o6.wr.lowW (show (wx.alloc (.cells #[] 49)).heap.size ≤ _ from hY4.size)
  clear sf hb5 hY4 o6
  go_wp2_with fail
  refine Calls.mono (shr_eq (i := 0) (r := shrQ (val xs) 0) (l := shrL (val xs) 0) (k := shrE (val xs) 0) (gX.keep hY5) (by omega) (by decide) rfl rfl rfl) ?_
  rintro e v6 ⟨a7, n7, c7, rfl, _, m7, o7, hb6⟩
  have hY6 := nbelow_trans hY5 hb6
  have sf := soft_below hb6
  have r1 := r1.soft sf
  have r2 := r2.soft sf
  have r3 := r3.soft sf
  have r4 := r4.soft sf
  have r5 := r5.soft sf
  have r6 := r6.soft sf
  have r7 := o7.wr.lowW (show (wx.alloc (.cells #[] 49)).heap.size ≤ _ from hY5.size)
  clear sf hb6 hY5 o7
  go_wp2_with fail
  refine Calls.mono (spoil_calls (wx.alloc (.cells #[] 49)).heap.size a1 n1 c1 _ r1 m1) ?_
  rintro e v7 ⟨rfl, hb7, sf⟩
  have hY7 := hY6.trans hb7
  clear r1
  have r2 := r2.soft sf
  have r3 := r3.soft sf
  have r4 := r4.soft sf
  have r5 := r5.soft sf
  have r6 := r6.soft sf
  have r7 := r7.soft sf
  clear sf hb7 hY6
  go_wp2_with fail
  refine Calls.mono (spoil_calls (wx.alloc (.cells #[] 49)).heap.size a2 n2 c2 _ r2 m2) ?_
  rintro e v8 ⟨rfl, hb8, sf⟩
  have hY8 := hY7.trans hb8
  clear r2
  have r3 := r3.soft sf
  have r4 := r4.soft sf
  have r5 := r5.soft sf
  have r6 := r6.soft sf
  have r7 := r7.soft sf
  clear sf hb8 hY7
  go_wp2_with fail
  refine Calls.mono (spoil_calls (wx.alloc (.cells #[] 49)).heap.size a3 n3 c3 _ r3 m3) ?_
  rintro e v9 ⟨rfl, hb9, sf⟩
  have hY9 := hY8.trans hb9
  clear r3
  have r4 := r4.soft sf
  have r5 := r5.soft sf
  have r6 := r6.soft sf
  have r7 := r7.soft sf
  clear sf hb9 hY8
  go_wp2_with fail
  refine Calls.mono (spoil_calls (wx.alloc (.cells #[] 49)).heap.size a4 n4 c4 _ r4 m4) ?_
  rintro e v10 ⟨rfl, hb10, sf⟩
  have hY10 := hY9.trans hb10
  clear r4
  have r5 := r5.soft sf
  have r6 := r6.soft sf
  have r7 := r7.soft sf
  clear sf hb10 hY9
  go_wp2_with fail
  refine Calls.mono (spoil_calls (wx.alloc (.cells #[] 49)).heap.size a5 n5 c5 _ r5 m5) ?_
  rintro e v11 ⟨rfl, hb11, sf⟩
  have hY11 := hY10.trans hb11
  clear r5
  have r6 := r6.soft sf
  have r7 := r7.soft sf
  clear sf hb11 hY10
  go_wp2_with fail
  refine Calls.mono (spoil_calls (wx.alloc (.cells #[] 49)).heap.size a6 n6 c6 _ r6 m6) ?_
  rintro e v12 ⟨rfl, hb12, sf⟩
  have hY12 := hY11.trans hb12
  clear r6
  have r7 := r7.soft sf
  clear sf hb12 hY11
  go_wp2_with fail
  refine Calls.mono (spoil_calls (wx.alloc (.cells #[] 49)).heap.size a7 n7 c7 _ r7 m7) ?_
  rintro e v13 ⟨rfl, hb13, sf⟩
  have hY13 := hY12.trans hb13
  clear r7
  clear sf hb13 hY12
  go_wp2_with fail
  refine Calls.mono (same_calls _ _ _ _ _ _ _ _ _ (gX.keep hY13) (gA.keep hY13) (by omega) (by omega)) ?_
  rintro e v14 ⟨rfl, hb14⟩
  rw [show decide (xs = xs) = true by simp]
  have hY14 := nbelow_trans hY13 hb14
  clear hb14 hY13
  go_wp2_with fail
  refine Calls.mono (same_calls _ _ _ _ _ _ _ _ _ (gY.keep hY14) (gB.keep hY14) (by omega) (by omega)) ?_
  rintro e v15 ⟨rfl, hb15⟩
  rw [show decide (ys = ys) = true by simp]
  have hY15 := nbelow_trans hY14 hb15
  clear hb15 hY14
  go_wp2_with fail
  refine Calls.mono (natSums_walk _ _ _ _ _ _ _ _ _ (gX.keep hY15) (by omega) (gY.keep hY15) (by omega) (gT.kept hY15) (gP.kept hY15)) ?_
  rintro e v16 ⟨rfl, hb16⟩
  have hY16 := nbelow_trans hY15 hb16
  clear hb16 hY15
  go_wp2_with fail
  refine Calls.mono (natProducts_walk _ _ _ _ _ _ _ _ _ (gX.keep hY16) (by omega) (gY.keep hY16) (by omega) (gT.kept hY16) (gP.kept hY16)) ?_
  rintro e v17 ⟨rfl, hb17⟩
  have hY17 := nbelow_trans hY16 hb17
  clear hb17 hY16
  go_wp2_with fail
  go_ret
  exact ⟨rfl, nbelow_trans hbw0 hY17⟩

set_option maxRecDepth 100000 in
set_option maxHeartbeats 4000000 in
theorem own_ns (adb : Addr) (len cap : Nat) (xs : List Int) (len' cap' : Nat) (ys : List Int) (w : World) (hA : IsW w none len cap xs) (hm : len ≤ 17592186042000) (hB : IsW w (some adb) len' cap' ys) (hm' : len' ≤ 17592186042000) (hT : Tab w) (hP : TabP w) :
    Calls Tryz.prog 4 #[.slice none len cap, .slice (some adb) len' cap'] w fun e w' => e = .returned (.bool true) ∧ Below w.heap.size w w' := by
  obtain ⟨i0, hi, hz0, hz1, hz2⟩ := info_parts word_info
  have HLx : Hid (len = xs.length) := hA.1
  have HLy : Hid (len' = ys.length) := hB.1
  have HUx : Hid (AllU xs) := hA.2.1
  have HUy : Hid (AllU ys) := hB.2.1
  have hc0 := hA.2.2.1.2 rfl
  have hl0 : len = 0 := by have h2 := hA.2.2.1.1; omega
  subst hl0
  subst hc0
  go_enter Tryz.func4, Tryz.ntmps4
  go_wp2_with fail
  refine Calls.mono (lives_calls w hP) ?_
  rintro e w1 ⟨rfl, hb1⟩
  have hA1 := hA.keep hb1
  have hB1 := hB.keep hb1
  have hP1 := hP.kept hb1
  have hT1 := hT.kept hb1
  clear hA hB hP hT
  go_wp2_with (first | (at_builtin; refine wpList_append_own_none _ rfl _ _ 23 rfl w1.heap.size 49 i0 1 Tryz.underlying23 hi _ _ _ rfl (ownsRow_lit2 w1 w1.heap.size rfl) rfl ?_) | (at_builtin; refine wpList_append_own _ rfl _ _ 23 rfl (w1.heap.size + 1) 49 i0 (.int .u64 0) 1 8 Tryz.underlying23 hi hz0 hz1 hz2 rfl (by decide) _ _ _ rfl (ownsRow_lit2 _ _ (by simp)) adb len' cap' (ys.map (Value.int .u64)) rfl (by rw [List.length_map, ← HLy.out]; omega) (isW_newsN (hB1.keep (nbelow_trans (below_one w1 (.cells #[] 49)) (below_one _ _)))) (fun u hu => by simp only [List.mem_map] at hu; obtain ⟨y, _, rfl⟩ := hu; rfl) (by unfold maxLen; omega) (by omega) (by simp) ?_; intro vy wy howny hgrowy hnily; obtain ⟨ay, cy, rfl, hOy⟩ := own_any (L := ys) (by rw [← HLy.out]; exact (Nat.zero_add len').symm) howny; have hby : Below (w1.alloc (.cells #[] 49)).heap.size (w1.alloc (.cells #[] 49)) wy := (below_one (w1.alloc (.cells #[] 49)) (.cells #[] 49)).grown hgrowy (by simp) (fun k e => by have e2 : some ((w1.heap.size + 1)) = some k := e; simp only [Option.some.injEq] at e2; simp; omega); have hIy := hOy.isW HUy.out; rw [← HLy.out] at hIy; rw [Nat.zero_add]; clear howny hgrowy hnily hOy))
  have hbx : Below w1.heap.size w1 (w1.alloc (.cells #[] 49)) := below_one _ _
  have hIx : IsW (w1.alloc (.cells #[] 49)) (some ⟨w1.heap.size, 0, none⟩) 0 0 xs := isW_zero HLx.out HUx.out
  have hb12 := nbelow_trans hbx hby
  have gA := hA1.keep hb12
  have gB := hB1.keep hb12
  have gP := hP1.kept hb12
  have gT := hT1.kept hb12
  have gX := hIx.keep hby
  have gY := hIy
  have hbw0 := nbelow_trans hb1 hb12
  clear hA1 hB1 hP1 hT1 hIx hIy hb1 hb12 hbx hby
  have hmx : 0 ≤ 17592186042000 := by omega
  have hmy : len' ≤ 17592186042000 := by omega
  have HY0 : Hid (Below wy.heap.size wy wy) := Below.refl _ _
  refine Calls.mono (norm_eq2 (r := (fitR (val xs)).1) (k := (fitR (val xs)).2) (gX) (by omega) rfl) ?_
  rintro e v1 ⟨a1, n1, c1, rfl, _, m1, o1, hb1⟩
  have hY1 := nbelow_trans HY0.out hb1
  have sf := soft_below hb1
  have r1 := o1.wr.lowW (show wy.heap.size ≤ _ from Nat.le_refl _)
  clear sf hb1 o1
  go_wp2_with fail
  refine Calls.mono (add_eq (r := (addR (val xs) (val ys)).1) (k := (addR (val xs) (val ys)).2) (gX.keep hY1) (gY.keep hY1) (by omega) (by omega) rfl) ?_
  rintro e v2 ⟨a2, n2, c2, rfl, _, m2, o2, hb2⟩
  have hY2 := nbelow_trans hY1 hb2
  have sf := soft_below hb2
  have r1 := r1.soft sf
  have r2 := o2.wr.lowW (show wy.heap.size ≤ _ from hY1.size)
  clear sf hb2 hY1 o2
  go_wp2_with fail
  refine Calls.mono (mul_eq (r := (mulR (val xs) (val ys)).1) (k := (mulR (val xs) (val ys)).2) (gX.keep hY2) (gY.keep hY2) (by omega) (by omega) rfl) ?_
  rintro e v3 ⟨a3, n3, c3, rfl, _, m3, o3, hb3⟩
  have hY3 := nbelow_trans hY2 hb3
  have sf := soft_below hb3
  have r1 := r1.soft sf
  have r2 := r2.soft sf
  have r3 := o3.wr.lowW (show wy.heap.size ≤ _ from hY2.size)
  clear sf hb3 hY2 o3
  go_wp2_with fail
  refine Calls.mono (div_eq (q := divQ (val xs) (val ys)) (r := divM (val xs) (val ys)) (k := divE (val xs) (val ys)) (gX.keep hY3) (gY.keep hY3) (by omega) (by omega) rfl rfl rfl) ?_
  rintro e v4 ⟨a4, a5, n4, c4, n5, c5, rfl, _, m4, o4, _, m5, o5, hb4⟩
  have hY4 := nbelow_trans hY3 hb4
  have sf := soft_below hb4
  have r1 := r1.soft sf
  have r2 := r2.soft sf
  have r3 := r3.soft sf
  have r4 := o4.wr.lowW (show wy.heap.size ≤ _ from hY3.size)
  have r5 := o5.wr.lowW (show wy.heap.size ≤ _ from hY3.size)
  clear sf hb4 hY3 o4 o5
  go_wp2_with fail
  refine Calls.mono (shl_eq (i := 0) (r := (shlR (val xs) 0).1) (k := (shlR (val xs) 0).2) (gX.keep hY4) (by omega) rfl) ?_
  rintro e v5 ⟨a6, n6, c6, rfl, _, m6, o6, hb5⟩
  have hY5 := nbelow_trans hY4 hb5
  have sf := soft_below hb5
  have r1 := r1.soft sf
  have r2 := r2.soft sf
  have r3 := r3.soft sf
  have r4 := r4.soft sf
  have r5 := r5.soft sf
  have r6 := o6.wr.lowW (show wy.heap.size ≤ _ from hY4.size)
  clear sf hb5 hY4 o6
  go_wp2_with fail
  refine Calls.mono (shr_eq (i := 0) (r := shrQ (val xs) 0) (l := shrL (val xs) 0) (k := shrE (val xs) 0) (gX.keep hY5) (by omega) (by decide) rfl rfl rfl) ?_
  rintro e v6 ⟨a7, n7, c7, rfl, _, m7, o7, hb6⟩
  have hY6 := nbelow_trans hY5 hb6
  have sf := soft_below hb6
  have r1 := r1.soft sf
  have r2 := r2.soft sf
  have r3 := r3.soft sf
  have r4 := r4.soft sf
  have r5 := r5.soft sf
  have r6 := r6.soft sf
  have r7 := o7.wr.lowW (show wy.heap.size ≤ _ from hY5.size)
  clear sf hb6 hY5 o7
  go_wp2_with fail
  refine Calls.mono (spoil_calls wy.heap.size a1 n1 c1 _ r1 m1) ?_
  rintro e v7 ⟨rfl, hb7, sf⟩
  have hY7 := hY6.trans hb7
  clear r1
  have r2 := r2.soft sf
  have r3 := r3.soft sf
  have r4 := r4.soft sf
  have r5 := r5.soft sf
  have r6 := r6.soft sf
  have r7 := r7.soft sf
  clear sf hb7 hY6
  go_wp2_with fail
  refine Calls.mono (spoil_calls wy.heap.size a2 n2 c2 _ r2 m2) ?_
  rintro e v8 ⟨rfl, hb8, sf⟩
  have hY8 := hY7.trans hb8
  clear r2
  have r3 := r3.soft sf
  have r4 := r4.soft sf
  have r5 := r5.soft sf
  have r6 := r6.soft sf
  have r7 := r7.soft sf
  clear sf hb8 hY7
  go_wp2_with fail
  refine Calls.mono (spoil_calls wy.heap.size a3 n3 c3 _ r3 m3) ?_
  rintro e v9 ⟨rfl, hb9, sf⟩
  have hY9 := hY8.trans hb9
  clear r3
  have r4 := r4.soft sf
  have r5 := r5.soft sf
  have r6 := r6.soft sf
  have r7 := r7.soft sf
  clear sf hb9 hY8
  go_wp2_with fail
  refine Calls.mono (spoil_calls wy.heap.size a4 n4 c4 _ r4 m4) ?_
  rintro e v10 ⟨rfl, hb10, sf⟩
  have hY10 := hY9.trans hb10
  clear r4
  have r5 := r5.soft sf
  have r6 := r6.soft sf
  have r7 := r7.soft sf
  clear sf hb10 hY9
  go_wp2_with fail
  refine Calls.mono (spoil_calls wy.heap.size a5 n5 c5 _ r5 m5) ?_
  rintro e v11 ⟨rfl, hb11, sf⟩
  have hY11 := hY10.trans hb11
  clear r5
  have r6 := r6.soft sf
  have r7 := r7.soft sf
  clear sf hb11 hY10
  go_wp2_with fail
  refine Calls.mono (spoil_calls wy.heap.size a6 n6 c6 _ r6 m6) ?_
  rintro e v12 ⟨rfl, hb12, sf⟩
  have hY12 := hY11.trans hb12
  clear r6
  have r7 := r7.soft sf
  clear sf hb12 hY11
  go_wp2_with fail
  refine Calls.mono (spoil_calls wy.heap.size a7 n7 c7 _ r7 m7) ?_
  rintro e v13 ⟨rfl, hb13, sf⟩
  have hY13 := hY12.trans hb13
  clear r7
  clear sf hb13 hY12
  go_wp2_with fail
  refine Calls.mono (same_calls _ _ _ _ _ _ _ _ _ (gX.keep hY13) (gA.keep hY13) (by omega) (by omega)) ?_
  rintro e v14 ⟨rfl, hb14⟩
  rw [show decide (xs = xs) = true by simp]
  have hY14 := nbelow_trans hY13 hb14
  clear hb14 hY13
  go_wp2_with fail
  refine Calls.mono (same_calls _ _ _ _ _ _ _ _ _ (gY.keep hY14) (gB.keep hY14) (by omega) (by omega)) ?_
  rintro e v15 ⟨rfl, hb15⟩
  rw [show decide (ys = ys) = true by simp]
  have hY15 := nbelow_trans hY14 hb15
  clear hb15 hY14
  go_wp2_with fail
  refine Calls.mono (natSums_walk _ _ _ _ _ _ _ _ _ (gX.keep hY15) (by omega) (gY.keep hY15) (by omega) (gT.kept hY15) (gP.kept hY15)) ?_
  rintro e v16 ⟨rfl, hb16⟩
  have hY16 := nbelow_trans hY15 hb16
  clear hb16 hY15
  go_wp2_with fail
  refine Calls.mono (natProducts_walk _ _ _ _ _ _ _ _ _ (gX.keep hY16) (by omega) (gY.keep hY16) (by omega) (gT.kept hY16) (gP.kept hY16)) ?_
  rintro e v17 ⟨rfl, hb17⟩
  have hY17 := nbelow_trans hY16 hb17
  clear hb17 hY16
  go_wp2_with fail
  go_ret
  exact ⟨rfl, nbelow_trans hbw0 hY17⟩

set_option maxRecDepth 100000 in
set_option maxHeartbeats 4000000 in
theorem own_nn (len cap : Nat) (xs : List Int) (len' cap' : Nat) (ys : List Int) (w : World) (hA : IsW w none len cap xs) (hm : len ≤ 17592186042000) (hB : IsW w none len' cap' ys) (hm' : len' ≤ 17592186042000) (hT : Tab w) (hP : TabP w) :
    Calls Tryz.prog 4 #[.slice none len cap, .slice none len' cap'] w fun e w' => e = .returned (.bool true) ∧ Below w.heap.size w w' := by
  obtain ⟨i0, hi, hz0, hz1, hz2⟩ := info_parts word_info
  have HLx : Hid (len = xs.length) := hA.1
  have HLy : Hid (len' = ys.length) := hB.1
  have HUx : Hid (AllU xs) := hA.2.1
  have HUy : Hid (AllU ys) := hB.2.1
  have hc0 := hA.2.2.1.2 rfl
  have hl0 : len = 0 := by have h2 := hA.2.2.1.1; omega
  subst hl0
  subst hc0
  have hc0' := hB.2.2.1.2 rfl
  have hl0' : len' = 0 := by have h2 := hB.2.2.1.1; omega
  subst hl0'
  subst hc0'
  go_enter Tryz.func4, Tryz.ntmps4
  go_wp2_with fail
  refine Calls.mono (lives_calls w hP) ?_
  rintro e w1 ⟨rfl, hb1⟩
  have hA1 := hA.keep hb1
  have hB1 := hB.keep hb1
  have hP1 := hP.kept hb1
  have hT1 := hT.kept hb1
  clear hA hB hP hT
  go_wp2_with (first | (at_builtin; refine wpList_append_own_none _ rfl _ _ 23 rfl w1.heap.size 49 i0 1 Tryz.underlying23 hi _ _ _ rfl (ownsRow_lit2 w1 w1.heap.size rfl) rfl ?_))
  have hbx : Below w1.heap.size w1 (w1.alloc (.cells #[] 49)) := below_one _ _
  have hIx : IsW (w1.alloc (.cells #[] 49)) (some ⟨w1.heap.size, 0, none⟩) 0 0 xs := isW_zero HLx.out HUx.out
  have hby : Below (w1.alloc (.cells #[] 49)).heap.size (w1.alloc (.cells #[] 49)) ((w1.alloc (.cells #[] 49)).alloc (.cells #[] 49)) := below_one _ _
  have hIy : IsW ((w1.alloc (.cells #[] 49)).alloc (.cells #[] 49)) (some ⟨w1.heap.size + 1, 0, none⟩) 0 0 ys := isW_zero HLy.out HUy.out
  have hb12 := nbelow_trans hbx hby
  have gA := hA1.keep hb12
  have gB := hB1.keep hb12
  have gP := hP1.kept hb12
  have gT := hT1.kept hb12
  have gX := hIx.keep hby
  have gY := hIy
  have hbw0 := nbelow_trans hb1 hb12
  clear hA1 hB1 hP1 hT1 hIx hIy hb1 hb12 hbx hby
  have hmx : 0 ≤ 17592186042000 := by omega
  have hmy : 0 ≤ 17592186042000 := by omega
  have HY0 : Hid (Below ((w1.alloc (.cells #[] 49)).alloc (.cells #[] 49)).heap.size ((w1.alloc (.cells #[] 49)).alloc (.cells #[] 49)) ((w1.alloc (.cells #[] 49)).alloc (.cells #[] 49))) := Below.refl _ _
  refine Calls.mono (norm_eq2 (r := (fitR (val xs)).1) (k := (fitR (val xs)).2) (gX) (by omega) rfl) ?_
  rintro e v1 ⟨a1, n1, c1, rfl, _, m1, o1, hb1⟩
  have hY1 := nbelow_trans HY0.out hb1
  have sf := soft_below hb1
  have r1 := o1.wr.lowW (show ((w1.alloc (.cells #[] 49)).alloc (.cells #[] 49)).heap.size ≤ _ from Nat.le_refl _)
  clear sf hb1 o1
  go_wp2_with fail
  refine Calls.mono (add_eq (r := (addR (val xs) (val ys)).1) (k := (addR (val xs) (val ys)).2) (gX.keep hY1) (gY.keep hY1) (by omega) (by omega) rfl) ?_
  rintro e v2 ⟨a2, n2, c2, rfl, _, m2, o2, hb2⟩
  have hY2 := nbelow_trans hY1 hb2
  have sf := soft_below hb2
  have r1 := r1.soft sf
  have r2 := o2.wr.lowW (show ((w1.alloc (.cells #[] 49)).alloc (.cells #[] 49)).heap.size ≤ _ from hY1.size)
  clear sf hb2 hY1 o2
  go_wp2_with fail
  refine Calls.mono (mul_eq (r := (mulR (val xs) (val ys)).1) (k := (mulR (val xs) (val ys)).2) (gX.keep hY2) (gY.keep hY2) (by omega) (by omega) rfl) ?_
  rintro e v3 ⟨a3, n3, c3, rfl, _, m3, o3, hb3⟩
  have hY3 := nbelow_trans hY2 hb3
  have sf := soft_below hb3
  have r1 := r1.soft sf
  have r2 := r2.soft sf
  have r3 := o3.wr.lowW (show ((w1.alloc (.cells #[] 49)).alloc (.cells #[] 49)).heap.size ≤ _ from hY2.size)
  clear sf hb3 hY2 o3
  go_wp2_with fail
  refine Calls.mono (div_eq (q := divQ (val xs) (val ys)) (r := divM (val xs) (val ys)) (k := divE (val xs) (val ys)) (gX.keep hY3) (gY.keep hY3) (by omega) (by omega) rfl rfl rfl) ?_
  rintro e v4 ⟨a4, a5, n4, c4, n5, c5, rfl, _, m4, o4, _, m5, o5, hb4⟩
  have hY4 := nbelow_trans hY3 hb4
  have sf := soft_below hb4
  have r1 := r1.soft sf
  have r2 := r2.soft sf
  have r3 := r3.soft sf
  have r4 := o4.wr.lowW (show ((w1.alloc (.cells #[] 49)).alloc (.cells #[] 49)).heap.size ≤ _ from hY3.size)
  have r5 := o5.wr.lowW (show ((w1.alloc (.cells #[] 49)).alloc (.cells #[] 49)).heap.size ≤ _ from hY3.size)
  clear sf hb4 hY3 o4 o5
  go_wp2_with fail
  refine Calls.mono (shl_eq (i := 0) (r := (shlR (val xs) 0).1) (k := (shlR (val xs) 0).2) (gX.keep hY4) (by omega) rfl) ?_
  rintro e v5 ⟨a6, n6, c6, rfl, _, m6, o6, hb5⟩
  have hY5 := nbelow_trans hY4 hb5
  have sf := soft_below hb5
  have r1 := r1.soft sf
  have r2 := r2.soft sf
  have r3 := r3.soft sf
  have r4 := r4.soft sf
  have r5 := r5.soft sf
  have r6 := o6.wr.lowW (show ((w1.alloc (.cells #[] 49)).alloc (.cells #[] 49)).heap.size ≤ _ from hY4.size)
  clear sf hb5 hY4 o6
  go_wp2_with fail
  refine Calls.mono (shr_eq (i := 0) (r := shrQ (val xs) 0) (l := shrL (val xs) 0) (k := shrE (val xs) 0) (gX.keep hY5) (by omega) (by decide) rfl rfl rfl) ?_
  rintro e v6 ⟨a7, n7, c7, rfl, _, m7, o7, hb6⟩
  have hY6 := nbelow_trans hY5 hb6
  have sf := soft_below hb6
  have r1 := r1.soft sf
  have r2 := r2.soft sf
  have r3 := r3.soft sf
  have r4 := r4.soft sf
  have r5 := r5.soft sf
  have r6 := r6.soft sf
  have r7 := o7.wr.lowW (show ((w1.alloc (.cells #[] 49)).alloc (.cells #[] 49)).heap.size ≤ _ from hY5.size)
  clear sf hb6 hY5 o7
  go_wp2_with fail
  refine Calls.mono (spoil_calls ((w1.alloc (.cells #[] 49)).alloc (.cells #[] 49)).heap.size a1 n1 c1 _ r1 m1) ?_
  rintro e v7 ⟨rfl, hb7, sf⟩
  have hY7 := hY6.trans hb7
  clear r1
  have r2 := r2.soft sf
  have r3 := r3.soft sf
  have r4 := r4.soft sf
  have r5 := r5.soft sf
  have r6 := r6.soft sf
  have r7 := r7.soft sf
  clear sf hb7 hY6
  go_wp2_with fail
  refine Calls.mono (spoil_calls ((w1.alloc (.cells #[] 49)).alloc (.cells #[] 49)).heap.size a2 n2 c2 _ r2 m2) ?_
  rintro e v8 ⟨rfl, hb8, sf⟩
  have hY8 := hY7.trans hb8
  clear r2
  have r3 := r3.soft sf
  have r4 := r4.soft sf
  have r5 := r5.soft sf
  have r6 := r6.soft sf
  have r7 := r7.soft sf
  clear sf hb8 hY7
  go_wp2_with fail
  refine Calls.mono (spoil_calls ((w1.alloc (.cells #[] 49)).alloc (.cells #[] 49)).heap.size a3 n3 c3 _ r3 m3) ?_
  rintro e v9 ⟨rfl, hb9, sf⟩
  have hY9 := hY8.trans hb9
  clear r3
  have r4 := r4.soft sf
  have r5 := r5.soft sf
  have r6 := r6.soft sf
  have r7 := r7.soft sf
  clear sf hb9 hY8
  go_wp2_with fail
  refine Calls.mono (spoil_calls ((w1.alloc (.cells #[] 49)).alloc (.cells #[] 49)).heap.size a4 n4 c4 _ r4 m4) ?_
  rintro e v10 ⟨rfl, hb10, sf⟩
  have hY10 := hY9.trans hb10
  clear r4
  have r5 := r5.soft sf
  have r6 := r6.soft sf
  have r7 := r7.soft sf
  clear sf hb10 hY9
  go_wp2_with fail
  refine Calls.mono (spoil_calls ((w1.alloc (.cells #[] 49)).alloc (.cells #[] 49)).heap.size a5 n5 c5 _ r5 m5) ?_
  rintro e v11 ⟨rfl, hb11, sf⟩
  have hY11 := hY10.trans hb11
  clear r5
  have r6 := r6.soft sf
  have r7 := r7.soft sf
  clear sf hb11 hY10
  go_wp2_with fail
  refine Calls.mono (spoil_calls ((w1.alloc (.cells #[] 49)).alloc (.cells #[] 49)).heap.size a6 n6 c6 _ r6 m6) ?_
  rintro e v12 ⟨rfl, hb12, sf⟩
  have hY12 := hY11.trans hb12
  clear r6
  have r7 := r7.soft sf
  clear sf hb12 hY11
  go_wp2_with fail
  refine Calls.mono (spoil_calls ((w1.alloc (.cells #[] 49)).alloc (.cells #[] 49)).heap.size a7 n7 c7 _ r7 m7) ?_
  rintro e v13 ⟨rfl, hb13, sf⟩
  have hY13 := hY12.trans hb13
  clear r7
  clear sf hb13 hY12
  go_wp2_with fail
  refine Calls.mono (same_calls _ _ _ _ _ _ _ _ _ (gX.keep hY13) (gA.keep hY13) (by omega) (by omega)) ?_
  rintro e v14 ⟨rfl, hb14⟩
  rw [show decide (xs = xs) = true by simp]
  have hY14 := nbelow_trans hY13 hb14
  clear hb14 hY13
  go_wp2_with fail
  refine Calls.mono (same_calls _ _ _ _ _ _ _ _ _ (gY.keep hY14) (gB.keep hY14) (by omega) (by omega)) ?_
  rintro e v15 ⟨rfl, hb15⟩
  rw [show decide (ys = ys) = true by simp]
  have hY15 := nbelow_trans hY14 hb15
  clear hb15 hY14
  go_wp2_with fail
  refine Calls.mono (natSums_walk _ _ _ _ _ _ _ _ _ (gX.keep hY15) (by omega) (gY.keep hY15) (by omega) (gT.kept hY15) (gP.kept hY15)) ?_
  rintro e v16 ⟨rfl, hb16⟩
  have hY16 := nbelow_trans hY15 hb16
  clear hb16 hY15
  go_wp2_with fail
  refine Calls.mono (natProducts_walk _ _ _ _ _ _ _ _ _ (gX.keep hY16) (by omega) (gY.keep hY16) (by omega) (gT.kept hY16) (gP.kept hY16)) ?_
  rintro e v17 ⟨rfl, hb17⟩
  have hY17 := nbelow_trans hY16 hb17
  clear hb17 hY16
  go_wp2_with fail
  go_ret
  exact ⟨rfl, nbelow_trans hbw0 hY17⟩

theorem natOwn_walk (a : Option Addr) (len cap : Nat) (xs : List Int) (b : Option Addr) (len' cap' : Nat) (ys : List Int) (w : World) (hA : IsW w a len cap xs) (hm : len ≤ 17592186042000) (hB : IsW w b len' cap' ys) (hm' : len' ≤ 17592186042000) (hT : Tab w) (hP : TabP w) :
    Calls Tryz.prog 4 #[.slice a len cap, .slice b len' cap'] w fun e w' => e = .returned (.bool true) ∧ Below w.heap.size w w' := by
  cases a with
  | none =>
    cases b with
    | none => exact own_nn len cap xs len' cap' ys w hA hm hB hm' hT hP
    | some adb => exact own_ns adb len cap xs len' cap' ys w hA hm hB hm' hT hP
  | some ada =>
    cases b with
    | none => exact own_sn ada len cap xs len' cap' ys w hA hm hB hm' hT hP
    | some adb => exact own_ss ada adb len cap xs len' cap' ys w hA hm hB hm' hT hP

end Go.Proofs.YtfafhinjcligaaaGreatDoor
