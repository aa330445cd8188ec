/- The walks of quotients: two answers at once; Div as it is called; the quotient by one word. The walks of powers. The walk of Pow as it is called. -/
import Derived.Test.YtiijfnaaekmpbaaGreatDoorTMB
import Derived.Test.YtiijfnaaekmpbaaGreatDoorTMI
import Derived.Test.YtiijfnaaekmpbaaGreatDoorNMX

namespace Go.Proofs.YtiijfnaaekmpbaaGreatDoor
open Go.RowKit
set_option maxHeartbeats 1000000
set_option maxRecDepth 100000
theorem lenU_calls (x : Nat) (w : World) (h : x < 18446744073709551616) :
  Calls Tryz.prog 146 #[.int .u64 (x : Int)] w fun e w' => e = .returned (.int .i64 (blen x)) ∧ w' = w := by
 have hb : Hid (Lib.bitLen x = blen x) := blen_lib x h
 go_enter Tryz.func146, Tryz.ntmps146
 go_wp2_with fail
 refine cM (Tryz.bits_Len64 _ _ (by omega) (by omega)) ?_
 rintro e w ⟨rfl, rfl⟩
 rw [Int.toNat_natCast, hb.out]
 go_wp2_with fail
 go_ret
 exact ⟨rfl, rfl⟩
theorem bit_i64 (x : Nat) (h : x < 9223372036854775808) : bits BinOp.and IntKind.i64 (x : Int) 1 = ((x % 2 : Nat) : Int) := by
 have h1 : (BitVec.ofInt 64 (x : Int)).toNat = x := by
  rw [BitVec.ofInt_natCast, BitVec.toNat_ofNat]; exact Nat.mod_eq_of_lt (by omega)
 have h2 : (BitVec.ofInt 64 (1 : Int)).toNat = 1 := by decide
 show IntKind.i64.wrap ((BitVec.ofInt 64 (x : Int) &&& BitVec.ofInt 64 (1 : Int)).toNat : Int) = _
 rw [BitVec.toNat_and, h1, h2, Nat.and_one_is_mod, IntKind.wrap_i64]
 omega
theorem pow_half (n d : Nat) : n / 2 ^ d = 2 * (n / 2 ^ (d + 1)) + n / 2 ^ d % 2 := by
 rw [Nat.pow_succ, ← Nat.div_div_eq_div_mul]; omega
theorem pow_step (v n d : Nat) : v ^ (n / 2 ^ d) = v ^ (n / 2 ^ (d + 1)) * v ^ (n / 2 ^ (d + 1)) * v ^ (n / 2 ^ d % 2) := by
 conv => lhs; rw [pow_half n d, Nat.pow_add, Nat.two_mul, Nat.pow_add]
theorem one_lt_big (k : Nat) (h : 0 < k) : 1 < 18446744073709551616 ^ k := Nat.one_lt_pow (by omega) (by decide)
theorem pow_le_len (v n j K : Nat) (hK : 0 < K) (hj : j ≤ n) (hf : (wO (v ^ n)).length ≤ K) : (wO (v ^ j)).length ≤ K := by
 rw [words_len] at *
 rcases Nat.eq_zero_or_pos v with h | h
 ·subst h
  have : (0 : Nat) ^ j ≤ 1 := by cases j <;> simp
  exact Nat.lt_of_le_of_lt this (one_lt_big _ hK)
 ·exact Nat.lt_of_le_of_lt (Nat.pow_le_pow_right h hj) hf
theorem power_calls (a : Option Addr) (k v n : Nat) (w : World) (h : IsW w a k k (wO v)) (hk : k ≤ 4000) (hn : n ≤ 9223372036854775807) (hf : (wO (v ^ n)).length ≤ 4000) :
  Calls Tryz.prog 131 #[.slice a k k, .int .i64 (n : Int)] w fun e w' => ∃ (ao : Option Addr) (m : Nat), e = .returned (.slice ao m m) ∧ m = (wO (v ^ n)).length ∧ OwnW w.heap.size w' ao m m (wO (v ^ n)) ∧ Below w.heap.size w w' := by
 obtain ⟨L, hL⟩ : ∃ L, L = blen n := ⟨_, rfl⟩
 have LC : Hid (∀ W : World, Calls Tryz.prog 146 #[.int .u64 (n : Int)] W fun e w' => e = .returned (.int .i64 (L : Int)) ∧ w' = W) := fun W => by
  rw [hL]; exact lenU_calls n W (by omega)
 have HN : Hid (n < 2 ^ L) := by rw [hL]; exact lt_blen n
 have hL64 : L ≤ 63 := by rw [hL, blen_le]; have : (2 : Nat) ^ 63 = 9223372036854775808 := rfl; omega
 have HF : Hid ((wO (v ^ n)).length ≤ 4000) := hf
 clear hL hf
 go_enter Tryz.func131, Tryz.ntmps131
 go_wp2_with fail
 refine cM (word_calls 1 w (by omega) (by omega)) ?_
 rintro e w1 ⟨a1, n1, rfl, hn1, hO1, hb1⟩
 have HN1 : Hid (n1 = (wO 1).length) := hn1
 clear hn1
 go_wp2_with fail
 refine cM (LC.out _) ?_
 rintro e w1 ⟨rfl, rfl⟩
 go_wp2_with fail
 go_loopw [5, 11] (fun vm vi wr => ∃ (i m : Nat) (ao : Option Addr), i ≤ L ∧ vi = .int .i64 (i : Int) ∧ vm = .slice ao m m ∧ Hid (m = (wO (v ^ (n / 2 ^ (L - i)))).length) ∧ OwnW w.heap.size wr ao m m (wO (v ^ (n / 2 ^ (L - i)))) ∧ Below w.heap.size w wr) (fun _ vi _ => L - (intOf vi).toNat)
 case atStart =>
  have e0 : n / 2 ^ (L - 0) = 0 := Nat.div_eq_of_lt HN.out
  exact ⟨0, n1, a1, by omega, rfl, rfl, by rw [e0, Nat.pow_zero]; exact HN1, by rw [e0, Nat.pow_zero]; exact hO1, hb1⟩
 case round =>
  clear hO1 hb1
  obtain ⟨i, m, ao, hi, rfl, rfl, HM, hO, hbr⟩ := hrel
  by_cases hlt : i < L
  ·have hm : m ≤ 4000 := by rw [HM.out]; exact pow_le_len v n _ _ (by decide) (Nat.div_le_self _ _) HF.out
   go_wp2_with fail
   refine cM (times_calls ao ao m m _ _ wr hO.1 hO.1 (by omega) (by omega)) ?_
   rintro e w2 ⟨a2, k2, M, rfl, hO2, hv2, hk2, hb2⟩
   rw [val_words] at hv2
   have HV2 : Hid (val M = v ^ (n / 2 ^ (L - i)) * v ^ (n / 2 ^ (L - i))) := hv2
   have hb3 := nT hbr hb2
   have hwr : w.heap.size ≤ wr.heap.size := hbr.size
   clear hv2 hO HM hbr
   go_wp2_with fail
   refine cM (trimW_pack _ a2 k2 k2 M w2 hO2 (by omega)) ?_
   rintro e w2 ⟨a3, k3, rfl, hk3, hO3, rfl⟩
   rw [HV2.out] at hk3 hO3
   have HK3 : Hid (k3 = (wO (v ^ (n / 2 ^ (L - i)) * v ^ (n / 2 ^ (L - i)))).length) := hk3
   clear hk3 hO2
   go_wp2_with fail
   refine cM (LC.out _) ?_
   rintro e w2 ⟨rfl, rfl⟩
   have hqe : (n : Int) / 2 ^ (L - 1 - i) = ((n / 2 ^ (L - 1 - i) : Nat) : Int) := by rw [Int.natCast_ediv, Int.natCast_pow]; rfl
   have hqb : bits BinOp.and IntKind.i64 ((n / 2 ^ (L - 1 - i) : Nat) : Int) 1 = ((n / 2 ^ (L - 1 - i) % 2 : Nat) : Int) := bit_i64 _ (by have := Nat.div_le_self n (2 ^ (L - 1 - i)); omega)
   have HPS : Hid (v ^ (n / 2 ^ (L - (i + 1))) = v ^ (n / 2 ^ (L - i)) * v ^ (n / 2 ^ (L - i)) * v ^ (n / 2 ^ (L - 1 - i) % 2)) := by
    have := pow_step v n (L - 1 - i)
    rw [show L - 1 - i + 1 = L - i by omega] at this
    rw [show L - (i + 1) = L - 1 - i by omega]; exact this
   have hsq : k3 ≤ 4000 := by
    rw [HK3.out, ← Nat.pow_add]
    refine pow_le_len v n _ _ (by decide) ?_ HF.out
    have h1 := pow_half n (L - 1 - i)
    rw [show L - 1 - i + 1 = L - i by omega] at h1
    have h2 := Nat.div_le_self n (2 ^ (L - 1 - i))
    omega
   obtain ⟨bt, hbt⟩ : ∃ bt, bt = n / 2 ^ (L - 1 - i) % 2 := ⟨_, rfl⟩
   rw [← hbt] at hqb HPS
   have hbt2 : bt = 0 ∨ bt = 1 := by omega
   have HLM : Hid (L - (i + 1) = L - 1 - i) := by rw [Hid]; omega
   clear hbt
   generalize hX : n / 2 ^ (L - 1 - i) = X at *
   clear hX
   rcases hbt2 with rfl | rfl
   ·rw [Nat.pow_zero, Nat.mul_one] at HPS
    go_wp2_with fail
    refine ⟨⟨i + 1, k3, a3, by omega, by go_num, rfl, by rw [HPS.out]; exact HK3, by rw [HPS.out]; exact hO3.low hwr, hb3⟩, by simp [intOf]; omega⟩
   ·rw [Nat.pow_one] at HPS
    go_wp2_with fail
    refine cM (times_calls a3 a k3 k _ _ w2 hO3.1 (h.keep hb3) (by omega) (by omega)) ?_
    rintro e w4 ⟨a4, k4, M4, rfl, hO4, hv4, hk4, hb4⟩
    rw [val_words, val_words] at hv4
    have HV4 : Hid (val M4 = v ^ (n / 2 ^ (L - (i + 1)))) := by rw [Hid, HPS.out]; exact hv4
    have hb5 := nT hb3 hb4
    clear hv4 hO3 hb4
    go_wp2_with fail
    refine cM (trimW_pack _ a4 k4 k4 M4 w4 hO4 (by omega)) ?_
    rintro e w4 ⟨a5, k5, rfl, hk5, hO5, rfl⟩
    rw [HV4.out] at hk5 hO5
    have HK5 : Hid (k5 = (wO (v ^ (n / 2 ^ (L - (i + 1))))).length) := hk5
    have hlow : w.heap.size ≤ w2.heap.size := hb3.size
    clear hk5 hO4
    go_wp2_with fail
    refine ⟨⟨i + 1, k5, a5, by omega, by go_num, rfl, HK5, hO5.low hlow, hb5⟩, by simp [intOf]; omega⟩
  ·have e0 : n / 2 ^ (L - i) = n := by rw [show L - i = 0 by omega, Nat.pow_zero, Nat.div_one]
   rw [e0] at HM hO
   clear e0
   go_wp2_with fail
   go_ret
   exact ⟨ao, m, rfl, HM.out, hO, hbr⟩
def powR (u : Nat) (m : Int) : Nat × Int := if greatB u = true then (0, 3) else if m < 0 then (0, 2) else fitR (u ^ m.toNat)
theorem powR_great {u : Nat} {m : Int} (h : greatB u = true) : powR u m = (0, 3) := by unfold powR; rw [if_pos h]
theorem powR_neg {u : Nat} {m : Int} (h : greatB u = false) (h2 : m < 0) : powR u m = (0, 2) := by unfold powR; rw [if_neg (by rw [h]; decide), if_pos h2]
theorem powR_fit {u j : Nat} (h : greatB u = false) : powR u (j : Int) = fitR (u ^ j) := by unfold powR; rw [if_neg (by rw [h]; decide), if_neg (by omega), Int.toNat_natCast]
theorem pow_mono2 (a b : Nat) (h : a ≤ b) : 2 ^ a ≤ 2 ^ b := Nat.pow_le_pow_right (by decide) h
theorem pow_lt2 (a b : Nat) (h : a < b) : 2 ^ a < 2 ^ b := Nat.pow_lt_pow_right (by decide) h
theorem pow_many {u j : Nat} (hb : 1 < blen u) (h : 65535 / (blen u - 1) < j) : greatB (u ^ j) = true := by
 have hu : u ≠ 0 := fun e => by rw [e] at hb; simp [blen_zero] at hb
 have h1 := blen_ge u hu
 have h2 := Nat.pow_le_pow_left h1 j
 rw [← Nat.pow_mul] at h2
 rw [great_iff]
 rw [Nat.div_lt_iff_lt_mul (by omega)] at h
 rcases Nat.lt_or_ge 65536 (blen (u ^ j)) with q | q
 ·exact q
 ·exfalso
  have h3 := (blen_le _ _).1 q
  have h4 := pow_mono2 65536 ((blen u - 1) * j) (by rw [Nat.mul_comm]; omega)
  exact absurd (Nat.lt_of_le_of_lt h2 h3) (Nat.not_lt.2 h4)
theorem pow_small {u j : Nat} (h : ¬ (1 < blen u ∧ 65535 / (blen u - 1) < j)) : (wO (u ^ j)).length ≤ 4000 := by
 by_cases hb : 1 < blen u
 ·have h1 : ¬ 65535 / (blen u - 1) < j := fun q => h ⟨hb, q⟩
  suffices hs : ∀ K, K = 4000 → (wO (u ^ j)).length ≤ K from hs _ rfl
  intro K hK
  rw [words_len2, blen_le]
  rw [Nat.div_lt_iff_lt_mul (by omega)] at h1
  have h2 := Nat.pow_le_pow_left (Nat.le_of_lt (lt_blen u)) j
  rw [← Nat.pow_mul] at h2
  refine Nat.lt_of_le_of_lt h2 (pow_lt2 _ _ ?_)
  obtain ⟨b, hb2⟩ : ∃ b, blen u = b + 1 := ⟨blen u - 1, by omega⟩
  rw [hb2] at h1 hb ⊢
  rw [Nat.add_sub_cancel] at h1
  rw [Nat.add_mul, Nat.one_mul]
  have h3 : j * 1 ≤ j * b := Nat.mul_le_mul_left j (by omega)
  rw [Nat.mul_comm b j]
  omega
 ·have hu : u ≤ 1 := by
   have := (blen_le u 1).1 (by omega)
   omega
  have h2 : u ^ j ≤ 1 := by
   have := Nat.pow_le_pow_left hu j
   rwa [Nat.one_pow] at this
  suffices hs : ∀ K, 0 < K → (wO (u ^ j)).length ≤ K from hs _ (by decide)
  intro K hK
  rw [words_len]
  exact Nat.lt_of_le_of_lt h2 (one_lt_big _ hK)
set_option maxRecDepth 100000 in
set_option maxHeartbeats 1000000 in
theorem pow_calls (a : Option Addr) (len cap : Nat) (xs : List Int) (i : Int) (w : World) (h : IsW w a len cap xs) (hm : len ≤ 17592186044416) (hi1 : i ≤ 9223372036854775807) :
  Calls Tryz.prog 103 #[.slice a len cap, .int .i64 i] w fun e w' => ∃ v, e = .returned (.tuple #[v, .int .i64 (powR (val xs) i).2]) ∧ NatAt w.heap.size w' v (powR (val xs) i).1 ∧ Below w.heap.size w w' := by
 have HT := withCount_calls a len cap xs i w h hm
 go_enter Tryz.func103, Tryz.ntmps103
 go_wp2_with fail
 refine cM HT ?_
 rintro e w1 ⟨h1, h2, h3, hb⟩
 clear HT
 cases hg : greatB (val xs) with
 | true =>
  obtain rfl := h1 hg
  have e0 : Hid _ := powR_great (m := i) hg
  clear h1 h2 h3 hg
  go_wp2_with fail
  go_ret2
  rw [e0.out]
  exact ⟨_, rfl, natAt_nil _ _, hb⟩
 | false =>
  by_cases hi : i < 0
  ·obtain rfl := h2 hg hi
   have e0 : Hid _ := powR_neg hg hi
   clear h1 h2 h3 hg
   go_wp2_with fail
   go_ret2
   rw [e0.out]
   exact ⟨_, rfl, natAt_nil _ _, hb⟩
  ·obtain ⟨a1, n, rfl, hn, hn2, hI⟩ := h3 hg (by omega)
   obtain ⟨j, rfl⟩ := Int.eq_ofNat_of_zero_le (show 0 ≤ i by omega)
   have e0 : Hid _ := powR_fit (u := val xs) (j := j) hg
   have HG : Hid _ := hg
   have hbl : blen (val xs) ≤ 65536 := (great_not _).1 hg
   clear h1 h2 h3 hg hn
   have BC : Hid _ := bits_calls a1 n (val xs) w1 hI (by omega)
   obtain ⟨b, hbb⟩ : ∃ b, b = blen (val xs) := ⟨_, rfl⟩
   have HPM : Hid (1 < b → 65535 / (b - 1) < j → greatB (val xs ^ j) = true) := fun q1 q2 => by rw [hbb] at q1 q2; exact pow_many q1 q2
   have HPS : Hid (¬ (1 < b ∧ 65535 / (b - 1) < j) → (wO (val xs ^ j)).length ≤ 4000) := fun q => by rw [hbb] at q; exact pow_small q
   rw [← hbb] at BC hbl
   clear hbb
   have PC : Hid ((wO (val xs ^ j)).length ≤ 4000 → _) := fun hf => power_calls a1 n (val xs) j w1 hI (by omega) (by omega) hf
   by_cases hb1 : 1 < b
   ·have hd0 : ((b : Int) - 1 == 0) = false := by simp; omega
    obtain ⟨c, hc⟩ : ∃ c, c = 65535 / (b - 1) := ⟨_, rfl⟩
    have hc2 : (65535 : Int) / ((b : Int) - 1) = (c : Int) := by
     rw [hc, Int.natCast_ediv, Int.natCast_sub (by omega)]; rfl
    rw [← hc] at HPM HPS
    clear hc
    by_cases hc3 : c < j
    ·have HQ : Hid (fitR (val xs ^ j) = (0, 3)) := fitR_yes (HPM.out hb1 hc3)
     go_wp2_with fail
     refine cM BC.out ?_
     rintro e w1 ⟨rfl, rfl⟩
     go_wp2_with fail
     refine cM BC.out ?_
     rintro e w1 ⟨rfl, rfl⟩
     go_wp2_with fail
     go_ret2
     rw [e0.out, HQ.out]
     exact ⟨_, rfl, natAt_nil _ _, hb⟩
    ·have hf := HPS.out (fun q => hc3 q.2)
     have PD : Hid _ := PC.out hf
     have hf2 : Hid _ := hf
     clear PC HPM HPS hf
     go_wp2_with fail
     refine cM BC.out ?_
     rintro e w1 ⟨rfl, rfl⟩
     go_wp2_with fail
     refine cM BC.out ?_
     rintro e w1 ⟨rfl, rfl⟩
     go_wp2_with fail
     refine cM PD.out ?_
     rintro e w2 ⟨ao, m, rfl, hmm, hO, hb2⟩
     have hml : m ≤ 4000 := by rw [hmm]; exact hf2.out
     clear PD BC hmm
     go_wp2_with fail
     refine cM (answer_calls _ ao m m _ w2 hO (by omega)) ?_
     rintro e w3 ⟨v, rfl, hA, hb3⟩
     rw [val_words] at hA ⊢
     go_wp2_with fail
     go_ret2
     rw [e0.out]
     exact ⟨v, rfl, hA.low hb.size, nT (nT hb hb2) hb3⟩
   ·have hf := HPS.out (fun q => hb1 q.1)
    have PD : Hid _ := PC.out hf
    have hf2 : Hid _ := hf
    clear PC HPM HPS hf
    go_wp2_with fail
    refine cM BC.out ?_
    rintro e w1 ⟨rfl, rfl⟩
    go_wp2_with fail
    refine cM PD.out ?_
    rintro e w2 ⟨ao, m, rfl, hmm, hO, hb2⟩
    have hml : m ≤ 4000 := by rw [hmm]; exact hf2.out
    clear PD BC hmm
    go_wp2_with fail
    refine cM (answer_calls _ ao m m _ w2 hO (by omega)) ?_
    rintro e w3 ⟨v, rfl, hA, hb3⟩
    rw [val_words] at hA ⊢
    go_wp2_with fail
    go_ret2
    rw [e0.out]
    exact ⟨v, rfl, hA.low hb.size, nT (nT hb hb2) hb3⟩
end Go.Proofs.YtiijfnaaekmpbaaGreatDoor
