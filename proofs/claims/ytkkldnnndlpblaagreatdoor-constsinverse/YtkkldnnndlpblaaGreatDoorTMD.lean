/- The walks of quotients: two answers at once; Div as it is called; the quotient by one word. The walks of powers. The walks of shifts to the left. The walks of shifts to the right. The walks of Shl and Shr as they are called. The walk of Pow as it is called. The calls of package nat (no quotients, no powers) where what they come to is known: the answers' slices, read. -/
import Derived.Test.YtkkldnnndlpblaaGreatDoorTMB
import Derived.Test.YtkkldnnndlpblaaGreatDoorTMC
import Derived.BigRegion

namespace Go.Proofs.YtkkldnnndlpblaaGreatDoor
open Go.RowKit

set_option maxHeartbeats 1000000 in
theorem answers_calls (B : Nat) (a a' : Option Addr) (n c n' c' : Nat) (xs ys : List Int) (w : World) (h : OwnW B w a n c xs) (h' : OwnW B w a' n' c' ys) (hm : n ≤ 17592186044416) (hm' : n' ≤ 17592186044416) (hx : greatB (val xs) = false) (hy : greatB (val ys) = false) :
    Calls Tryz.prog 160 #[.slice a n c, .slice a' n' c'] w fun e w' => ∃ v v', e = .returned (.tuple #[v, v', .int .i64 0]) ∧ NatAt B w' v (val xs) ∧ NatAt B w' v' (val ys) ∧ Below w.heap.size w w' := by
  have HX : Hid _ := fitR_no hx
  have HY : Hid _ := fitR_no hy
  go_enter Tryz.func160, Tryz.ntmps160
  go_wp2_with fail
  refine Calls.mono (answer_calls B a n c xs w h hm) ?_
  rintro e w1 ⟨v, rfl, hA, hb⟩
  rw [HX.out] at hA ⊢
  have h1 := h'.keep hb
  clear hx hy
  go_wp2_with fail
  refine Calls.mono (answer_calls B a' n' c' ys w1 h1 hm') ?_
  rintro e w2 ⟨v', rfl, hA', hb'⟩
  rw [HY.out] at hA' ⊢
  go_wp2_with fail
  go_ret3
  exact ⟨v, v', rfl, hA.keep hb', hA', nbelow_trans hb hb'⟩

/-- The quotient of two naturals, word by word: what its call answers. -/
def OverC (u v : Nat) : Prop := ∀ (a b : Option Addr) (n m : Nat) (w : World), IsW w a n n (wordsOf u) → IsW w b m m (wordsOf v) → n ≤ 1024 → m ≤ 1024 →
  Calls Tryz.prog 161 #[.slice a n n, .slice b m m] w fun e w' => ∃ (a1 a2 : Option Addr) (k1 c1 k2 c2 : Nat) (M1 M2 : List Int), e = .returned (.tuple #[.slice a1 k1 c1, .slice a2 k2 c2]) ∧ OwnW w.heap.size w' a1 k1 c1 M1 ∧ val M1 = u / v ∧ k1 ≤ 4096 ∧ OwnW w.heap.size w' a2 k2 c2 M2 ∧ val M2 = u % v ∧ k2 ≤ 4096 ∧ Below w.heap.size w w'

set_option maxRecDepth 100000 in
set_option maxHeartbeats 1000000 in
theorem over_small (u v : Nat) (hlt : u < v) : OverC u v := by
  intro a b n m w hA hB hn hm
  have HC : Hid (cmpN u v = -1) := by rw [Hid, cmpN, if_pos hlt]
  go_enter Tryz.func161, Tryz.ntmps161
  go_wp2_with fail
  refine Calls.mono (against_calls a b n m u v w hA hB (by omega) (by omega)) ?_
  rintro e w1 ⟨rfl, hb⟩
  rw [HC.out]
  go_wp2_with fail
  refine Calls.mono (copied_calls a n (wordsOf u) w1 (hA.keep hb) (by omega)) ?_
  rintro e w2 ⟨ao, cv, rfl, hO, hb2⟩
  have HD : Hid (u / v = 0 ∧ u % v = u) := ⟨Nat.div_eq_of_lt hlt, Nat.mod_eq_of_lt hlt⟩
  clear hlt
  go_wp2_with fail
  go_ret2
  exact ⟨none, ao, 0, 0, n, cv, [], wordsOf u, rfl, ownW_nil _ _, by rw [HD.out.1]; rfl, by omega, hO.low hb.size, by rw [HD.out.2, val_words], by omega, nbelow_trans hb hb2⟩

set_option maxRecDepth 100000 in
set_option maxHeartbeats 1000000 in
theorem over_one (u v : Nat) (hv0 : 0 < v) (hv : v < 18446744073709551616) : OverC u v := by
  by_cases hlt : u < v
  · exact over_small u v hlt
  intro a b n m w hA hB hn hm
  have hc : 0 ≤ cmpN u v := by unfold cmpN; rw [if_neg hlt]; split <;> omega
  have hW : wordsOf v = [(v : Int)] := by
    rw [words_pos v (by omega), Nat.mod_eq_of_lt hv, Nat.div_eq_of_lt hv, words_zero]
  have hm1 : m = 1 := by rw [hB.1, hW]; rfl
  subst hm1
  obtain ⟨bb, bo, rfl, hbl, hbc⟩ := hB.2.2.2 0 (by omega)
  rw [hW] at hbc
  have hbc1 : w.cell? ⟨bb, bo, none⟩ = some (.int .u64 (v : Int)) := hbc
  have hu : u ≠ 0 := by omega
  have hn1 : 0 < n := by
    rcases Nat.eq_zero_or_pos n with h1 | h1
    · exact absurd ((words_nil _).1 (List.length_eq_zero_iff.1 (by rw [← hA.1]; exact h1))) hu
    · exact h1
  have AG : Hid _ := against_calls a (some ⟨bb, bo, none⟩) n 1 u v w hA hB (by omega) (by omega)
  clear hlt hW hbc hB hu
  go_enter Tryz.func161, Tryz.ntmps161
  go_wp2_with fail
  refine Calls.mono AG.out ?_
  rintro e w1 ⟨rfl, hb⟩
  generalize cmpN u v = cc at hc ⊢
  have hbc2 : w1.cell? ⟨bb, bo, none⟩ = some (.int .u64 (v : Int)) := (hb.cell (p := ⟨bb, bo, none⟩) hbl).trans hbc1
  have hbl1 : bb < w1.heap.size := Nat.lt_of_lt_of_le hbl hb.size
  clear AG
  go_wp2_with fail
  refine Calls.mono (copied_calls a n (wordsOf u) w1 (hA.keep hb) (by omega)) ?_
  rintro e w2 ⟨ao, cv, rfl, hO, hb2⟩
  obtain ⟨g, off, rfl, hgl, _⟩ := hO.1.2.2.2 0 hn1
  have hgB := (hO.2 g off 0 rfl hn1).1
  have hbc3 : w2.cell? ⟨bb, bo, none⟩ = some (.int .u64 (v : Int)) := (hb2.cell (p := ⟨bb, bo, none⟩) hbl1).trans hbc2
  clear hbc1 hbc2
  go_wp2_with fail
  refine Calls.mono (divideBy_calls w1.heap.size g off n cv v (wordsOf u) w2 hO (by omega) hv0 hv) ?_
  rintro e w3 ⟨M, rfl, hO3, hvM, hg3⟩
  rw [val_words] at hvM ⊢
  have HM : Hid (val M = u / v) := hvM
  have hrl := Nat.mod_lt u hv0
  have HR : Hid _ := hvM
  obtain ⟨rm, hrm⟩ : ∃ rm, rm = u % v := ⟨_, rfl⟩
  rw [← hrm] at hrl ⊢
  have HRM : Hid (rm = u % v) := hrm
  clear hvM hrm HR
  have hb3 : Below w1.heap.size w1 w3 := hb2.grown hg3 hb2.size (fun k e => by simp at e; omega)
  go_wp2_with fail
  refine Calls.mono (word_calls (rm : Int) w3 (by omega) (by omega)) ?_
  rintro e w4 ⟨ao4, n4, rfl, hn4, hO4, hb4⟩
  rw [Int.toNat_natCast] at hn4 hO4
  have hn4l : n4 ≤ 1 := by
    rw [hn4, words_len]; omega
  clear hn4
  go_wp2_with fail
  go_ret2
  exact ⟨some ⟨g, off, none⟩, ao4, n, cv, n4, n4, M, wordsOf rm, rfl, (hO3.keep hb4).low hb.size, HM.out, by omega, hO4.low (Nat.le_trans hb.size hb3.size), by rw [val_words, HRM.out], by omega, nbelow_trans (nbelow_trans hb hb3) hb4⟩

/-- The quotient and what is left, or why there is none. -/
def divE (u v : Nat) : Int := if (greatB u || greatB v) = true then 3 else if v = 0 then 30 else 0

def divQ (u v : Nat) : Nat := if (greatB u || greatB v) = true then 0 else if v = 0 then 0 else u / v

def divM (u v : Nat) : Nat := if (greatB u || greatB v) = true then 0 else if v = 0 then 0 else u % v

theorem div_yes {u v : Nat} (h : (greatB u || greatB v) = true) : divE u v = 3 ∧ divQ u v = 0 ∧ divM u v = 0 := by simp [divE, divQ, divM, h]

theorem div_zero {u v : Nat} (h : (greatB u || greatB v) = false) (hv : v = 0) : divE u v = 30 ∧ divQ u v = 0 ∧ divM u v = 0 := by
  rw [divE, divQ, divM, h, if_pos hv, if_pos hv, if_pos hv]; simp

theorem div_no {u v : Nat} (h : (greatB u || greatB v) = false) (hv : v ≠ 0) : divE u v = 0 ∧ divQ u v = u / v ∧ divM u v = u % v := by simp [divE, divQ, divM, h, hv]

set_option maxHeartbeats 1000000 in
theorem div_calls (a a' : Option Addr) (len cap len' cap' : Nat) (xs ys : List Int) (w : World) (h : IsW w a len cap xs) (h' : IsW w a' len' cap' ys) (hm : len ≤ 17592186044416) (hm' : len' ≤ 17592186044416) (hov : val ys ≠ 0 → OverC (val xs) (val ys)) :
    Calls Tryz.prog 136 #[.slice a len cap, .slice a' len' cap'] w fun e w' => ∃ v v', e = .returned (.tuple #[v, v', .int .i64 (divE (val xs) (val ys))]) ∧ NatAt w.heap.size w' v (divQ (val xs) (val ys)) ∧ NatAt w.heap.size w' v' (divM (val xs) (val ys)) ∧ Below w.heap.size w w' := by
  have HT := trimN_pack a len cap xs w h hm
  have HT' := trimN_pack a' len' cap' ys w h' hm'
  have HOV : Hid (val ys ≠ 0 → OverC (val xs) (val ys)) := hov
  clear hov
  go_enter Tryz.func136, Tryz.ntmps136
  go_wp2_with fail
  refine Calls.mono HT ?_
  rintro e w ⟨a1, n, rfl, hn, hI, rfl⟩
  have HN : Hid (n = (wordsOf (val xs)).length) := hn
  clear hn HT h hm
  go_wp2_with fail
  refine Calls.mono HT' ?_
  rintro e w ⟨a2, n', rfl, hn', hI', rfl⟩
  have HN' : Hid (n' = (wordsOf (val ys)).length) := hn'
  clear hn' HT' h' hm'
  go_wp2_with fail
  refine Calls.mono (great2_calls _ a1 a2 n n n' n' _ (by go_simp) (by go_simp)) ?_
  rintro e w1 ⟨rfl, rfl⟩
  cases hd : (decide (1024 < n) || decide (1024 < n')) with
  | true =>
    have e0 : Hid _ := div_yes (u := val xs) (v := val ys) (by rw [greatB, greatB, ← HN.out, ← HN'.out]; exact hd)
    clear hd
    go_wp2_with fail
    go_ret3
    rw [e0.out.1, e0.out.2.1, e0.out.2.2]
    exact ⟨_, _, rfl, natAt_nil _ _, natAt_nil _ _, below_one _ _⟩
  | false =>
    have e0 : Hid ((greatB (val xs) || greatB (val ys)) = false) := by
      rw [Hid, greatB, greatB, ← HN.out, ← HN'.out]; exact hd
    have hle : n ≤ 1024 ∧ n' ≤ 1024 := by simpa using hd
    clear hd
    by_cases hv : val ys = 0
    · have e1 : Hid _ := div_zero e0.out hv
      have hn0 : n' = 0 := by rw [HN'.out, hv, words_zero]; rfl
      subst hn0
      clear hv
      go_wp2_with fail
      go_ret3
      rw [e1.out.1, e1.out.2.1, e1.out.2.2]
      exact ⟨_, _, rfl, natAt_nil _ _, natAt_nil _ _, below_one _ _⟩
    · have e1 : Hid _ := div_no e0.out hv
      have hn0 : ((n' : Int) == 0) = false := by
        have : n' ≠ 0 := fun e => hv ((words_nil _).1 (List.length_eq_zero_iff.1 (by rw [← HN'.out]; exact e)))
        simp; omega
      have hfit := e0.out
      rw [Bool.or_eq_false_iff] at hfit
      have HF : Hid (greatB (val xs / val ys) = false ∧ greatB (val xs % val ys) = false) := ⟨great_mono (Nat.div_le_self _ _) hfit.1, great_mono (Nat.mod_le _ _) hfit.1⟩
      have HO := HOV.out hv a1 a2 n n' _ (hI.keep (below_one w (.cells #[.slice a1 n n, .slice a2 n' n'] 110))) (hI'.keep (below_one w (.cells #[.slice a1 n n, .slice a2 n' n'] 110))) hle.1 hle.2
      have HO2 : Hid _ := HO
      clear hv hfit HO HOV
      go_wp2_with fail
      refine Calls.mono HO2.out ?_
      rintro e w2 ⟨b1, b2, k1, c1, k2, c2, M1, M2, rfl, hO1, hv1, hk1, hOb, hv2, hk2, hb2⟩
      have HV1 : Hid (val M1 = val xs / val ys) := hv1
      have HV2 : Hid (val M2 = val xs % val ys) := hv2
      clear hv1 hv2 HO2
      go_wp2_with fail
      refine Calls.mono (answers_calls _ b1 b2 k1 c1 k2 c2 M1 M2 w2 hO1 hOb (by omega) (by omega) (by rw [HV1.out]; exact HF.out.1) (by rw [HV2.out]; exact HF.out.2)) ?_
      rintro e w3 ⟨v, v', rfl, hA, hA', hb3⟩
      rw [HV1.out] at hA
      rw [HV2.out] at hA'
      go_wp2_with fail
      go_ret3
      rw [e1.out.1, e1.out.2.1, e1.out.2.2]
      exact ⟨v, v', rfl, hA.low (by simp), hA'.low (by simp), nbelow_trans (nbelow_trans (below_one _ _) hb2) hb3⟩

end Go.Proofs.YtkkldnnndlpblaaGreatDoor

namespace Go.Proofs.YtkkldnnndlpblaaGreatDoor
open Go.RowKit

set_option maxHeartbeats 1000000 in
theorem lenU_calls (x : Nat) (w : World) (h : x < 18446744073709551616) :
    Calls Tryz.prog 120 #[.int .u64 (x : Int)] w fun e w' => e = .returned (.int .i64 (blen x)) ∧ w' = w := by
  have hb : Hid (Lib.bitLen x = blen x) := blen_lib x h
  go_enter Tryz.func120, Tryz.ntmps120
  go_wp2_with fail
  refine Calls.mono (Tryz.bits_Len64 _ _ (by omega) (by omega)) ?_
  rintro e w ⟨rfl, rfl⟩
  rw [Int.toNat_natCast, hb.out]
  go_wp2_with fail
  go_ret
  exact ⟨rfl, rfl⟩

theorem bit_i64 (x : Nat) (h : x < 9223372036854775808) : bits BinOp.and IntKind.i64 (x : Int) 1 = ((x % 2 : Nat) : Int) := by
  have h1 : (BitVec.ofInt 64 (x : Int)).toNat = x := by
    rw [BitVec.ofInt_natCast, BitVec.toNat_ofNat]; exact Nat.mod_eq_of_lt (by omega)
  have h2 : (BitVec.ofInt 64 (1 : Int)).toNat = 1 := by decide
  show IntKind.i64.wrap ((BitVec.ofInt 64 (x : Int) &&& BitVec.ofInt 64 (1 : Int)).toNat : Int) = _
  rw [BitVec.toNat_and, h1, h2, Nat.and_one_is_mod, IntKind.wrap_i64]
  omega

theorem pow_half (n d : Nat) : n / 2 ^ d = 2 * (n / 2 ^ (d + 1)) + n / 2 ^ d % 2 := by
  rw [Nat.pow_succ, ← Nat.div_div_eq_div_mul]; omega

theorem pow_step (v n d : Nat) : v ^ (n / 2 ^ d) = v ^ (n / 2 ^ (d + 1)) * v ^ (n / 2 ^ (d + 1)) * v ^ (n / 2 ^ d % 2) := by
  conv => lhs; rw [pow_half n d, Nat.pow_add, Nat.two_mul, Nat.pow_add]

theorem one_lt_big (k : Nat) (h : 0 < k) : 1 < 18446744073709551616 ^ k := Nat.one_lt_pow (by omega) (by decide)

theorem pow_le_len (v n j K : Nat) (hK : 0 < K) (hj : j ≤ n) (hf : (wordsOf (v ^ n)).length ≤ K) : (wordsOf (v ^ j)).length ≤ K := by
  rw [words_len] at *
  rcases Nat.eq_zero_or_pos v with h | h
  · subst h
    have : (0 : Nat) ^ j ≤ 1 := by cases j <;> simp
    exact Nat.lt_of_le_of_lt this (one_lt_big _ hK)
  · exact Nat.lt_of_le_of_lt (Nat.pow_le_pow_right h hj) hf

set_option maxRecDepth 100000 in
set_option maxHeartbeats 1000000 in
theorem power_calls (a : Option Addr) (k v n : Nat) (w : World) (h : IsW w a k k (wordsOf v)) (hk : k ≤ 4000) (hn : n ≤ 9223372036854775807) (hf : (wordsOf (v ^ n)).length ≤ 4000) :
    Calls Tryz.prog 81 #[.slice a k k, .int .i64 (n : Int)] w fun e w' => ∃ (ao : Option Addr) (m : Nat), e = .returned (.slice ao m m) ∧ m = (wordsOf (v ^ n)).length ∧ OwnW w.heap.size w' ao m m (wordsOf (v ^ n)) ∧ Below w.heap.size w w' := by
  obtain ⟨L, hL⟩ : ∃ L, L = blen n := ⟨_, rfl⟩
  have LC : Hid (∀ W : World, Calls Tryz.prog 120 #[.int .u64 (n : Int)] W fun e w' => e = .returned (.int .i64 (L : Int)) ∧ w' = W) := fun W => by
    rw [hL]; exact lenU_calls n W (by omega)
  have HN : Hid (n < 2 ^ L) := by rw [hL]; exact lt_blen n
  have hL64 : L ≤ 63 := by rw [hL, blen_le]; have : (2 : Nat) ^ 63 = 9223372036854775808 := rfl; omega
  have HF : Hid ((wordsOf (v ^ n)).length ≤ 4000) := hf
  clear hL hf
  go_enter Tryz.func81, Tryz.ntmps81
  go_wp2_with fail
  refine Calls.mono (word_calls 1 w (by omega) (by omega)) ?_
  rintro e w1 ⟨a1, n1, rfl, hn1, hO1, hb1⟩
  have HN1 : Hid (n1 = (wordsOf 1).length) := hn1
  clear hn1
  go_wp2_with fail
  refine Calls.mono (LC.out _) ?_
  rintro e w1 ⟨rfl, rfl⟩
  go_wp2_with fail
  go_loopw [5, 11] (fun vm vi wr => ∃ (i m : Nat) (ao : Option Addr), i ≤ L ∧ vi = .int .i64 (i : Int) ∧ vm = .slice ao m m ∧ Hid (m = (wordsOf (v ^ (n / 2 ^ (L - i)))).length) ∧ OwnW w.heap.size wr ao m m (wordsOf (v ^ (n / 2 ^ (L - i)))) ∧ Below w.heap.size w wr) (fun _ vi _ => L - (intOf vi).toNat)
  case atStart =>
    have e0 : n / 2 ^ (L - 0) = 0 := Nat.div_eq_of_lt HN.out
    exact ⟨0, n1, a1, by omega, rfl, rfl, by rw [e0, Nat.pow_zero]; exact HN1, by rw [e0, Nat.pow_zero]; exact hO1, hb1⟩
  case round =>
    clear hO1 hb1
    obtain ⟨i, m, ao, hi, rfl, rfl, HM, hO, hbr⟩ := hrel
    by_cases hlt : i < L
    · have hm : m ≤ 4000 := by rw [HM.out]; exact pow_le_len v n _ _ (by decide) (Nat.div_le_self _ _) HF.out
      go_wp2_with fail
      refine Calls.mono (times_calls ao ao m m _ _ wr hO.1 hO.1 (by omega) (by omega)) ?_
      rintro e w2 ⟨a2, k2, M, rfl, hO2, hv2, hk2, hb2⟩
      rw [val_words] at hv2
      have HV2 : Hid (val M = v ^ (n / 2 ^ (L - i)) * v ^ (n / 2 ^ (L - i))) := hv2
      have hb3 := nbelow_trans hbr hb2
      have hwr : w.heap.size ≤ wr.heap.size := hbr.size
      clear hv2 hO HM hbr
      go_wp2_with fail
      refine Calls.mono (trimW_pack _ a2 k2 k2 M w2 hO2 (by omega)) ?_
      rintro e w2 ⟨a3, k3, rfl, hk3, hO3, rfl⟩
      rw [HV2.out] at hk3 hO3
      have HK3 : Hid (k3 = (wordsOf (v ^ (n / 2 ^ (L - i)) * v ^ (n / 2 ^ (L - i)))).length) := hk3
      clear hk3 hO2
      go_wp2_with fail
      refine Calls.mono (LC.out _) ?_
      rintro e w2 ⟨rfl, rfl⟩
      have hqe : (n : Int) / 2 ^ (L - 1 - i) = ((n / 2 ^ (L - 1 - i) : Nat) : Int) := by rw [Int.natCast_ediv, Int.natCast_pow]; rfl
      have hqb : bits BinOp.and IntKind.i64 ((n / 2 ^ (L - 1 - i) : Nat) : Int) 1 = ((n / 2 ^ (L - 1 - i) % 2 : Nat) : Int) := bit_i64 _ (by have := Nat.div_le_self n (2 ^ (L - 1 - i)); omega)
      have HPS : Hid (v ^ (n / 2 ^ (L - (i + 1))) = v ^ (n / 2 ^ (L - i)) * v ^ (n / 2 ^ (L - i)) * v ^ (n / 2 ^ (L - 1 - i) % 2)) := by
        have := pow_step v n (L - 1 - i)
        rw [show L - 1 - i + 1 = L - i by omega] at this
        rw [show L - (i + 1) = L - 1 - i by omega]; exact this
      have hsq : k3 ≤ 4000 := by
        rw [HK3.out, ← Nat.pow_add]
        refine pow_le_len v n _ _ (by decide) ?_ HF.out
        have h1 := pow_half n (L - 1 - i)
        rw [show L - 1 - i + 1 = L - i by omega] at h1
        have h2 := Nat.div_le_self n (2 ^ (L - 1 - i))
        omega
      obtain ⟨bt, hbt⟩ : ∃ bt, bt = n / 2 ^ (L - 1 - i) % 2 := ⟨_, rfl⟩
      rw [← hbt] at hqb HPS
      have hbt2 : bt = 0 ∨ bt = 1 := by omega
      have HLM : Hid (L - (i + 1) = L - 1 - i) := by rw [Hid]; omega
      clear hbt
      generalize hX : n / 2 ^ (L - 1 - i) = X at *
      clear hX
      rcases hbt2 with rfl | rfl
      · rw [Nat.pow_zero, Nat.mul_one] at HPS
        go_wp2_with fail
        refine ⟨⟨i + 1, k3, a3, by omega, by go_num, rfl, by rw [HPS.out]; exact HK3, by rw [HPS.out]; exact hO3.low hwr, hb3⟩, by simp [intOf]; omega⟩
      · rw [Nat.pow_one] at HPS
        go_wp2_with fail
        refine Calls.mono (times_calls a3 a k3 k _ _ w2 hO3.1 (h.keep hb3) (by omega) (by omega)) ?_
        rintro e w4 ⟨a4, k4, M4, rfl, hO4, hv4, hk4, hb4⟩
        rw [val_words, val_words] at hv4
        have HV4 : Hid (val M4 = v ^ (n / 2 ^ (L - (i + 1)))) := by rw [Hid, HPS.out]; exact hv4
        have hb5 := nbelow_trans hb3 hb4
        clear hv4 hO3 hb4
        go_wp2_with fail
        refine Calls.mono (trimW_pack _ a4 k4 k4 M4 w4 hO4 (by omega)) ?_
        rintro e w4 ⟨a5, k5, rfl, hk5, hO5, rfl⟩
        rw [HV4.out] at hk5 hO5
        have HK5 : Hid (k5 = (wordsOf (v ^ (n / 2 ^ (L - (i + 1))))).length) := hk5
        have hlow : w.heap.size ≤ w2.heap.size := hb3.size
        clear hk5 hO4
        go_wp2_with fail
        refine ⟨⟨i + 1, k5, a5, by omega, by go_num, rfl, HK5, hO5.low hlow, hb5⟩, by simp [intOf]; omega⟩
    · have e0 : n / 2 ^ (L - i) = n := by rw [show L - i = 0 by omega, Nat.pow_zero, Nat.div_one]
      rw [e0] at HM hO
      clear e0
      go_wp2_with fail
      go_ret
      exact ⟨ao, m, rfl, HM.out, hO, hbr⟩

end Go.Proofs.YtkkldnnndlpblaaGreatDoor

namespace Go.Proofs.YtkkldnnndlpblaaGreatDoor
open Go.RowKit

theorem shl_set (xs M : List Int) (k sk sh m x c y z : Nat) (hm : m = 64 * sk + sh) (hsh : sh < 64) (hl : sk + k + 1 < M.length) (hc : M.getD (sk + k) 0 = (c : Int)) (hz0 : M.getD (sk + k + 1) 0 = 0) (hx : xs.getD k 0 = (x : Int))
    (hv : val M = low xs k * 2 ^ m) (hy : y = c + x * 2 ^ sh % 18446744073709551616) (hz : z = x / 2 ^ (64 - sh)) :
    val ((M.set (sk + k) (y : Int)).set (sk + k + 1) (z : Int)) = low xs (k + 1) * 2 ^ m := by
  have e1 := val_set M (sk + k) (y : Int) (by omega)
  have e2 := val_set (M.set (sk + k) (y : Int)) (sk + k + 1) (z : Int) (by rw [List.length_set]; omega)
  rw [getD_set M _ _ _ (by omega), if_neg (by omega), hz0] at e2
  rw [hc, Int.toNat_natCast, Int.toNat_natCast] at e1
  rw [Int.toNat_natCast, Int.toNat_zero, Nat.mul_zero, Nat.add_zero, Nat.pow_succ] at e2
  have e3 : low xs (k + 1) = low xs k + 18446744073709551616 ^ k * x := by show low xs k + _ * (xs.getD k 0).toNat = _; rw [hx, Int.toNat_natCast]
  have e4 := shl_word x sh hsh
  rw [← hz] at e4
  have e5 : 18446744073709551616 ^ k * x * 2 ^ m = 18446744073709551616 ^ (sk + k) * (x * 2 ^ sh) := by
    rw [hm, two64, two64, Nat.pow_add 2 (64 * sk) sh, show 64 * (sk + k) = 64 * sk + 64 * k by omega, Nat.pow_add]
    simp only [Nat.mul_assoc, Nat.mul_left_comm, Nat.mul_comm]
  rw [e3, Nat.add_mul, ← hv, e5, ← e4, e2]
  have e7 : 18446744073709551616 ^ (sk + k) * y = 18446744073709551616 ^ (sk + k) * c + 18446744073709551616 ^ (sk + k) * (x * 2 ^ sh % 18446744073709551616) := by rw [hy, Nat.mul_add]
  rw [e7] at e1
  have e6 : 18446744073709551616 ^ (sk + k) * (x * 2 ^ sh % 18446744073709551616 + 18446744073709551616 * z) = 18446744073709551616 ^ (sk + k) * (x * 2 ^ sh % 18446744073709551616) + 18446744073709551616 ^ (sk + k) * 18446744073709551616 * z := by rw [Nat.mul_add, Nat.mul_assoc]
  rw [e6]
  clear e7 e6
  generalize 18446744073709551616 ^ (sk + k) * 18446744073709551616 * z = P at *
  generalize 18446744073709551616 ^ (sk + k) * (x * 2 ^ sh % 18446744073709551616) = Q at *
  generalize 18446744073709551616 ^ (sk + k) * c = R at *
  omega

theorem or_words (c x s : Nat) (hs : s < 64) (hc : c < 2 ^ s) (hc2 : c < 18446744073709551616) : bits BinOp.or IntKind.u64 (c : Int) (IntKind.u64.wrap ((x : Int) * 2 ^ s)) = ((c + x * 2 ^ s % 18446744073709551616 : Nat) : Int) := by
  rw [mul_pow_cast, wrap_nat, u64_or_nat _ _ hc2 (Nat.mod_lt _ (by decide)), (shl_room c x s hs hc).1]

theorem pow_le_word (s : Nat) (h : s < 64) : 2 ^ s ≤ 9223372036854775808 := by
  have := Nat.pow_le_pow_right (show 0 < 2 by decide) (show s ≤ 63 by omega)
  exact this

theorem word_nat2 (xs : List Int) (h : AllU xs) (k : Nat) : ∃ x : Nat, xs.getD k 0 = (x : Int) ∧ x < 18446744073709551616 := by
  have := h.get k
  exact ⟨(xs.getD k 0).toNat, by omega, by omega⟩

set_option maxRecDepth 100000 in
set_option maxHeartbeats 4000000 in
theorem left_calls (a : Option Addr) (n m : Nat) (xs : List Int) (w : World) (h : IsW w a n n xs) (hn : n ≤ 1024) (hm : m ≤ 65600) :
    Calls Tryz.prog 150 #[.slice a n n, .int .i64 (m : Int)] w fun e w' => ∃ (ao : Option Addr) (k : Nat) (M : List Int), e = .returned (.slice ao k k) ∧ OwnW w.heap.size w' ao k k M ∧ val M = val xs * 2 ^ m ∧ k = m / 64 + n + 1 ∧ Below w.heap.size w w' := by
  obtain ⟨sk, hsk⟩ : ∃ sk, sk = m / 64 := ⟨_, rfl⟩
  obtain ⟨w1, hmk, hO1, hb1, hz1⟩ := make_words 110 words_T w (sk + n + 1) (by omega)
  have q1 : (m : Int) / 64 = (sk : Int) := by omega
  have hskb : sk ≤ 1025 := by omega
  have hshb : m % 64 < 64 := by omega
  have HM : Hid (m = 64 * sk + m % 64) := by rw [Hid]; omega
  have HSK : Hid (sk = m / 64) := hsk
  have HL : Hid (xs.length = n) := h.1.symm
  rw [show ((sk + n + 1 : Nat) : Int) = (sk : Int) + n + 1 by omega] at hmk
  clear hsk
  go_enter Tryz.func150, Tryz.ntmps150
  go_wp2_with fail
  clear hmk q1
  go_loopw [22] (fun i wr => ∃ (k : Nat) (M : List Int), k ≤ n ∧ i = .int .i64 k ∧ Hid (∀ j, sk + k < j → M.getD j 0 = 0) ∧ Hid ((M.getD (sk + k) 0).toNat < 2 ^ (m % 64)) ∧ Hid (val M = low xs k * 2 ^ m) ∧ OwnW w.heap.size wr (some ⟨w.heap.size, 0, none⟩) (sk + n + 1) (sk + n + 1) M ∧ Below w.heap.size w wr) (fun i _ => n - (intOf i).toNat)
  case atStart => exact ⟨0, zeros (sk + n + 1), by omega, rfl, fun j _ => zeros_get _ j, by rw [Hid, zeros_get]; exact Nat.pow_pos (by decide), by rw [Hid, val_zeros]; simp [low], hO1, hb1⟩
  case round =>
    clear hO1 hb1
    obtain ⟨k, M, hk, rfl, HZ, HC, HV, hO, hbr⟩ := hrel
    by_cases hlt : k < n
    · have HML : Hid (sk + n + 1 = M.length) := hO.1.1
      obtain ⟨b, off, ha, hbl, hcx⟩ := h.2.2.2 k hlt
      obtain ⟨x, hx, hx1⟩ := word_nat2 xs h.2.1 k
      have hcx2 : wr.cell? ⟨b, off + k, none⟩ = some (.int .u64 (x : Int)) := by rw [← hx]; exact (hbr.cell (p := ⟨b, off + k, none⟩) hbl).trans hcx
      have HX : Hid (xs.getD k 0 = (x : Int)) := hx
      have hne : b ≠ w.heap.size := Nat.ne_of_lt hbl
      subst ha
      obtain ⟨c, hc, hc1⟩ := word_nat2 M hO.1.2.1 (sk + k)
      have HCC : Hid (M.getD (sk + k) 0 = (c : Int)) := hc
      have hc2 : c < 2 ^ (m % 64) := by have := HC.out; rw [hc, Int.toNat_natCast] at this; exact this
      obtain ⟨_, _, e1, _, hcell⟩ := hO.1.2.2.2 (sk + k) (by omega)
      simp only [Option.some.injEq, Addr.mk.injEq, and_true] at e1
      obtain ⟨rfl, rfl⟩ := e1
      have hfz := (hO.2 _ _ (sk + k) rfl (by omega)).2
      rw [Nat.zero_add] at hcell hfz
      rw [hc] at hcell
      obtain ⟨_, _, e1, _, hcell2⟩ := hO.1.2.2.2 (sk + k + 1) (by omega)
      simp only [Option.some.injEq, Addr.mk.injEq, and_true] at e1
      obtain ⟨rfl, rfl⟩ := e1
      have hfz2 := (hO.2 _ _ (sk + k + 1) rfl (by omega)).2
      rw [Nat.zero_add, HZ.out (sk + k + 1) (by omega)] at hcell2
      rw [Nat.zero_add] at hfz2
      obtain ⟨y, hy⟩ : ∃ y : Nat, y = c + x * 2 ^ (m % 64) % 18446744073709551616 := ⟨_, rfl⟩
      have hyb : y < 18446744073709551616 := by rw [hy]; exact (shl_room c x (m % 64) hshb hc2).2
      have q3 : bits BinOp.or IntKind.u64 (c : Int) (IntKind.u64.wrap ((x : Int) * 2 ^ (m % 64))) = (y : Int) := by rw [or_words c x (m % 64) hshb hc2 hc1, hy]
      obtain ⟨z, hz⟩ : ∃ z : Nat, z = x / 2 ^ (64 - m % 64) := ⟨_, rfl⟩
      have q4 : (x : Int) / 2 ^ (64 - m % 64) = (z : Int) := by rw [div_pow_cast, hz]
      have HZB : Hid (z < 2 ^ (m % 64)) := by
        rw [Hid, hz, Nat.div_lt_iff_lt_mul (Nat.pow_pos (by decide)), ← Nat.pow_add, show m % 64 + (64 - m % 64) = 64 by omega]; exact hx1
      have hzb : z < 18446744073709551616 := by have := HZB.out; have := pow_le_word (m % 64) hshb; omega
      have q5 : ((sk : Int) + (k : Int)).toNat = sk + k := by omega
      have q6 : ((sk : Int) + (k : Int) + 1).toNat = sk + k + 1 := by omega
      have HY : Hid (y = c + x * 2 ^ (m % 64) % 18446744073709551616) := hy
      have HZZ : Hid (z = x / 2 ^ (64 - m % 64)) := hz
      clear hx hc hy hz hcx hc2
      go_wp2_with fail
      go_region
      have hO2 := (hO.set (i := sk + k) (by omega) (v := (y : Int)) (by omega) (by omega)).keep ((Below.refl _ _).drew)
      have hbr2 : Below w.heap.size w (wr.setCell ⟨w.heap.size, 0 + (sk + k), none⟩ (.int .u64 (y : Int))).drew := (hbr.setCell (Nat.le_refl _) _).drew
      rw [Nat.zero_add] at hO2 hbr2
      have hcell3 : (wr.setCell ⟨w.heap.size, sk + k, none⟩ (.int .u64 (y : Int))).drew.cell? ⟨w.heap.size, sk + k + 1, none⟩ = some (.int .u64 0) := (World.cell?_setCell_other wr _ _ _ (fun e => by have := congrArg Addr.off e; simp at this)).trans hcell2
      have hfz3 : (wr.setCell ⟨w.heap.size, sk + k, none⟩ (.int .u64 (y : Int))).drew.frozen? ⟨w.heap.size, sk + k + 1, none⟩ = false := (World.frozen?_setCell wr _ _ _).trans hfz2
      generalize (wr.setCell ⟨w.heap.size, sk + k, none⟩ (.int .u64 (y : Int))).drew = w2 at hO2 hbr2 hcell3 hfz3 ⊢
      clear hcell hcell2 hfz hfz2 hO hbr hcx2
      go_wp2_with fail
      have hO3 := hO2.set (i := sk + k + 1) (by omega) (v := (z : Int)) (by omega) (by omega)
      rw [Nat.zero_add] at hO3
      refine ⟨⟨k + 1, _, by omega, by go_num, ?_, ?_, ?_, hO3, hbr2.setCell (Nat.le_refl _) _⟩, by simp [intOf]; omega⟩
      · intro j hj
        have := HML.out
        rw [getD_set _ _ _ _ (by rw [List.length_set]; omega), if_neg (by omega), getD_set _ _ _ _ (by omega), if_neg (by omega)]
        exact HZ.out j (by omega)
      · have := HML.out
        rw [Hid, show sk + (k + 1) = sk + k + 1 by omega, getD_set _ _ _ _ (by rw [List.length_set]; omega), if_pos rfl, Int.toNat_natCast]
        exact HZB.out
      · have := HML.out
        exact shl_set xs M k sk (m % 64) m x c y z HM.out hshb (by omega) HCC.out (HZ.out _ (by omega)) HX.out HV.out HY.out HZZ.out
    · have HE : Hid (low xs k = val xs) := low_all xs k (by have := HL.out; omega)
      go_wp2_with fail
      go_ret
      exact ⟨_, _, M, rfl, hO, by rw [HV.out, HE.out], by rw [← HSK.out], hbr⟩

end Go.Proofs.YtkkldnnndlpblaaGreatDoor

namespace Go.Proofs.YtkkldnnndlpblaaGreatDoor
open Go.RowKit

theorem or_words2 (x y s : Nat) (hs : s < 64) (hx : x < 18446744073709551616) : bits BinOp.or IntKind.u64 ((x : Int) / 2 ^ s) (IntKind.u64.wrap ((y : Int) * 2 ^ (64 - s))) = ((x / 2 ^ s + y * 2 ^ (64 - s) % 18446744073709551616 : Nat) : Int) := by
  have hd : x / 2 ^ s ≤ x := Nat.div_le_self _ _
  rw [mul_pow_cast, div_pow_cast, wrap_nat, u64_or_nat _ _ (by omega) (Nat.mod_lt _ (by decide)), shr_room x y s hs hx]

theorem shr_at (xs : List Int) (hU : AllU xs) (k sk s m x y : Nat) (hm : m = 64 * sk + s) (hs : s < 64) (hx : xs.getD (sk + k) 0 = (x : Int)) (hy : xs.getD (sk + k + 1) 0 = (y : Int)) :
    val xs / 2 ^ m / 18446744073709551616 ^ k % 18446744073709551616 = x / 2 ^ s + y * 2 ^ (64 - s) % 18446744073709551616 := by
  have e1 := val_word xs hU (sk + k)
  have e2 := val_word xs hU (sk + k + 1)
  rw [hx, Int.toNat_natCast] at e1
  rw [hy, Int.toNat_natCast] at e2
  have e3 := word_shr (val xs) (sk + k) s hs
  rw [e1, e2] at e3
  rw [← e3, Nat.div_div_eq_div_mul]
  congr 2
  rw [hm, two64, two64, ← Nat.pow_add, ← Nat.pow_add]; congr 1; omega

theorem shr_word_lt (x y s : Nat) (hs : s < 64) (hx : x < 18446744073709551616) : x / 2 ^ s + y * 2 ^ (64 - s) % 18446744073709551616 < 18446744073709551616 := by
  by_cases h0 : s = 0
  · subst h0
    rw [show 64 - 0 = 64 from rfl, show (2 : Nat) ^ 64 = 18446744073709551616 from rfl, Nat.mul_mod_left]; simp; exact hx
  · have h1 : x / 2 ^ s < 2 ^ (64 - s) := by
      rw [Nat.div_lt_iff_lt_mul (Nat.pow_pos (by decide)), ← Nat.pow_add, show 64 - s + s = 64 by omega]; exact hx
    exact (shl_room _ y (64 - s) (by omega) h1).2

set_option maxRecDepth 100000 in
set_option maxHeartbeats 4000000 in
theorem right_calls (a : Option Addr) (n m : Nat) (xs : List Int) (w : World) (h : IsW w a n n xs) (hn : n ≤ 1024) (hm : m ≤ 9223372036854775807) :
    Calls Tryz.prog 151 #[.slice a n n, .int .i64 (m : Int)] w fun e w' => ∃ (ao : Option Addr) (k : Nat) (M : List Int), e = .returned (.slice ao k k) ∧ OwnW w.heap.size w' ao k k M ∧ val M = val xs / 2 ^ m ∧ k ≤ n ∧ Below w.heap.size w w' := by
  obtain ⟨sk, hsk⟩ : ∃ sk, sk = m / 64 := ⟨_, rfl⟩
  have q1 : (m : Int) / 64 = (sk : Int) := by omega
  have HSK : Hid (sk = m / 64) := hsk
  have HL : Hid (xs.length = n) := h.1.symm
  by_cases hc : n ≤ sk
  · have HZ : Hid (val xs / 2 ^ m = 0) := shr_zero (val xs) m n (by rw [← HL.out]; exact val_lt xs h.2.1) (by omega)
    clear hsk
    go_enter Tryz.func151, Tryz.ntmps151
    go_wp2_with fail
    go_ret
    exact ⟨none, 0, [], rfl, ownW_nil _ _, by rw [HZ.out]; rfl, by omega, Below.refl _ _⟩
  · obtain ⟨K, hK⟩ : ∃ K, K = n - sk := ⟨_, rfl⟩
    obtain ⟨w1, hmk, hO1, hb1, hz1⟩ := make_words 110 words_T w K (by omega)
    have hskb : sk < 1024 := by omega
    have q2 : (n : Int) - (sk : Int) = (K : Int) := by omega
    have hshb : m % 64 < 64 := by omega
    have HM : Hid (m = 64 * sk + m % 64) := by rw [Hid]; omega
    have HFIT : Hid (val xs / 2 ^ m < 18446744073709551616 ^ K) := by
      have := shr_fits (val xs) m n (by rw [← HL.out]; exact val_lt xs h.2.1) (by omega)
      rw [← hsk, ← hK] at this; exact this
    have hKn : sk + K = n := by omega
    have HKN : Hid (sk + K = n) := hKn
    have hKb : K ≤ 1024 := by omega
    clear hsk hK hKn
    go_enter Tryz.func151, Tryz.ntmps151
    go_wp2_with fail
    clear hmk q1 q2
    go_loopw [24] (fun i wr => ∃ (k : Nat) (M : List Int), k ≤ K ∧ i = .int .i64 k ∧ Hid (∀ j, j < k → (M.getD j 0).toNat = val xs / 2 ^ m / 18446744073709551616 ^ j % 18446744073709551616) ∧ OwnW w.heap.size wr (some ⟨w.heap.size, 0, none⟩) K K M ∧ Below w.heap.size w wr) (fun i _ => K - (intOf i).toNat)
    case atStart => exact ⟨0, zeros K, by omega, rfl, fun j hj => by omega, hO1, hb1⟩
    case round =>
      clear hO1 hb1
      obtain ⟨k, M, hk, rfl, HV, hO, hbr⟩ := hrel
      have HML : Hid (K = M.length) := hO.1.1
      by_cases hlt : k < K
      · have hin : sk + k < n := by have := HKN.out; omega
        obtain ⟨b, off, ha, hbl, hcx⟩ := h.2.2.2 (sk + k) hin
        obtain ⟨x, hx, hx1⟩ := word_nat2 xs h.2.1 (sk + k)
        have hcx2 : wr.cell? ⟨b, off + (sk + k), none⟩ = some (.int .u64 (x : Int)) := by rw [← hx]; exact (hbr.cell (p := ⟨b, off + (sk + k), none⟩) hbl).trans hcx
        obtain ⟨y, hy, hy1⟩ := word_nat2 xs h.2.1 (sk + k + 1)
        have AT := at_calls a n n xs (sk + k + 1) wr.drew (h.keep hbr.drew)
        rw [hy, show ((sk + k + 1 : Nat) : Int) = (sk : Int) + k + 1 by omega] at AT
        have HSA : Hid _ := shr_at xs h.2.1 k sk (m % 64) m x y HM.out hshb hx hy
        subst ha
        obtain ⟨_, _, e1, _, hcell⟩ := hO.1.2.2.2 k hlt
        simp only [Option.some.injEq, Addr.mk.injEq, and_true] at e1
        obtain ⟨rfl, rfl⟩ := e1
        have hfz := (hO.2 _ _ k rfl hlt).2
        rw [Nat.zero_add] at hcell hfz
        obtain ⟨z, hz⟩ : ∃ z : Nat, z = x / 2 ^ (m % 64) + y * 2 ^ (64 - m % 64) % 18446744073709551616 := ⟨_, rfl⟩
        have hzb : z < 18446744073709551616 := by rw [hz]; exact shr_word_lt x y (m % 64) hshb hx1
        have q3 : bits BinOp.or IntKind.u64 ((x : Int) / 2 ^ (m % 64)) (IntKind.u64.wrap ((y : Int) * 2 ^ (64 - m % 64))) = (z : Int) := by rw [or_words2 x y (m % 64) hshb hx1, hz]
        have HZ : Hid (z = x / 2 ^ (m % 64) + y * 2 ^ (64 - m % 64) % 18446744073709551616) := hz
        have q5 : ((sk : Int) + (k : Int)).toNat = sk + k := by omega
        have hne : b ≠ w.heap.size := Nat.ne_of_lt hbl
        have i1 : (sk : Int) + (k : Int) < (n : Int) := by omega
        have i2 : 0 ≤ (sk : Int) + (k : Int) := by omega
        have i3 : IntKind.i64.wrap ((sk : Int) + (k : Int)) = (sk : Int) + (k : Int) := by rw [IntKind.wrap_i64]; omega
        have i4 : IntKind.i64.wrap ((sk : Int) + (k : Int) + 1) = (sk : Int) + (k : Int) + 1 := by rw [IntKind.wrap_i64]; omega
        have i5 : IntKind.i64.wrap (64 - (m : Int) % 64) = 64 - (m : Int) % 64 := by rw [IntKind.wrap_i64]; omega
        have i6 : (64 - (m : Int) % 64).toNat = 64 - m % 64 := by omega
        have i7 : 0 ≤ 64 - (m : Int) % 64 := by omega
        have i8 : ((m : Int) % 64).toNat = m % 64 := by omega
        have i9 : 0 ≤ (m : Int) % 64 := by omega
        clear hx hy hz hcx
        go_wp2_with fail
        go_region_with ((go_at_call 128; refine AT.mono ?_; rintro e w2 ⟨rfl, rfl⟩))
        all_goals
          have hO2 := ((hO.keep ((Below.refl _ _).drew)).set (i := k) hlt (v := (z : Int)) (by omega) (by omega))
          have hbr2 : Below w.heap.size w (wr.drew.setCell ⟨w.heap.size, 0 + k, none⟩ (.int .u64 (z : Int))) := hbr.drew.setCell (Nat.le_refl _) _
          rw [Nat.zero_add] at hO2 hbr2
          go_wp2_with fail
          refine ⟨⟨k + 1, _, by omega, by go_num, ?_, hO2, hbr2⟩, by simp [intOf]; omega⟩
          intro j hj
          have := HML.out
          rw [getD_set _ _ _ _ (by omega)]
          by_cases e : k = j
          · subst e; rw [if_pos rfl, Int.toNat_natCast, HSA.out, HZ.out]
          · rw [if_neg e]; exact HV.out j (by omega)
      · have hkK : k = K := by omega
        have HE : Hid (val M = val xs / 2 ^ m) := val_of_words M _ (by rw [← HML.out]; exact HFIT.out) (fun i hi => HV.out i (by rw [← HML.out] at hi; omega))
        clear hkK
        go_wp2_with fail
        go_ret
        exact ⟨_, _, M, rfl, hO, HE.out, by have := HKN.out; omega, hbr⟩

end Go.Proofs.YtkkldnnndlpblaaGreatDoor

namespace Go.Proofs.YtkkldnnndlpblaaGreatDoor
open Go.RowKit

theorem low_mod (xs : List Int) (h : AllU xs) : ∀ k, low xs k = val xs % 18446744073709551616 ^ k
  | 0 => by rw [Nat.pow_zero, Nat.mod_one]; rfl
  | k + 1 => by
    show low xs k + 18446744073709551616 ^ k * (xs.getD k 0).toNat = _
    rw [low_mod xs h k, ← val_word xs h k, Nat.pow_succ, Nat.mod_mul]

theorem low_zero (xs : List Int) : ∀ k, (∀ j, j < k → xs.getD j 0 = 0) → low xs k = 0
  | 0, _ => rfl
  | k + 1, h => by
    show low xs k + 18446744073709551616 ^ k * (xs.getD k 0).toNat = 0
    rw [low_zero xs k (fun j hj => h j (by omega)), h k (by omega)]; simp

theorem low_pos (xs : List Int) (k j : Nat) (hj : j < k) (h : 0 < xs.getD j 0) : low xs k ≠ 0 := by
  induction k with
  | zero => omega
  | succ k ih =>
    show low xs k + 18446744073709551616 ^ k * (xs.getD k 0).toNat ≠ 0
    by_cases e : j = k
    · subst e
      have : 0 < 18446744073709551616 ^ j * (xs.getD j 0).toNat := Nat.mul_pos (Nat.pow_pos (by decide)) (by omega)
      omega
    · have := ih (by omega); omega

set_option maxRecDepth 100000 in
set_option maxHeartbeats 4000000 in
theorem any_calls (a : Option Addr) (n m : Nat) (xs : List Int) (w : World) (h : IsW w a n n xs) (hn : n ≤ 1024) (hm : m ≤ 9223372036854775807) :
    Calls Tryz.prog 152 #[.slice a n n, .int .i64 (m : Int)] w fun e w' => e = .returned (.bool (lostB (val xs) m)) ∧ w' = w := by
  obtain ⟨sk, hsk⟩ : ∃ sk, sk = m / 64 := ⟨_, rfl⟩
  have q1 : (m : Int) / 64 = (sk : Int) := by omega
  have HL : Hid (xs.length = n) := h.1.symm
  obtain ⟨K, hK⟩ : ∃ K, K = min sk n := ⟨_, rfl⟩
  have q2 : min (sk : Int) (n : Int) = (K : Int) := by omega
  have HKK : Hid (K = min sk n) := hK
  have hKn : K ≤ n := by omega
  obtain ⟨y, hy, hy1⟩ := word_nat2 xs h.2.1 sk
  have AT : Hid _ := at_calls a n n xs sk w h
  rw [hy] at AT
  obtain ⟨z, hz⟩ : ∃ z : Nat, z = y * 2 ^ (64 - m % 64) % 18446744073709551616 := ⟨_, rfl⟩
  have q3 : IntKind.u64.wrap ((y : Int) * 2 ^ (64 - m % 64)) = (z : Int) := by rw [mul_pow_cast, wrap_nat, hz]
  have HLO : Hid (lostB (val xs) m = decide (low xs sk ≠ 0 ∨ z ≠ 0)) := by
    have h1 := lost_split (val xs) m
    have h2 := val_word xs h.2.1 (m / 64)
    rw [← hsk, hy, Int.toNat_natCast] at h2
    rw [← hsk, ← low_mod xs h.2.1, h2, ← hz] at h1
    rw [Hid, lostB, decide_eq_decide]
    constructor
    · intro q
      by_cases e : low xs sk = 0
      · exact Or.inr (fun e2 => q (h1.2 ⟨e, e2⟩))
      · exact Or.inl e
    · intro q e
      have := h1.1 e
      rcases q with q | q
      · exact q this.1
      · exact q this.2
  have HW : Hid (IsW w a n n xs) := h
  have hg := fun i => h.2.1.get i
  have HG : Hid (∀ i, 0 ≤ xs.getD i 0 ∧ xs.getD i 0 ≤ 18446744073709551615) := hg
  have hcl : Hid (a = none → n = 0) := h.2.2.1.2
  clear hsk hK hy hz hg h
  have end_ok : ∀ k : Nat, k = K → (∀ j, j < k → xs.getD j 0 = 0) → low xs sk = 0 := fun k hk hz => by
    apply low_zero
    intro j hj
    by_cases e : j < k
    · exact hz j e
    · have h1 := HL.out; have h2 := HKK.out
      simp [List.getD, show ¬ j < xs.length by omega]
  have EO : Hid (∀ k : Nat, k = K → (∀ j, j < k → xs.getD j 0 = 0) → low xs sk = 0) := end_ok
  clear end_ok
  cases a with
  | none =>
    obtain rfl := hcl.out rfl
    obtain rfl : K = 0 := by omega
    have HE : Hid (low xs sk = 0) := EO.out 0 rfl (fun j hj => by omega)
    go_enter Tryz.func152, Tryz.ntmps152
    go_wp2_with fail
    refine wp_loop_rounds 1 ?_
    rw [rounds_succ]
    go_wp2_with fail
    refine Calls.mono AT.out ?_
    rintro e w ⟨rfl, rfl⟩
    go_wp2_with fail
    go_ret
    exact ⟨nret_bool (by rw [HLO.out, HE.out]; simp; rw [Bool.eq_iff_iff]; simp), rfl⟩
  | some ad =>
    obtain ⟨b, off, spot⟩ := ad
    go_enter Tryz.func152, Tryz.ntmps152
    go_wp2_with fail
    go_loop [20] (fun q => ∃ k : Nat, k ≤ K ∧ q = .int .i64 k ∧ Hid (∀ j, j < k → xs.getD j 0 = 0)) (fun q => K - (intOf q).toNat)
    case atStart => exact ⟨0, by omega, rfl, fun j hj => by omega⟩
    case round =>
      obtain ⟨k, hk, rfl, HZ⟩ := hrel
      by_cases hlt : k < K
      · obtain ⟨b', off', e1, _, hc⟩ := HW.out.2.2.2 k (by omega)
        simp only [Option.some.injEq, Addr.mk.injEq] at e1
        obtain ⟨rfl, rfl, rfl⟩ := e1
        have hgx := HG.out k
        obtain ⟨x, hx⟩ : ∃ x, x = xs.getD k 0 := ⟨_, rfl⟩
        rw [← hx] at hc hgx
        by_cases h0 : x = 0
        · have d0 : (x != 0) = false := by simp [h0]
          have HZ' : Hid (∀ j, j < k + 1 → xs.getD j 0 = 0) := fun j hj => by
            by_cases e : j = k
            · rw [e, ← hx, h0]
            · exact HZ.out j (by omega)
          clear hx h0
          go_wp2_with fail
          go_round
          case rel => exact ⟨k + 1, by omega, by go_num, HZ'⟩
          case measure => simp [intOf]; omega
        · have d0 : (x != 0) = true := by simp [h0]
          have HV : Hid (lostB (val xs) m = true) := by
            have h1 := HKK.out
            have := low_pos xs sk k (by omega) (by rw [← hx]; omega)
            rw [Hid, HLO.out]; simp [this]
          clear hx h0
          go_wp2_with fail
          go_ret
          exact ⟨nret_bool HV.out.symm, rfl⟩
      · have HE : Hid (low xs sk = 0) := EO.out k (by omega) HZ.out
        go_wp2_with fail
        refine Calls.mono AT.out ?_
        rintro e w ⟨rfl, rfl⟩
        go_wp2_with fail
        go_ret
        exact ⟨nret_bool (by rw [HLO.out, HE.out]; simp; rw [Bool.eq_iff_iff]; simp), rfl⟩

/-- A shift to the left, or why there is none. -/
def shlR (u : Nat) (m : Int) : Nat × Int := if greatB u = true then (0, 3) else if m < 0 then (0, 2) else if u = 0 then (0, 0) else if 65536 - (blen u : Int) < m then (0, 3) else (u * 2 ^ m.toNat, 0)

theorem shlR_great {u : Nat} {m : Int} (h : greatB u = true) : shlR u m = (0, 3) := by unfold shlR; rw [if_pos h]

theorem shlR_neg {u : Nat} {m : Int} (h : greatB u = false) (h2 : m < 0) : shlR u m = (0, 2) := by unfold shlR; rw [if_neg (by rw [h]; decide), if_pos h2]

theorem shlR_zero {u : Nat} {m : Int} (h : greatB u = false) (h2 : 0 ≤ m) (h3 : u = 0) : shlR u m = (0, 0) := by unfold shlR; rw [if_neg (by rw [h]; decide), if_neg (by omega), if_pos h3]

theorem shlR_many {u : Nat} {m : Int} (h : greatB u = false) (h2 : 0 ≤ m) (h3 : u ≠ 0) (h4 : 65536 - (blen u : Int) < m) : shlR u m = (0, 3) := by unfold shlR; rw [if_neg (by rw [h]; decide), if_neg (by omega), if_neg h3, if_pos h4]

theorem shlR_fit {u : Nat} {m : Int} (h : greatB u = false) (h2 : 0 ≤ m) (h3 : u ≠ 0) (h4 : m ≤ 65536 - (blen u : Int)) : shlR u m = (u * 2 ^ m.toNat, 0) := by unfold shlR; rw [if_neg (by rw [h]; decide), if_neg (by omega), if_neg h3, if_neg (by omega)]

theorem blen_mul (u m : Nat) (h : u ≠ 0) : blen (u * 2 ^ m) = m + blen u := by
  have := blen_shift m 0 u (Nat.pow_pos (by decide)) h
  rw [Nat.zero_add, Nat.mul_comm] at this; exact this

set_option maxRecDepth 100000 in
set_option maxHeartbeats 1000000 in
theorem shl_calls (a : Option Addr) (len cap : Nat) (xs : List Int) (i : Int) (w : World) (h : IsW w a len cap xs) (hm : len ≤ 17592186044416) :
    Calls Tryz.prog 123 #[.slice a len cap, .int .i64 i] w fun e w' => ∃ v, e = .returned (.tuple #[v, .int .i64 (shlR (val xs) i).2]) ∧ NatAt w.heap.size w' v (shlR (val xs) i).1 ∧ Below w.heap.size w w' := by
  have HT := withCount_calls a len cap xs i w h hm
  go_enter Tryz.func123, Tryz.ntmps123
  go_wp2_with fail
  refine Calls.mono HT ?_
  rintro e w1 ⟨h1, h2, h3, hb⟩
  clear HT
  cases hg : greatB (val xs) with
  | true =>
    obtain rfl := h1 hg
    have e0 : Hid _ := shlR_great (m := i) hg
    clear h1 h2 h3 hg
    go_wp2_with fail
    go_ret2
    rw [e0.out]
    exact ⟨_, rfl, natAt_nil _ _, hb⟩
  | false =>
    by_cases hi : i < 0
    · obtain rfl := h2 hg hi
      have e0 : Hid _ := shlR_neg hg hi
      clear h1 h2 h3 hg
      go_wp2_with fail
      go_ret2
      rw [e0.out]
      exact ⟨_, rfl, natAt_nil _ _, hb⟩
    · obtain ⟨a1, n, rfl, hn, hn2, hI⟩ := h3 hg (by omega)
      have HN : Hid (n = (wordsOf (val xs)).length) := hn
      have HG : Hid _ := hg
      clear h1 h2 h3 hg hn
      obtain ⟨j, rfl⟩ := Int.eq_ofNat_of_zero_le (show 0 ≤ i by omega)
      by_cases h0 : val xs = 0
      · have e0 : Hid _ := shlR_zero (m := (j : Int)) HG.out (by omega) h0
        have hn0 : n = 0 := by rw [HN.out, h0, words_zero]; rfl
        subst hn0
        clear h0
        go_wp2_with fail
        go_ret2
        rw [e0.out]
        exact ⟨_, rfl, natAt_nil _ _, hb⟩
      · have hn0 : ((n : Int) == 0) = false := by
          have : n ≠ 0 := fun e => h0 ((words_nil _).1 (List.length_eq_zero_iff.1 (by rw [← HN.out]; exact e)))
          simp; omega
        have hbl : blen (val xs) ≤ 65536 := (great_not _).1 HG.out
        have BC : Hid _ := bits_calls a1 n (val xs) w1 hI (by omega)
        by_cases hc : 65536 - (blen (val xs) : Int) < (j : Int)
        · have e0 : Hid _ := shlR_many HG.out (by omega) h0 hc
          clear h0
          go_wp2_with fail
          refine Calls.mono BC.out ?_
          rintro e w1 ⟨rfl, rfl⟩
          go_wp2_with fail
          go_ret2
          rw [e0.out]
          exact ⟨_, rfl, natAt_nil _ _, hb⟩
        · have e0 : Hid _ := shlR_fit HG.out (show 0 ≤ (j : Int) by omega) h0 (show (j : Int) ≤ 65536 - (blen (val xs) : Int) by omega)
          have LC : Hid _ := left_calls a1 n j (wordsOf (val xs)) w1 hI hn2 (by omega)
          have HF : Hid (greatB (val xs * 2 ^ j) = false) := by rw [Hid, great_not, blen_mul _ _ h0]; omega
          clear h0
          go_wp2_with fail
          refine Calls.mono BC.out ?_
          rintro e w1 ⟨rfl, rfl⟩
          go_wp2_with fail
          refine Calls.mono LC.out ?_
          rintro e w2 ⟨ao, k, M, rfl, hO, hv, hk, hb2⟩
          rw [val_words] at hv
          have HV : Hid (val M = val xs * 2 ^ j) := hv
          have hkb : k ≤ 4000 := by omega
          clear hv hk LC BC
          go_wp2_with fail
          refine Calls.mono (answer_calls _ ao k k M w2 hO (by omega)) ?_
          rintro e w3 ⟨v, rfl, hA, hb3⟩
          rw [HV.out, fitR_no HF.out] at hA ⊢
          go_wp2_with fail
          go_ret2
          rw [e0.out, Int.toNat_natCast]
          exact ⟨v, rfl, hA.low hb.size, nbelow_trans (nbelow_trans hb hb2) hb3⟩

/-- A shift to the right, or why there is none. -/
def shrE (u : Nat) (m : Int) : Int := if greatB u = true then 3 else if m < 0 then 2 else 0

def shrQ (u : Nat) (m : Int) : Nat := if greatB u = true then 0 else if m < 0 then 0 else u / 2 ^ m.toNat

def shrL (u : Nat) (m : Int) : Bool := if greatB u = true then false else if m < 0 then false else lostB u m.toNat

theorem shr_great {u : Nat} {m : Int} (h : greatB u = true) : shrE u m = 3 ∧ shrQ u m = 0 ∧ shrL u m = false := by simp [shrE, shrQ, shrL, h]

theorem shr_neg {u : Nat} {m : Int} (h : greatB u = false) (h2 : m < 0) : shrE u m = 2 ∧ shrQ u m = 0 ∧ shrL u m = false := by simp [shrE, shrQ, shrL, h, h2]

theorem shr_fit {u j : Nat} (h : greatB u = false) : shrE u (j : Int) = 0 ∧ shrQ u (j : Int) = u / 2 ^ j ∧ shrL u (j : Int) = lostB u j := by
  have : ¬ (j : Int) < 0 := by omega
  simp [shrE, shrQ, shrL, h, this]

set_option maxRecDepth 100000 in
set_option maxHeartbeats 1000000 in
theorem shr_calls (a : Option Addr) (len cap : Nat) (xs : List Int) (i : Int) (w : World) (h : IsW w a len cap xs) (hm : len ≤ 17592186044416) (hi1 : i ≤ 9223372036854775807) :
    Calls Tryz.prog 124 #[.slice a len cap, .int .i64 i] w fun e w' => ∃ v, e = .returned (.tuple #[v, .bool (shrL (val xs) i), .int .i64 (shrE (val xs) i)]) ∧ NatAt w.heap.size w' v (shrQ (val xs) i) ∧ Below w.heap.size w w' := by
  have HT := withCount_calls a len cap xs i w h hm
  go_enter Tryz.func124, Tryz.ntmps124
  go_wp2_with fail
  refine Calls.mono HT ?_
  rintro e w1 ⟨h1, h2, h3, hb⟩
  clear HT
  cases hg : greatB (val xs) with
  | true =>
    obtain rfl := h1 hg
    have e0 : Hid _ := shr_great (m := i) hg
    clear h1 h2 h3 hg
    go_wp2_with fail
    go_ret3
    rw [e0.out.1, e0.out.2.1, e0.out.2.2]
    exact ⟨_, rfl, natAt_nil _ _, hb⟩
  | false =>
    by_cases hi : i < 0
    · obtain rfl := h2 hg hi
      have e0 : Hid _ := shr_neg hg hi
      clear h1 h2 h3 hg
      go_wp2_with fail
      go_ret3
      rw [e0.out.1, e0.out.2.1, e0.out.2.2]
      exact ⟨_, rfl, natAt_nil _ _, hb⟩
    · obtain ⟨a1, n, rfl, hn, hn2, hI⟩ := h3 hg (by omega)
      obtain ⟨j, rfl⟩ := Int.eq_ofNat_of_zero_le (show 0 ≤ i by omega)
      have HG : Hid _ := hg
      have e0 : Hid _ := shr_fit (j := j) hg
      have HF : Hid (fitR (val xs / 2 ^ j) = (val xs / 2 ^ j, 0)) := fitR_no (great_mono (Nat.div_le_self _ _) hg)
      clear h1 h2 h3 hg hn
      have RC : Hid _ := right_calls a1 n j (wordsOf (val xs)) w1 hI hn2 (by omega)
      go_wp2_with fail
      refine Calls.mono RC.out ?_
      rintro e w2 ⟨ao, k, M, rfl, hO, hv, hk, hb2⟩
      rw [val_words] at hv
      have HV : Hid (val M = val xs / 2 ^ j) := hv
      have hkb : k ≤ 1024 := by omega
      have hI2 := hI.keep hb2
      clear hv hk RC
      go_wp2_with fail
      refine Calls.mono (answer_calls _ ao k k M w2 hO (by omega)) ?_
      rintro e w3 ⟨v, rfl, hA, hb3⟩
      rw [HV.out, HF.out] at hA ⊢
      have hI3 := hI2.keep hb3
      have AC : Hid _ := any_calls a1 n j (wordsOf (val xs)) w3 hI3 hn2 (by omega)
      rw [val_words] at AC
      go_wp2_with fail
      refine Calls.mono AC.out ?_
      rintro e w3 ⟨rfl, rfl⟩
      go_wp2_with fail
      go_ret3
      rw [e0.out.1, e0.out.2.1, e0.out.2.2]
      exact ⟨v, rfl, hA.low hb.size, nbelow_trans (nbelow_trans hb hb2) hb3⟩

end Go.Proofs.YtkkldnnndlpblaaGreatDoor

namespace Go.Proofs.YtkkldnnndlpblaaGreatDoor
open Go.RowKit

/-- A power, or why there is none. -/
def powR (u : Nat) (m : Int) : Nat × Int := if greatB u = true then (0, 3) else if m < 0 then (0, 2) else fitR (u ^ m.toNat)

theorem powR_great {u : Nat} {m : Int} (h : greatB u = true) : powR u m = (0, 3) := by unfold powR; rw [if_pos h]

theorem powR_neg {u : Nat} {m : Int} (h : greatB u = false) (h2 : m < 0) : powR u m = (0, 2) := by unfold powR; rw [if_neg (by rw [h]; decide), if_pos h2]

theorem powR_fit {u j : Nat} (h : greatB u = false) : powR u (j : Int) = fitR (u ^ j) := by unfold powR; rw [if_neg (by rw [h]; decide), if_neg (by omega), Int.toNat_natCast]

theorem pow_mono2 (a b : Nat) (h : a ≤ b) : 2 ^ a ≤ 2 ^ b := Nat.pow_le_pow_right (by decide) h

theorem pow_lt2 (a b : Nat) (h : a < b) : 2 ^ a < 2 ^ b := Nat.pow_lt_pow_right (by decide) h

theorem pow_many {u j : Nat} (hb : 1 < blen u) (h : 65535 / (blen u - 1) < j) : greatB (u ^ j) = true := by
  have hu : u ≠ 0 := fun e => by rw [e] at hb; simp [blen_zero] at hb
  have h1 := blen_ge u hu
  have h2 := Nat.pow_le_pow_left h1 j
  rw [← Nat.pow_mul] at h2
  rw [great_iff]
  rw [Nat.div_lt_iff_lt_mul (by omega)] at h
  rcases Nat.lt_or_ge 65536 (blen (u ^ j)) with q | q
  · exact q
  · exfalso
    have h3 := (blen_le _ _).1 q
    have h4 := pow_mono2 65536 ((blen u - 1) * j) (by rw [Nat.mul_comm]; omega)
    exact absurd (Nat.lt_of_le_of_lt h2 h3) (Nat.not_lt.2 h4)

theorem pow_small {u j : Nat} (h : ¬ (1 < blen u ∧ 65535 / (blen u - 1) < j)) : (wordsOf (u ^ j)).length ≤ 4000 := by
  by_cases hb : 1 < blen u
  · have h1 : ¬ 65535 / (blen u - 1) < j := fun q => h ⟨hb, q⟩
    suffices hs : ∀ K, K = 4000 → (wordsOf (u ^ j)).length ≤ K from hs _ rfl
    intro K hK
    rw [words_len2, blen_le]
    rw [Nat.div_lt_iff_lt_mul (by omega)] at h1
    have h2 := Nat.pow_le_pow_left (Nat.le_of_lt (lt_blen u)) j
    rw [← Nat.pow_mul] at h2
    refine Nat.lt_of_le_of_lt h2 (pow_lt2 _ _ ?_)
    obtain ⟨b, hb2⟩ : ∃ b, blen u = b + 1 := ⟨blen u - 1, by omega⟩
    rw [hb2] at h1 hb ⊢
    rw [Nat.add_sub_cancel] at h1
    rw [Nat.add_mul, Nat.one_mul]
    have h3 : j * 1 ≤ j * b := Nat.mul_le_mul_left j (by omega)
    rw [Nat.mul_comm b j]
    omega
  · have hu : u ≤ 1 := by
      have := (blen_le u 1).1 (by omega)
      omega
    have h2 : u ^ j ≤ 1 := by
      have := Nat.pow_le_pow_left hu j
      rwa [Nat.one_pow] at this
    suffices hs : ∀ K, 0 < K → (wordsOf (u ^ j)).length ≤ K from hs _ (by decide)
    intro K hK
    rw [words_len]
    exact Nat.lt_of_le_of_lt h2 (one_lt_big _ hK)

set_option maxRecDepth 100000 in
set_option maxHeartbeats 1000000 in
theorem pow_calls (a : Option Addr) (len cap : Nat) (xs : List Int) (i : Int) (w : World) (h : IsW w a len cap xs) (hm : len ≤ 17592186044416) (hi1 : i ≤ 9223372036854775807) :
    Calls Tryz.prog 42 #[.slice a len cap, .int .i64 i] w fun e w' => ∃ v, e = .returned (.tuple #[v, .int .i64 (powR (val xs) i).2]) ∧ NatAt w.heap.size w' v (powR (val xs) i).1 ∧ Below w.heap.size w w' := by
  have HT := withCount_calls a len cap xs i w h hm
  go_enter Tryz.func42, Tryz.ntmps42
  go_wp2_with fail
  refine Calls.mono HT ?_
  rintro e w1 ⟨h1, h2, h3, hb⟩
  clear HT
  cases hg : greatB (val xs) with
  | true =>
    obtain rfl := h1 hg
    have e0 : Hid _ := powR_great (m := i) hg
    clear h1 h2 h3 hg
    go_wp2_with fail
    go_ret2
    rw [e0.out]
    exact ⟨_, rfl, natAt_nil _ _, hb⟩
  | false =>
    by_cases hi : i < 0
    · obtain rfl := h2 hg hi
      have e0 : Hid _ := powR_neg hg hi
      clear h1 h2 h3 hg
      go_wp2_with fail
      go_ret2
      rw [e0.out]
      exact ⟨_, rfl, natAt_nil _ _, hb⟩
    · obtain ⟨a1, n, rfl, hn, hn2, hI⟩ := h3 hg (by omega)
      obtain ⟨j, rfl⟩ := Int.eq_ofNat_of_zero_le (show 0 ≤ i by omega)
      have e0 : Hid _ := powR_fit (u := val xs) (j := j) hg
      have HG : Hid _ := hg
      have hbl : blen (val xs) ≤ 65536 := (great_not _).1 hg
      clear h1 h2 h3 hg hn
      have BC : Hid _ := bits_calls a1 n (val xs) w1 hI (by omega)
      obtain ⟨b, hbb⟩ : ∃ b, b = blen (val xs) := ⟨_, rfl⟩
      have HPM : Hid (1 < b → 65535 / (b - 1) < j → greatB (val xs ^ j) = true) := fun q1 q2 => by rw [hbb] at q1 q2; exact pow_many q1 q2
      have HPS : Hid (¬ (1 < b ∧ 65535 / (b - 1) < j) → (wordsOf (val xs ^ j)).length ≤ 4000) := fun q => by rw [hbb] at q; exact pow_small q
      rw [← hbb] at BC hbl
      clear hbb
      have PC : Hid ((wordsOf (val xs ^ j)).length ≤ 4000 → _) := fun hf => power_calls a1 n (val xs) j w1 hI (by omega) (by omega) hf
      by_cases hb1 : 1 < b
      · have hd0 : ((b : Int) - 1 == 0) = false := by simp; omega
        obtain ⟨c, hc⟩ : ∃ c, c = 65535 / (b - 1) := ⟨_, rfl⟩
        have hc2 : (65535 : Int) / ((b : Int) - 1) = (c : Int) := by
          rw [hc, Int.natCast_ediv, Int.natCast_sub (by omega)]; rfl
        rw [← hc] at HPM HPS
        clear hc
        by_cases hc3 : c < j
        · have HQ : Hid (fitR (val xs ^ j) = (0, 3)) := fitR_yes (HPM.out hb1 hc3)
          go_wp2_with fail
          refine Calls.mono BC.out ?_
          rintro e w1 ⟨rfl, rfl⟩
          go_wp2_with fail
          refine Calls.mono BC.out ?_
          rintro e w1 ⟨rfl, rfl⟩
          go_wp2_with fail
          go_ret2
          rw [e0.out, HQ.out]
          exact ⟨_, rfl, natAt_nil _ _, hb⟩
        · have hf := HPS.out (fun q => hc3 q.2)
          have PD : Hid _ := PC.out hf
          have hf2 : Hid _ := hf
          clear PC HPM HPS hf
          go_wp2_with fail
          refine Calls.mono BC.out ?_
          rintro e w1 ⟨rfl, rfl⟩
          go_wp2_with fail
          refine Calls.mono BC.out ?_
          rintro e w1 ⟨rfl, rfl⟩
          go_wp2_with fail
          refine Calls.mono PD.out ?_
          rintro e w2 ⟨ao, m, rfl, hmm, hO, hb2⟩
          have hml : m ≤ 4000 := by rw [hmm]; exact hf2.out
          clear PD BC hmm
          go_wp2_with fail
          refine Calls.mono (answer_calls _ ao m m _ w2 hO (by omega)) ?_
          rintro e w3 ⟨v, rfl, hA, hb3⟩
          rw [val_words] at hA ⊢
          go_wp2_with fail
          go_ret2
          rw [e0.out]
          exact ⟨v, rfl, hA.low hb.size, nbelow_trans (nbelow_trans hb hb2) hb3⟩
      · have hf := HPS.out (fun q => hb1 q.1)
        have PD : Hid _ := PC.out hf
        have hf2 : Hid _ := hf
        clear PC HPM HPS hf
        go_wp2_with fail
        refine Calls.mono BC.out ?_
        rintro e w1 ⟨rfl, rfl⟩
        go_wp2_with fail
        refine Calls.mono PD.out ?_
        rintro e w2 ⟨ao, m, rfl, hmm, hO, hb2⟩
        have hml : m ≤ 4000 := by rw [hmm]; exact hf2.out
        clear PD BC hmm
        go_wp2_with fail
        refine Calls.mono (answer_calls _ ao m m _ w2 hO (by omega)) ?_
        rintro e w3 ⟨v, rfl, hA, hb3⟩
        rw [val_words] at hA ⊢
        go_wp2_with fail
        go_ret2
        rw [e0.out]
        exact ⟨v, rfl, hA.low hb.size, nbelow_trans (nbelow_trans hb hb2) hb3⟩

end Go.Proofs.YtkkldnnndlpblaaGreatDoor

namespace Go.Proofs.YtkkldnnndlpblaaGreatDoor
open Go.RowKit

theorem zero_len : (wordsOf 0).length ≤ 1024 := by rw [words_zero]; simp

theorem fitR_len (u : Nat) : (wordsOf (fitR u).1).length ≤ 1024 := by
  unfold fitR
  split
  · exact zero_len
  · rename_i h
    exact (great_len u).1 (by simpa using h)

theorem addR_len (u v : Nat) : (wordsOf (addR u v).1).length ≤ 1024 := by
  unfold addR
  split
  · exact zero_len
  · exact fitR_len _

theorem subR_len (u v : Nat) : (wordsOf (subR u v).1).length ≤ 1024 := by
  unfold subR
  split
  · exact zero_len
  · rename_i h
    rw [Bool.not_eq_true, Bool.or_eq_false_iff] at h
    split
    · exact zero_len
    · exact (great_len _).1 (great_mono (Nat.sub_le _ _) h.1)

theorem shlR_len (u : Nat) (i : Int) : (wordsOf (shlR u i).1).length ≤ 1024 := by
  unfold shlR
  split
  · exact zero_len
  · split
    · exact zero_len
    · split
      · exact zero_len
      · split
        · exact zero_len
        · rename_i h1 h2 h3 h4
          simp only
          obtain ⟨j, rfl⟩ := Int.eq_ofNat_of_zero_le (show 0 ≤ i by omega)
          rw [Int.toNat_natCast, ← great_len, great_not, blen_mul _ _ h3]; omega

theorem shrQ_len (u : Nat) (i : Int) : (wordsOf (shrQ u i)).length ≤ 1024 := by
  unfold shrQ
  split
  · exact zero_len
  · split
    · exact zero_len
    · rename_i h1 h2
      rw [← great_len]
      exact great_mono (Nat.div_le_self _ _) (by simpa using h1)

theorem NatAt.open {B : Nat} {w : World} {v : Value} {r : Nat} (h : NatAt B w v r) (hl : (wordsOf r).length ≤ 1024) : ∃ (ao : Option Addr) (n c : Nat), v = .slice ao n c ∧ Hid (n = (wordsOf r).length) ∧ n ≤ 1024 ∧ OwnW B w ao n c (wordsOf r) := by
  obtain ⟨ao, n, c, rfl, hn, hO⟩ := h
  exact ⟨ao, n, c, rfl, hn, by omega, hO⟩

section
variable {a a' : Option Addr} {len cap len' cap' : Nat} {xs ys : List Int} {w : World}

theorem add_eq (h : IsW w a len cap xs) (h' : IsW w a' len' cap' ys) (hm : len ≤ 17592186044416) (hm' : len' ≤ 17592186044416) {r : Nat} {k : Int} (hr : addR (val xs) (val ys) = (r, k)) :
    Calls Tryz.prog 106 #[.slice a len cap, .slice a' len' cap'] w fun e w' => ∃ (ao : Option Addr) (n c : Nat), e = .returned (.tuple #[.slice ao n c, .int .i64 k]) ∧ Hid (n = (wordsOf r).length) ∧ n ≤ 1024 ∧ OwnW w.heap.size w' ao n c (wordsOf r) ∧ Below w.heap.size w w' := by
  have hl := addR_len (val xs) (val ys)
  refine Calls.mono (add_calls a a' len cap len' cap' xs ys w h h' hm hm') ?_
  rw [hr] at hl ⊢
  rintro e w' ⟨v, rfl, hA, hb⟩
  obtain ⟨ao, n, c, rfl, h1, h2, h3⟩ := hA.open hl
  exact ⟨ao, n, c, rfl, h1, h2, h3, hb⟩

theorem sub_eq (h : IsW w a len cap xs) (h' : IsW w a' len' cap' ys) (hm : len ≤ 17592186044416) (hm' : len' ≤ 17592186044416) {r : Nat} {k : Int} (hr : subR (val xs) (val ys) = (r, k)) :
    Calls Tryz.prog 105 #[.slice a len cap, .slice a' len' cap'] w fun e w' => ∃ (ao : Option Addr) (n c : Nat), e = .returned (.tuple #[.slice ao n c, .int .i64 k]) ∧ Hid (n = (wordsOf r).length) ∧ n ≤ 1024 ∧ OwnW w.heap.size w' ao n c (wordsOf r) ∧ Below w.heap.size w w' := by
  have hl := subR_len (val xs) (val ys)
  refine Calls.mono (sub_calls a a' len cap len' cap' xs ys w h h' hm hm') ?_
  rw [hr] at hl ⊢
  rintro e w' ⟨v, rfl, hA, hb⟩
  obtain ⟨ao, n, c, rfl, h1, h2, h3⟩ := hA.open hl
  exact ⟨ao, n, c, rfl, h1, h2, h3, hb⟩

theorem shl_eq {i : Int} (h : IsW w a len cap xs) (hm : len ≤ 17592186044416) {r : Nat} {k : Int} (hr : shlR (val xs) i = (r, k)) :
    Calls Tryz.prog 123 #[.slice a len cap, .int .i64 i] w fun e w' => ∃ (ao : Option Addr) (n c : Nat), e = .returned (.tuple #[.slice ao n c, .int .i64 k]) ∧ Hid (n = (wordsOf r).length) ∧ n ≤ 1024 ∧ OwnW w.heap.size w' ao n c (wordsOf r) ∧ Below w.heap.size w w' := by
  have hl := shlR_len (val xs) i
  refine Calls.mono (shl_calls a len cap xs i w h hm) ?_
  rw [hr] at hl ⊢
  rintro e w' ⟨v, rfl, hA, hb⟩
  obtain ⟨ao, n, c, rfl, h1, h2, h3⟩ := hA.open hl
  exact ⟨ao, n, c, rfl, h1, h2, h3, hb⟩

theorem shr_eq {i : Int} (h : IsW w a len cap xs) (hm : len ≤ 17592186044416) (hi : i ≤ 9223372036854775807) {r : Nat} {l : Bool} {k : Int} (hr : shrQ (val xs) i = r) (hr2 : shrL (val xs) i = l) (hr3 : shrE (val xs) i = k) :
    Calls Tryz.prog 124 #[.slice a len cap, .int .i64 i] w fun e w' => ∃ (ao : Option Addr) (n c : Nat), e = .returned (.tuple #[.slice ao n c, .bool l, .int .i64 k]) ∧ Hid (n = (wordsOf r).length) ∧ n ≤ 1024 ∧ OwnW w.heap.size w' ao n c (wordsOf r) ∧ Below w.heap.size w w' := by
  have hl := shrQ_len (val xs) i
  refine Calls.mono (shr_calls a len cap xs i w h hm hi) ?_
  rw [hr] at hl ⊢
  rw [hr2, hr3]
  rintro e w' ⟨v, rfl, hA, hb⟩
  obtain ⟨ao, n, c, rfl, h1, h2, h3⟩ := hA.open hl
  exact ⟨ao, n, c, rfl, h1, h2, h3, hb⟩

end
end Go.Proofs.YtkkldnnndlpblaaGreatDoor
