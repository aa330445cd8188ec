/- The walks of powers. The walks of a word's root. Plain facts on a natural's decimal digits, nineteen at a time. The walk of a natural's digits, nineteen to a word. The walks of Newton's steps and of the root. The walks of Sqrt and Cbrt as they are called. -/
import Derived.Test.YtionhpedghmecaaGreatDoorNMX
import Derived.Test.YtionhpedghmecaaGreatDoorTMK
import Derived.Test.YtionhpedghmecaaGreatDoorAPX
import Derived.Test.YtionhpedghmecaaGreatDoorTMA
import Derived.Lib.ItoaNum
import Derived.Lib.Itoa
import Derived.Test.YtionhpedghmecaaGreatDoorTMB
import Derived.Test.YtionhpedghmecaaGreatDoorTMI
import Derived.Test.YtionhpedghmecaaGreatDoorTML
import Derived.Deep.LoopGhost

namespace Go.Proofs.YtionhpedghmecaaGreatDoor
open Go.RowKit
set_option maxHeartbeats 1000000 in
theorem lenU_calls (x : Nat) (w : World) (h : x < 18446744073709551616) :
  Calls Tryz.prog 123 #[.int .u64 (x : Int)] w fun e w' => e = .returned (.int .i64 (blen x)) ∧ w' = w := by
 have hb : Hid (Lib.bitLen x = blen x) := blen_lib x h
 go_enter Tryz.func123, Tryz.ntmps123
 go_wp2_with fail
 refine Calls.mono (Tryz.bits_Len64 _ _ (by omega) (by omega)) ?_
 rintro e w ⟨rfl, rfl⟩
 rw [Int.toNat_natCast, hb.out]
 go_wp2_with fail
 go_ret
 exact ⟨rfl, rfl⟩
theorem bit_i64 (x : Nat) (h : x < 9223372036854775808) : bits BinOp.and IntKind.i64 (x : Int) 1 = ((x % 2 : Nat) : Int) := by
 have h1 : (BitVec.ofInt 64 (x : Int)).toNat = x := by
  rw [BitVec.ofInt_natCast, BitVec.toNat_ofNat]; exact Nat.mod_eq_of_lt (by omega)
 have h2 : (BitVec.ofInt 64 (1 : Int)).toNat = 1 := by decide
 show IntKind.i64.wrap ((BitVec.ofInt 64 (x : Int) &&& BitVec.ofInt 64 (1 : Int)).toNat : Int) = _
 rw [BitVec.toNat_and, h1, h2, Nat.and_one_is_mod, IntKind.wrap_i64]
 omega
theorem pow_half (n d : Nat) : n / 2 ^ d = 2 * (n / 2 ^ (d + 1)) + n / 2 ^ d % 2 := by
 rw [Nat.pow_succ, ← Nat.div_div_eq_div_mul]; omega
theorem pow_step (v n d : Nat) : v ^ (n / 2 ^ d) = v ^ (n / 2 ^ (d + 1)) * v ^ (n / 2 ^ (d + 1)) * v ^ (n / 2 ^ d % 2) := by
 conv => lhs; rw [pow_half n d, Nat.pow_add, Nat.two_mul, Nat.pow_add]
theorem one_lt_big (k : Nat) (h : 0 < k) : 1 < 18446744073709551616 ^ k := Nat.one_lt_pow (by omega) (by decide)
theorem pow_le_len (v n j K : Nat) (hK : 0 < K) (hj : j ≤ n) (hf : (wordsOf (v ^ n)).length ≤ K) : (wordsOf (v ^ j)).length ≤ K := by
 rw [words_len] at *
 rcases Nat.eq_zero_or_pos v with h | h
 ·subst h
  have : (0 : Nat) ^ j ≤ 1 := by cases j <;> simp
  exact Nat.lt_of_le_of_lt this (one_lt_big _ hK)
 ·exact Nat.lt_of_le_of_lt (Nat.pow_le_pow_right h hj) hf
set_option maxRecDepth 100000 in
set_option maxHeartbeats 1000000 in
theorem power_calls (a : Option Addr) (k v n : Nat) (w : World) (h : IsW w a k k (wordsOf v)) (hk : k ≤ 4000) (hn : n ≤ 9223372036854775807) (hf : (wordsOf (v ^ n)).length ≤ 4000) :
  Calls Tryz.prog 92 #[.slice a k k, .int .i64 (n : Int)] w fun e w' => ∃ (ao : Option Addr) (m : Nat), e = .returned (.slice ao m m) ∧ m = (wordsOf (v ^ n)).length ∧ OwnW w.heap.size w' ao m m (wordsOf (v ^ n)) ∧ Below w.heap.size w w' := by
 obtain ⟨L, hL⟩ : ∃ L, L = blen n := ⟨_, rfl⟩
 have LC : Hid (∀ W : World, Calls Tryz.prog 123 #[.int .u64 (n : Int)] W fun e w' => e = .returned (.int .i64 (L : Int)) ∧ w' = W) := fun W => by
  rw [hL]; exact lenU_calls n W (by omega)
 have HN : Hid (n < 2 ^ L) := by rw [hL]; exact lt_blen n
 have hL64 : L ≤ 63 := by rw [hL, blen_le]; have : (2 : Nat) ^ 63 = 9223372036854775808 := rfl; omega
 have HF : Hid ((wordsOf (v ^ n)).length ≤ 4000) := hf
 clear hL hf
 go_enter Tryz.func92, Tryz.ntmps92
 go_wp2_with fail
 refine Calls.mono (word_calls 1 w (by omega) (by omega)) ?_
 rintro e w1 ⟨a1, n1, rfl, hn1, hO1, hb1⟩
 have HN1 : Hid (n1 = (wordsOf 1).length) := hn1
 clear hn1
 go_wp2_with fail
 refine Calls.mono (LC.out _) ?_
 rintro e w1 ⟨rfl, rfl⟩
 go_wp2_with fail
 go_loopw [5, 11] (fun vm vi wr => ∃ (i m : Nat) (ao : Option Addr), i ≤ L ∧ vi = .int .i64 (i : Int) ∧ vm = .slice ao m m ∧ Hid (m = (wordsOf (v ^ (n / 2 ^ (L - i)))).length) ∧ OwnW w.heap.size wr ao m m (wordsOf (v ^ (n / 2 ^ (L - i)))) ∧ Below w.heap.size w wr) (fun _ vi _ => L - (intOf vi).toNat)
 case atStart =>
  have e0 : n / 2 ^ (L - 0) = 0 := Nat.div_eq_of_lt HN.out
  exact ⟨0, n1, a1, by omega, rfl, rfl, by rw [e0, Nat.pow_zero]; exact HN1, by rw [e0, Nat.pow_zero]; exact hO1, hb1⟩
 case round =>
  clear hO1 hb1
  obtain ⟨i, m, ao, hi, rfl, rfl, HM, hO, hbr⟩ := hrel
  by_cases hlt : i < L
  ·have hm : m ≤ 4000 := by rw [HM.out]; exact pow_le_len v n _ _ (by decide) (Nat.div_le_self _ _) HF.out
   go_wp2_with fail
   refine Calls.mono (times_calls ao ao m m _ _ wr hO.1 hO.1 (by omega) (by omega)) ?_
   rintro e w2 ⟨a2, k2, M, rfl, hO2, hv2, hk2, hb2⟩
   rw [val_words] at hv2
   have HV2 : Hid (val M = v ^ (n / 2 ^ (L - i)) * v ^ (n / 2 ^ (L - i))) := hv2
   have hb3 := nT hbr hb2
   have hwr : w.heap.size ≤ wr.heap.size := hbr.size
   clear hv2 hO HM hbr
   go_wp2_with fail
   refine Calls.mono (trimW_pack _ a2 k2 k2 M w2 hO2 (by omega)) ?_
   rintro e w2 ⟨a3, k3, rfl, hk3, hO3, rfl⟩
   rw [HV2.out] at hk3 hO3
   have HK3 : Hid (k3 = (wordsOf (v ^ (n / 2 ^ (L - i)) * v ^ (n / 2 ^ (L - i)))).length) := hk3
   clear hk3 hO2
   go_wp2_with fail
   refine Calls.mono (LC.out _) ?_
   rintro e w2 ⟨rfl, rfl⟩
   have hqe : (n : Int) / 2 ^ (L - 1 - i) = ((n / 2 ^ (L - 1 - i) : Nat) : Int) := by rw [Int.natCast_ediv, Int.natCast_pow]; rfl
   have hqb : bits BinOp.and IntKind.i64 ((n / 2 ^ (L - 1 - i) : Nat) : Int) 1 = ((n / 2 ^ (L - 1 - i) % 2 : Nat) : Int) := bit_i64 _ (by have := Nat.div_le_self n (2 ^ (L - 1 - i)); omega)
   have HPS : Hid (v ^ (n / 2 ^ (L - (i + 1))) = v ^ (n / 2 ^ (L - i)) * v ^ (n / 2 ^ (L - i)) * v ^ (n / 2 ^ (L - 1 - i) % 2)) := by
    have := pow_step v n (L - 1 - i)
    rw [show L - 1 - i + 1 = L - i by omega] at this
    rw [show L - (i + 1) = L - 1 - i by omega]; exact this
   have hsq : k3 ≤ 4000 := by
    rw [HK3.out, ← Nat.pow_add]
    refine pow_le_len v n _ _ (by decide) ?_ HF.out
    have h1 := pow_half n (L - 1 - i)
    rw [show L - 1 - i + 1 = L - i by omega] at h1
    have h2 := Nat.div_le_self n (2 ^ (L - 1 - i))
    omega
   obtain ⟨bt, hbt⟩ : ∃ bt, bt = n / 2 ^ (L - 1 - i) % 2 := ⟨_, rfl⟩
   rw [← hbt] at hqb HPS
   have hbt2 : bt = 0 ∨ bt = 1 := by omega
   have HLM : Hid (L - (i + 1) = L - 1 - i) := by rw [Hid]; omega
   clear hbt
   generalize hX : n / 2 ^ (L - 1 - i) = X at *
   clear hX
   rcases hbt2 with rfl | rfl
   ·rw [Nat.pow_zero, Nat.mul_one] at HPS
    go_wp2_with fail
    refine ⟨⟨i + 1, k3, a3, by omega, by go_num, rfl, by rw [HPS.out]; exact HK3, by rw [HPS.out]; exact hO3.low hwr, hb3⟩, by simp [intOf]; omega⟩
   ·rw [Nat.pow_one] at HPS
    go_wp2_with fail
    refine Calls.mono (times_calls a3 a k3 k _ _ w2 hO3.1 (h.keep hb3) (by omega) (by omega)) ?_
    rintro e w4 ⟨a4, k4, M4, rfl, hO4, hv4, hk4, hb4⟩
    rw [val_words, val_words] at hv4
    have HV4 : Hid (val M4 = v ^ (n / 2 ^ (L - (i + 1)))) := by rw [Hid, HPS.out]; exact hv4
    have hb5 := nT hb3 hb4
    clear hv4 hO3 hb4
    go_wp2_with fail
    refine Calls.mono (trimW_pack _ a4 k4 k4 M4 w4 hO4 (by omega)) ?_
    rintro e w4 ⟨a5, k5, rfl, hk5, hO5, rfl⟩
    rw [HV4.out] at hk5 hO5
    have HK5 : Hid (k5 = (wordsOf (v ^ (n / 2 ^ (L - (i + 1))))).length) := hk5
    have hlow : w.heap.size ≤ w2.heap.size := hb3.size
    clear hk5 hO4
    go_wp2_with fail
    refine ⟨⟨i + 1, k5, a5, by omega, by go_num, rfl, HK5, hO5.low hlow, hb5⟩, by simp [intOf]; omega⟩
  ·have e0 : n / 2 ^ (L - i) = n := by rw [show L - i = 0 by omega, Nat.pow_zero, Nat.div_one]
   rw [e0] at HM hO
   clear e0
   go_wp2_with fail
   go_ret
   exact ⟨ao, m, rfl, HM.out, hO, hbr⟩
theorem mul_parts (P r : Nat) : mL P r + 18446744073709551616 * mH P r = P * r := by unfold mL mH; omega
set_option maxRecDepth 100000 in
set_option maxHeartbeats 4000000 in
theorem powerAtMost_calls (r k W : Nat) (w : World) (hr : r < 18446744073709551616) (hW : W < 18446744073709551616) (hk : 2 ≤ k) (hk2 : k ≤ 100) :
  Calls Tryz.prog 141 #[.int .u64 (r : Int), .int .i64 (k : Int), .int .u64 (W : Int)] w fun e w' => e = .returned (.bool (decide (r ^ k ≤ W))) ∧ Below w.heap.size w w' := by
 have hb0 := below_one w (.cells #[.int .u64 (r : Int), .int .u64 0] 160)
 have H0 : Hid ((w.alloc (.cells #[.int .u64 (r : Int), .int .u64 0] 160)).cell? ⟨w.heap.size, 0, none⟩ = some (.int .u64 (r : Int)) ∧ (w.alloc (.cells #[.int .u64 (r : Int), .int .u64 0] 160)).cell? ⟨w.heap.size, 1, none⟩ = some (.int .u64 0) ∧ (w.alloc (.cells #[.int .u64 (r : Int), .int .u64 0] 160)).frozen? ⟨w.heap.size, 0, none⟩ = false ∧ (w.alloc (.cells #[.int .u64 (r : Int), .int .u64 0] 160)).frozen? ⟨w.heap.size, 1, none⟩ = false ∧ w.heap.size < (w.alloc (.cells #[.int .u64 (r : Int), .int .u64 0] 160)).heap.size) := ⟨by go_simp, by go_simp, by go_simp, by go_simp, by simp⟩
 go_enter Tryz.func141, Tryz.ntmps141
 go_wp2_with fail
 go_loopw [12] (fun vi wr => ∃ (i P : Nat), i ≤ k - 1 ∧ vi = .int .i64 i ∧ P < 18446744073709551616 ∧ Hid (P = r ^ (i + 1)) ∧ Hid (i = 0 ∨ P ≤ W) ∧ (wr.cell? ⟨w.heap.size, 0, none⟩ = some (.int .u64 (P : Int)) ∧ wr.cell? ⟨w.heap.size, 1, none⟩ = some (.int .u64 0) ∧ wr.frozen? ⟨w.heap.size, 0, none⟩ = false ∧ wr.frozen? ⟨w.heap.size, 1, none⟩ = false ∧ w.heap.size < wr.heap.size) ∧ Below w.heap.size w wr) (fun vi _ => k - 1 - (intOf vi).toNat)
 case atStart => exact ⟨0, r, by omega, rfl, hr, by rw [Hid, Nat.pow_one], Or.inl rfl, H0.out, hb0⟩
 case round =>
  obtain ⟨i, P, hi, rfl, hP, HP, HW, ⟨c0, c1, f0, f1, hsz⟩, hbr⟩ := hrel
  clear H0 hb0
  by_cases hlt : i < k - 1
  ·have hm := mul_parts P r
   have HM : Hid (mL P r + 18446744073709551616 * mH P r = P * r) := hm
   have HP2 : Hid (P * r = r ^ (i + 1 + 1)) := by rw [Hid, Nat.pow_succ, HP.out]
   have PC : Hid _ := product_calls P r wr hP hr
   have hlo : mL P r < 18446744073709551616 := by unfold mL; exact Nat.mod_lt _ (by decide)
   generalize mL P r = lo at *
   generalize mH P r = hi2 at *
   clear hm
   go_wp2_with fail
   refine Calls.mono PC.out ?_
   rintro e w2 ⟨rfl, rfl⟩
   have hb2 := below_one wr (.cells #[.int .u64 (lo : Int), .int .u64 (hi2 : Int)] 160)
   have d0 := (hb2.cell (p := ⟨w.heap.size, 0, none⟩) hsz).trans c0
   have d1 := (hb2.cell (p := ⟨w.heap.size, 1, none⟩) hsz).trans c1
   have g0 := (hb2.frozen (p := ⟨w.heap.size, 0, none⟩) hsz).trans f0
   have g1 := (hb2.frozen (p := ⟨w.heap.size, 1, none⟩) hsz).trans f1
   have hs2 := Nat.lt_of_lt_of_le hsz hb2.size
   have hbr2 := nT hbr hb2
   generalize wr.alloc (.cells #[.int .u64 (lo : Int), .int .u64 (hi2 : Int)] 160) = w2 at *
   clear c0 c1 f0 f1 hb2 PC hsz hbr
   go_wp2_with fail
   have k0 : ((w2.setCell ⟨w.heap.size, 0, none⟩ (.int .u64 (lo : Int))).setCell ⟨w.heap.size, 1, none⟩ (.int .u64 (hi2 : Int))).cell? ⟨w.heap.size, 0, none⟩ = some (.int .u64 (lo : Int)) := by go_simp
   have k1 : ((w2.setCell ⟨w.heap.size, 0, none⟩ (.int .u64 (lo : Int))).setCell ⟨w.heap.size, 1, none⟩ (.int .u64 (hi2 : Int))).cell? ⟨w.heap.size, 1, none⟩ = some (.int .u64 (hi2 : Int)) := by go_simp
   have l0 : ((w2.setCell ⟨w.heap.size, 0, none⟩ (.int .u64 (lo : Int))).setCell ⟨w.heap.size, 1, none⟩ (.int .u64 (hi2 : Int))).frozen? ⟨w.heap.size, 0, none⟩ = false := by go_simp
   have l1 : ((w2.setCell ⟨w.heap.size, 0, none⟩ (.int .u64 (lo : Int))).setCell ⟨w.heap.size, 1, none⟩ (.int .u64 (hi2 : Int))).frozen? ⟨w.heap.size, 1, none⟩ = false := by go_simp
   have hs3 : w.heap.size < ((w2.setCell ⟨w.heap.size, 0, none⟩ (.int .u64 (lo : Int))).setCell ⟨w.heap.size, 1, none⟩ (.int .u64 (hi2 : Int))).heap.size := by rw [World.size_setCell, World.size_setCell]; exact hs2
   have hb3 : Below w.heap.size w ((w2.setCell ⟨w.heap.size, 0, none⟩ (.int .u64 (lo : Int))).setCell ⟨w.heap.size, 1, none⟩ (.int .u64 (hi2 : Int))) := (hbr2.setCell (Nat.le_refl _) _).setCell (Nat.le_refl _) _
   generalize (w2.setCell ⟨w.heap.size, 0, none⟩ (.int .u64 (lo : Int))).setCell ⟨w.heap.size, 1, none⟩ (.int .u64 (hi2 : Int)) = w3 at *
   clear d0 d1 g0 g1 hs2 hbr2
   have AC : Hid _ := above_calls lo hi2 W 0 w3
   have hb4 : Below w3.heap.size w3 ((w3.alloc (.cells #[.int .u64 (lo : Int), .int .u64 (hi2 : Int)] 160)).alloc (.cells #[.int .u64 (W : Int), .int .u64 ((0 : Nat) : Int)] 160)) := nT (below_one _ _) (below_one _ _)
   obtain ⟨B, hB⟩ : ∃ B, B = decide (0 < hi2 ∨ 0 = hi2 ∧ W < lo) := ⟨_, rfl⟩
   rw [← hB] at AC
   have HBB : Hid (B = true ↔ W < P * r) := by
    rw [Hid, hB, decide_eq_true_eq, ← HM.out]; omega
   clear hB
   refine Calls.mono AC.out ?_
   rintro e w4 ⟨rfl, rfl⟩
   have m0 := (hb4.cell (p := ⟨w.heap.size, 0, none⟩) hs3).trans k0
   have m1 := (hb4.cell (p := ⟨w.heap.size, 1, none⟩) hs3).trans k1
   have n0 := (hb4.frozen (p := ⟨w.heap.size, 0, none⟩) hs3).trans l0
   have n1 := (hb4.frozen (p := ⟨w.heap.size, 1, none⟩) hs3).trans l1
   have hs4 := Nat.lt_of_lt_of_le hs3 hb4.size
   have hbr4 := nT hb3 hb4
   generalize (w3.alloc (.cells #[.int .u64 (lo : Int), .int .u64 (hi2 : Int)] 160)).alloc (.cells #[.int .u64 (W : Int), .int .u64 ((0 : Nat) : Int)] 160) = w4 at *
   clear k0 k1 l0 l1 hs3 hb3 hb4 AC
   cases B with
   | true =>
    have HR : Hid (decide (r ^ k ≤ W) = false) := by
     have h1 := HBB.out.1 rfl
     rw [HP2.out] at h1
     rw [Hid, decide_eq_false_iff_not]
     have hr0 : 0 < r := by
      rcases Nat.eq_zero_or_pos r with q | q
      ·rw [q, Nat.zero_pow (by omega)] at h1; omega
      ·exact q
     have h2 : r ^ (i + 1 + 1) ≤ r ^ k := Nat.pow_le_pow_right hr0 (by omega)
     omega
    clear HBB
    go_wp2_with fail
    go_ret
    exact ⟨nret_bool HR.out.symm, hbr4⟩
   | false =>
    have h1 : ¬ W < P * r := fun q => by have := HBB.out.2 q; cases this
    have hh : hi2 = 0 := by have := HM.out; omega
    subst hh
    have hl : lo = P * r := by have := HM.out; omega
    have HLW : Hid (lo ≤ W) := by rw [Hid]; omega
    have HLP : Hid (lo = r ^ (i + 1 + 1)) := by rw [Hid, hl]; exact HP2.out
    clear HBB h1 hl HM HP2 HP HW
    go_wp2_with fail
    refine ⟨⟨i + 1, lo, by omega, by go_num, hlo, HLP, Or.inr HLW.out, ⟨m0, m1, n0, n1, hs4⟩, hbr4⟩, by simp [intOf]; omega⟩
  ·have HR : Hid (decide (r ^ k ≤ W) = true) := by
    rw [Hid, decide_eq_true_eq]
    have h1 := HP.out
    have h2 := HW.out
    rw [show i + 1 = k by omega] at h1
    rw [← h1]
    rcases h2 with q | q
    ·omega
    ·exact q
   go_wp2_with fail
   go_ret
   exact ⟨nret_bool HR.out.symm, hbr⟩
theorem rt_small {k W : Nat} (hk : k = 2 ∨ k = 3) (hW : W < 18446744073709551616) : rt k W < 4294967296 := by
 have h1 := (rt_spec k W (by omega)).1
 rcases Nat.lt_or_ge (rt k W) 4294967296 with q | q
 ·exact q
 ·exfalso
  have h2 := Nat.pow_le_pow_left q k
  rcases hk with rfl | rfl
  ·have : (4294967296 : Nat) ^ 2 = 18446744073709551616 := by decide
   omega
  ·have : 18446744073709551616 ≤ (4294967296 : Nat) ^ 3 := by decide
   omega
theorem wrap_pow (j : Nat) (hj : j < 64) : IntKind.u64.wrap (2 ^ j) = ((2 ^ j : Nat) : Int) := by
 have h : 2 ^ j < 2 ^ 64 := Nat.pow_lt_pow_right (by decide) hj
 have e : ((2 : Int) ^ j) = ((2 ^ j : Nat) : Int) := by rw [Int.natCast_pow]; rfl
 rw [e, IntKind.wrap_u64]
 have h64 : (2 : Nat) ^ 64 = 18446744073709551616 := by decide
 generalize 2 ^ j = p at h ⊢
 omega
theorem bits_or_high (r j : Nat) (hr : r < 4294967296) (hj : j < 32) (h : 2 ^ (j + 1) ∣ r) : bits BinOp.or IntKind.u64 (r : Int) ((2 ^ j : Nat) : Int) = ((r + 2 ^ j : Nat) : Int) := by
 have hp : 2 ^ j ≤ 2 ^ 31 := Nat.pow_le_pow_right (by decide) (by omega)
 have e31 : (2 : Nat) ^ 31 = 2147483648 := by decide
 have h1 : (BitVec.ofInt 64 (r : Int)).toNat = r := by
  rw [BitVec.ofInt_natCast, BitVec.toNat_ofNat]; exact Nat.mod_eq_of_lt (by omega)
 have h2 : (BitVec.ofInt 64 ((2 ^ j : Nat) : Int)).toNat = 2 ^ j := by
  rw [BitVec.ofInt_natCast, BitVec.toNat_ofNat]; exact Nat.mod_eq_of_lt (by omega)
 show IntKind.u64.wrap ((BitVec.ofInt 64 (r : Int) ||| BitVec.ofInt 64 ((2 ^ j : Nat) : Int)).toNat : Int) = _
 rw [BitVec.toNat_or, h1, h2, or_high r j h, IntKind.wrap_u64]
 omega
set_option maxRecDepth 100000 in
set_option maxHeartbeats 4000000 in
theorem wordRoot2_calls (W : Nat) (w : World) (hW : W < 18446744073709551616) :
  Calls Tryz.prog 117 #[.int .u64 (W : Int), .int .i64 2] w fun e w' => e = .returned (.int .u64 ((rt 2 W : Nat) : Int)) ∧ Below w.heap.size w w' := by
 have HS : Hid (∀ r j, RtInv 2 W r j → r < 4294967296) := fun r j q => Nat.lt_of_le_of_lt (q.le (by decide)) (rt_small (by decide) hW)
 have H0 : Hid (RtInv 2 W 0 32) := rt_start (by decide) (Nat.lt_of_lt_of_le hW (by decide))
 go_enter Tryz.func117, Tryz.ntmps117
 go_wp2_with fail
 go_loopw [5, 15] (fun vr vi wr => ∃ (i r : Nat), i ≤ 32 ∧ vi = .int .i64 i ∧ vr = .int .u64 r ∧ Hid (RtInv 2 W r (32 - i)) ∧ Below w.heap.size w wr) (fun _ vi _ => 32 - (intOf vi).toNat)
 case atStart => exact ⟨0, 0, by omega, rfl, rfl, H0, Below.refl _ _⟩
 case round =>
  obtain ⟨i, r, hi, rfl, rfl, HR, hbr⟩ := hrel
  clear H0
  by_cases hlt : i < 32
  ·obtain ⟨j, hj⟩ : ∃ j, 32 - i = j + 1 := ⟨32 - i - 1, by omega⟩
   have hrs := HS.out r _ HR.out
   rw [hj] at HR
   have hp : 2 ^ j ≤ 2 ^ 31 := Nat.pow_le_pow_right (by decide) (by omega)
   have e31 : (2 : Nat) ^ 31 = 2147483648 := by decide
   have ho := bits_or_high r j hrs (by omega) HR.out.1
   have q1 : (32 : Int) - 1 - (i : Int) = (j : Int) := by omega
   have PC : Hid _ := powerAtMost_calls (r + 2 ^ j) 2 W wr (by omega) hW (by decide) (by decide)
   have HY : Hid ((r + 2 ^ j) ^ 2 ≤ W → RtInv 2 W (r + 2 ^ j) j) := rt_yes HR.out
   have HN : Hid (¬ (r + 2 ^ j) ^ 2 ≤ W → RtInv 2 W r j) := rt_no HR.out
   have HJ : Hid (32 - (i + 1) = j) := by rw [Hid]; omega
   have hz : (32 : Int) - 1 - (i : Int) < 64 := by omega
   have hz0 : (0 : Int) ≤ 32 - 1 - (i : Int) := by omega
   have hjj : j < 64 := by omega
   have s2 : IntKind.u64.wrap (2 ^ (31 - i)) = ((2 ^ j : Nat) : Int) := by rw [show 31 - i = j by omega]; exact wrap_pow j (by omega)
   obtain ⟨B, hB⟩ : ∃ B, B = decide ((r + 2 ^ j) ^ 2 ≤ W) := ⟨_, rfl⟩
   rw [← hB] at PC
   have HB : Hid (B = decide ((r + 2 ^ j) ^ 2 ≤ W)) := hB
   obtain ⟨m, hm⟩ : ∃ m, m = r + 2 ^ j := ⟨_, rfl⟩
   have hm2 : m ≤ 18446744073709551615 := by omega
   rw [← hm] at PC ho
   have HM : Hid (m = r + 2 ^ j) := hm
   generalize ((2 ^ j : Nat) : Int) = pj at *
   clear hp e31 hB hm HR
   go_wp2_with fail
   refine Calls.mono PC.out ?_
   rintro e w2 ⟨rfl, b2⟩
   have b3 := nT hbr b2
   cases B with
   | true =>
    have h1 := HY.out (of_decide_eq_true HB.out.symm)
    rw [← HM.out] at h1
    have HH : Hid (RtInv 2 W m (32 - (i + 1))) := by rw [Hid, HJ.out]; exact h1
    clear h1 HB
    go_wp2_with fail
    refine ⟨⟨i + 1, m, by omega, by go_num, rfl, HH, b3⟩, by simp [intOf]; omega⟩
   | false =>
    have h1 := HN.out (of_decide_eq_false HB.out.symm)
    have HH : Hid (RtInv 2 W r (32 - (i + 1))) := by rw [Hid, HJ.out]; exact h1
    clear h1 HB
    go_wp2_with fail
    refine ⟨⟨i + 1, r, by omega, by go_num, rfl, HH, b3⟩, by simp [intOf]; omega⟩
  ·have HE : Hid (r = rt 2 W) := rt_end (by decide) (by have := HR.out; rwa [show 32 - i = 0 by omega] at this)
   go_wp2_with fail
   go_ret
   exact ⟨nret_int (by rw [HE.out]), hbr⟩
set_option maxRecDepth 100000 in
set_option maxHeartbeats 4000000 in
theorem wordRoot3_calls (W : Nat) (w : World) (hW : W < 18446744073709551616) :
  Calls Tryz.prog 117 #[.int .u64 (W : Int), .int .i64 3] w fun e w' => e = .returned (.int .u64 ((rt 3 W : Nat) : Int)) ∧ Below w.heap.size w w' := by
 have HS : Hid (∀ r j, RtInv 3 W r j → r < 4294967296) := fun r j q => Nat.lt_of_le_of_lt (q.le (by decide)) (rt_small (by decide) hW)
 have H0 : Hid (RtInv 3 W 0 22) := rt_start (by decide) (Nat.lt_of_lt_of_le hW (by decide))
 go_enter Tryz.func117, Tryz.ntmps117
 go_wp2_with fail
 go_loopw [5, 15] (fun vr vi wr => ∃ (i r : Nat), i ≤ 22 ∧ vi = .int .i64 i ∧ vr = .int .u64 r ∧ Hid (RtInv 3 W r (22 - i)) ∧ Below w.heap.size w wr) (fun _ vi _ => 22 - (intOf vi).toNat)
 case atStart => exact ⟨0, 0, by omega, rfl, rfl, H0, Below.refl _ _⟩
 case round =>
  obtain ⟨i, r, hi, rfl, rfl, HR, hbr⟩ := hrel
  clear H0
  by_cases hlt : i < 22
  ·obtain ⟨j, hj⟩ : ∃ j, 22 - i = j + 1 := ⟨22 - i - 1, by omega⟩
   have hrs := HS.out r _ HR.out
   rw [hj] at HR
   have hp : 2 ^ j ≤ 2 ^ 31 := Nat.pow_le_pow_right (by decide) (by omega)
   have e31 : (2 : Nat) ^ 31 = 2147483648 := by decide
   have ho := bits_or_high r j hrs (by omega) HR.out.1
   have q1 : (22 : Int) - 1 - (i : Int) = (j : Int) := by omega
   have PC : Hid _ := powerAtMost_calls (r + 2 ^ j) 3 W wr (by omega) hW (by decide) (by decide)
   have HY : Hid ((r + 2 ^ j) ^ 3 ≤ W → RtInv 3 W (r + 2 ^ j) j) := rt_yes HR.out
   have HN : Hid (¬ (r + 2 ^ j) ^ 3 ≤ W → RtInv 3 W r j) := rt_no HR.out
   have HJ : Hid (22 - (i + 1) = j) := by rw [Hid]; omega
   have hz : (22 : Int) - 1 - (i : Int) < 64 := by omega
   have hz0 : (0 : Int) ≤ 22 - 1 - (i : Int) := by omega
   have hjj : j < 64 := by omega
   have s2 : IntKind.u64.wrap (2 ^ (21 - i)) = ((2 ^ j : Nat) : Int) := by rw [show 21 - i = j by omega]; exact wrap_pow j (by omega)
   obtain ⟨B, hB⟩ : ∃ B, B = decide ((r + 2 ^ j) ^ 3 ≤ W) := ⟨_, rfl⟩
   rw [← hB] at PC
   have HB : Hid (B = decide ((r + 2 ^ j) ^ 3 ≤ W)) := hB
   obtain ⟨m, hm⟩ : ∃ m, m = r + 2 ^ j := ⟨_, rfl⟩
   have hm2 : m ≤ 18446744073709551615 := by omega
   rw [← hm] at PC ho
   have HM : Hid (m = r + 2 ^ j) := hm
   generalize ((2 ^ j : Nat) : Int) = pj at *
   clear hp e31 hB hm HR
   go_wp2_with fail
   refine Calls.mono PC.out ?_
   rintro e w2 ⟨rfl, b2⟩
   have b3 := nT hbr b2
   cases B with
   | true =>
    have h1 := HY.out (of_decide_eq_true HB.out.symm)
    rw [← HM.out] at h1
    have HH : Hid (RtInv 3 W m (22 - (i + 1))) := by rw [Hid, HJ.out]; exact h1
    clear h1 HB
    go_wp2_with fail
    refine ⟨⟨i + 1, m, by omega, by go_num, rfl, HH, b3⟩, by simp [intOf]; omega⟩
   | false =>
    have h1 := HN.out (of_decide_eq_false HB.out.symm)
    have HH : Hid (RtInv 3 W r (22 - (i + 1))) := by rw [Hid, HJ.out]; exact h1
    clear h1 HB
    go_wp2_with fail
    refine ⟨⟨i + 1, r, by omega, by go_num, rfl, HH, b3⟩, by simp [intOf]; omega⟩
  ·have HE : Hid (r = rt 3 W) := rt_end (by decide) (by have := HR.out; rwa [show 22 - i = 0 by omega] at this)
   go_wp2_with fail
   go_ret
   exact ⟨nret_int (by rw [HE.out]), hbr⟩
end Go.Proofs.YtionhpedghmecaaGreatDoor

namespace Go.Proofs.YtionhpedghmecaaGreatDoor
open Go.RowKit
theorem words_low (v : Nat) (h : v < 18446744073709551616) : (wordsOf v).getD 0 0 = (v : Int) := by
 have e := words_get v 0
 have := (words_U v).get 0
 rw [Nat.pow_zero, Nat.div_one, Nat.mod_eq_of_lt h] at e
 omega
theorem many_words {v : Nat} (h : 1 < (wordsOf v).length) : ¬ v < 18446744073709551616 := fun q => by
 have := (words_len 1 v).2 (by simpa using q)
 omega
theorem one_word {v : Nat} (h : (wordsOf v).length ≤ 1) : v < 18446744073709551616 := by simpa using (words_len 1 v).1 h
theorem words_small (x : Nat) (h : x < 18446744073709551616) : (wordsOf x).length ≤ 1 := (words_len 1 x).2 (by simpa using h)
theorem words_fit {u v n : Nat} (h : v ≤ u) (hu : n = (wordsOf u).length) (hn : n ≤ 1024) : (wordsOf v).length ≤ 1024 := Nat.le_trans (words_mono h) (by omega)
theorem newt_le {k v x : Nat} (hk : 0 < k) (hx : x ≤ v) : newt k v x ≤ v := by
 unfold newt
 refine Nat.le_trans (Nat.div_le_div_right (c := k) (show (k - 1) * x + v / x ^ (k - 1) ≤ k * v from ?_)) (by rw [Nat.mul_div_cancel_left _ hk]; exact Nat.le_refl _)
 have h1 : (k - 1) * x ≤ (k - 1) * v := Nat.mul_le_mul_left _ hx
 have h2 := Nat.div_le_self v (x ^ (k - 1))
 have h3 : k * v = (k - 1) * v + v := by
  obtain ⟨m, rfl⟩ : ∃ m, k = m + 1 := ⟨k - 1, by omega⟩
  rw [Nat.add_sub_cancel, Nat.add_mul, Nat.one_mul]
 omega
theorem root_room2 {v x y : Nat} (hv : 18446744073709551616 ≤ v) (h2 : y ^ 2 ≤ v) (h3 : x ≤ 2 * y) : x ^ 1 ≤ v := by
 rw [Nat.pow_one]
 rcases Nat.lt_or_ge y 2 with q | q
 ·omega
 ·have : 2 * y ≤ y ^ 2 := by rw [Nat.pow_two]; exact Nat.mul_le_mul_right _ q
  omega
theorem root_room3 {v x y : Nat} (hv : 18446744073709551616 ≤ v) (h2 : y ^ 3 ≤ v) (h3 : x ≤ 2 * y) : x ^ 2 ≤ v := by
 have h4 : x ^ 2 ≤ 4 * (y * y) := by
  have := Nat.mul_le_mul h3 h3
  rw [Nat.pow_two]
  have e : 2 * y * (2 * y) = 4 * (y * y) := by rw [Nat.mul_mul_mul_comm]
  omega
 rcases Nat.lt_or_ge y 4 with q | q
 ·have : y * y ≤ 3 * 3 := Nat.mul_le_mul (by omega) (by omega)
  omega
 ·have : 4 * (y * y) ≤ y ^ 3 := by
   rw [Nat.pow_succ, Nat.pow_two, Nat.mul_comm]; exact Nat.mul_le_mul_left _ q
  omega
theorem start2 {v s p : Nat} (hv : 18446744073709551616 ≤ v) (hp : p = rt 2 (v / 2 ^ (s * 2))) (hp0 : 0 < p) : rt 2 v ≤ (p + 1) * 2 ^ s ∧ 0 < (p + 1) * 2 ^ s ∧ ((p + 1) * 2 ^ s) ^ 1 ≤ v := by
 refine ⟨rt_above (by decide) hp, Nat.mul_pos (by omega) (Nat.pow_pos (by decide)), ?_⟩
 have h1 := (rt_spec 2 (v / 2 ^ (s * 2)) (by decide)).1
 rw [← hp] at h1
 have h2 : (p * 2 ^ s) ^ 2 ≤ v := by
  rw [Nat.mul_pow, ← Nat.pow_mul]
  exact Nat.le_trans (Nat.mul_le_mul_right _ h1) (Nat.div_mul_le_self _ _)
 have h3 : (p + 1) * 2 ^ s ≤ 2 * (p * 2 ^ s) := by
  rw [← Nat.mul_assoc]; exact Nat.mul_le_mul_right _ (by omega)
 generalize (p + 1) * 2 ^ s = x at *
 generalize p * 2 ^ s = y at *
 exact root_room2 hv h2 h3
theorem start3 {v s p : Nat} (hv : 18446744073709551616 ≤ v) (hp : p = rt 3 (v / 2 ^ (s * 3))) (hp0 : 0 < p) : rt 3 v ≤ (p + 1) * 2 ^ s ∧ 0 < (p + 1) * 2 ^ s ∧ ((p + 1) * 2 ^ s) ^ 2 ≤ v := by
 refine ⟨rt_above (by decide) hp, Nat.mul_pos (by omega) (Nat.pow_pos (by decide)), ?_⟩
 have h1 := (rt_spec 3 (v / 2 ^ (s * 3)) (by decide)).1
 rw [← hp] at h1
 have h2 : (p * 2 ^ s) ^ 3 ≤ v := by
  rw [Nat.mul_pow, ← Nat.pow_mul]
  exact Nat.le_trans (Nat.mul_le_mul_right _ h1) (Nat.div_mul_le_self _ _)
 have h3 : (p + 1) * 2 ^ s ≤ 2 * (p * 2 ^ s) := by
  rw [← Nat.mul_assoc]; exact Nat.mul_le_mul_right _ (by omega)
 generalize (p + 1) * 2 ^ s = x at *
 generalize p * 2 ^ s = y at *
 exact root_room3 hv h2 h3
set_option maxRecDepth 100000 in
set_option maxHeartbeats 1000000 in
theorem newton2_calls (a b : Option Addr) (n m v x : Nat) (w : World) (hA : IsW w a n n (wordsOf v)) (hB : IsW w b m m (wordsOf x)) (hn : n ≤ 1024) (hm : m ≤ 1024) (hx : 0 < x) (hp : x ^ 1 ≤ v) :
  Calls Tryz.prog 142 #[.slice a n n, .slice b m m, .int .i64 2] w fun e w' => ∃ (ao : Option Addr) (c : Nat), e = .returned (.slice ao c c) ∧ c = (wordsOf (newt 2 v x)).length ∧ OwnW w.heap.size w' ao c c (wordsOf (newt 2 v x)) ∧ Below w.heap.size w w' := by
 have hpl : (wordsOf (x ^ 1)).length ≤ 1024 := words_fit hp hA.1 hn
 have HPL : Hid _ := hpl
 have HNW : Hid (newt 2 v x = (1 * x + v / x ^ 1) / 2) := rfl
 have PC : Hid _ := power_calls b m x 1 w hB (by omega) (by decide) (Nat.le_trans hpl (by decide))
 have OC : Hid _ := over_any v (x ^ 1) (Nat.pow_pos hx)
 clear hpl hp hx
 go_enter Tryz.func142, Tryz.ntmps142
 go_wp2_with fail
 refine Calls.mono PC.out ?_
 rintro e w1 ⟨a1, n1, rfl, hn1, hO1, b1⟩
 have hn1b : n1 ≤ 1024 := by rw [hn1]; exact HPL.out
 have OC1 : Hid _ := OC.out a a1 n n1 w1 (hA.keep b1) hO1.1 hn hn1b
 have hB1 := hB.keep b1
 clear PC OC hn1 hO1 hA hB
 go_wp2_with fail
 refine Calls.mono OC1.out ?_
 rintro e w2 ⟨a2, a3, n2, c2, n3, c3, M2, M3, rfl, hO2, hv2, hn2, hO3, hv3, hn3, b2⟩
 have HV2 : Hid (val M2 = v / x ^ 1) := hv2
 have hB2 := hB1.keep b2
 have b12 := nT b1 b2
 clear OC1 hO3 hv3 hn3 hv2 hB1
 go_wp2_with fail
 refine Calls.mono (word_calls 1 w2 (by decide) (by decide)) ?_
 rintro e w3 ⟨a4, n4, rfl, hn4, hO4, b3⟩
 have hn4b : n4 ≤ 1 := by rw [hn4]; exact words_small _ (by decide)
 have hB3 := hB2.keep b3
 have hO23 := hO2.keep b3
 have b13 := nT b12 b3
 clear hn4 hB2 hO2 b12
 go_wp2_with fail
 refine Calls.mono (times_calls b a4 m n4 _ _ w3 hB3 hO4.1 (by omega) (by omega)) ?_
 rintro e w4 ⟨a5, n5, M5, rfl, hO5, hv5, hn5, b4⟩
 rw [val_words, val_words] at hv5
 have HV5 : Hid (val M5 = x * 1) := hv5
 have hO24 := hO23.keep b4
 have b14 := nT b13 b4
 clear hv5 hB3 hO4 hO23 b13
 go_wp2_with fail
 refine Calls.mono (trimW_pack _ a5 n5 n5 M5 w4 hO5 (by omega)) ?_
 rintro e w4 ⟨a6, n6, rfl, hn6, hO6, rfl⟩
 have hn6b : n6 ≤ 2000 := by
  have := words_le M5 hO5.1.2.1
  have := hO5.1.1
  omega
 rw [HV5.out] at hO6
 clear hO5 hn6 HV5
 go_wp2_with fail
 refine Calls.mono (trimW_pack _ a2 n2 c2 M2 w4 hO24 (by omega)) ?_
 rintro e w4 ⟨a7, n7, rfl, hn7, hO7, rfl⟩
 have hn7b : n7 ≤ 4096 := by
  have := words_le M2 hO24.1.2.1
  have := hO24.1.1
  omega
 rw [HV2.out] at hO7
 clear hO24 hn7 HV2
 go_wp2_with fail
 refine Calls.mono (plus_calls a6 a7 n6 n7 _ _ w4 hO6.1 hO7.1 (by omega) (by omega)) ?_
 rintro e w5 ⟨a8, n8, M8, rfl, hO8, hv8, hn8, b5⟩
 rw [val_words, val_words] at hv8
 have HV8 : Hid (val M8 / 2 = newt 2 v x) := by rw [Hid, hv8, HNW.out, Nat.mul_comm x]
 have b15 := nT b14 b5
 obtain ⟨g, off, rfl, hgl, _⟩ := hO8.1.2.2.2 0 (by omega)
 have hgB := (hO8.2 g off 0 rfl (by omega)).1
 have DB : Hid _ := divideBy_calls w4.heap.size g off n8 n8 2 M8 w5 hO8 (by omega) (by decide) (by decide)
 rw [HV8.out] at DB
 have hs4 := b14.size
 have hs5 := b15.size
 have hn8b : n8 ≤ 5000 := by omega
 clear hv8 hO6 hO7 hO8 hn8
 go_wp2_with fail
 refine Calls.mono DB.out ?_
 rintro e w6 ⟨M9, rfl, hO9, hv9, hg9⟩
 have HV9 : Hid (val M9 = newt 2 v x) := hv9
 have b16 : Below w.heap.size w w6 := b15.grown hg9 hs5 (fun k e => by simp at e; omega)
 clear DB hv9 hg9 b15
 go_wp2_with fail
 refine Calls.mono (trimW_pack _ (some ⟨g, off, none⟩) n8 n8 M9 w6 hO9 (by omega)) ?_
 rintro e w6 ⟨a10, n10, rfl, hn10, hO10, rfl⟩
 rw [HV9.out] at hn10 hO10
 have HN10 : Hid _ := hn10
 clear hn10 hO9
 go_wp2_with fail
 go_ret
 exact ⟨a10, n10, rfl, HN10.out, hO10.low hs4, b16⟩
set_option maxRecDepth 100000 in
set_option maxHeartbeats 1000000 in
theorem newton3_calls (a b : Option Addr) (n m v x : Nat) (w : World) (hA : IsW w a n n (wordsOf v)) (hB : IsW w b m m (wordsOf x)) (hn : n ≤ 1024) (hm : m ≤ 1024) (hx : 0 < x) (hp : x ^ 2 ≤ v) :
  Calls Tryz.prog 142 #[.slice a n n, .slice b m m, .int .i64 3] w fun e w' => ∃ (ao : Option Addr) (c : Nat), e = .returned (.slice ao c c) ∧ c = (wordsOf (newt 3 v x)).length ∧ OwnW w.heap.size w' ao c c (wordsOf (newt 3 v x)) ∧ Below w.heap.size w w' := by
 have hpl : (wordsOf (x ^ 2)).length ≤ 1024 := words_fit hp hA.1 hn
 have HPL : Hid _ := hpl
 have HNW : Hid (newt 3 v x = (2 * x + v / x ^ 2) / 3) := rfl
 have PC : Hid _ := power_calls b m x 2 w hB (by omega) (by decide) (Nat.le_trans hpl (by decide))
 have OC : Hid _ := over_any v (x ^ 2) (Nat.pow_pos hx)
 clear hpl hp hx
 go_enter Tryz.func142, Tryz.ntmps142
 go_wp2_with fail
 refine Calls.mono PC.out ?_
 rintro e w1 ⟨a1, n1, rfl, hn1, hO1, b1⟩
 have hn1b : n1 ≤ 1024 := by rw [hn1]; exact HPL.out
 have OC1 : Hid _ := OC.out a a1 n n1 w1 (hA.keep b1) hO1.1 hn hn1b
 have hB1 := hB.keep b1
 clear PC OC hn1 hO1 hA hB
 go_wp2_with fail
 refine Calls.mono OC1.out ?_
 rintro e w2 ⟨a2, a3, n2, c2, n3, c3, M2, M3, rfl, hO2, hv2, hn2, hO3, hv3, hn3, b2⟩
 have HV2 : Hid (val M2 = v / x ^ 2) := hv2
 have hB2 := hB1.keep b2
 have b12 := nT b1 b2
 clear OC1 hO3 hv3 hn3 hv2 hB1
 go_wp2_with fail
 refine Calls.mono (word_calls 2 w2 (by decide) (by decide)) ?_
 rintro e w3 ⟨a4, n4, rfl, hn4, hO4, b3⟩
 have hn4b : n4 ≤ 1 := by rw [hn4]; exact words_small _ (by decide)
 have hB3 := hB2.keep b3
 have hO23 := hO2.keep b3
 have b13 := nT b12 b3
 clear hn4 hB2 hO2 b12
 go_wp2_with fail
 refine Calls.mono (times_calls b a4 m n4 _ _ w3 hB3 hO4.1 (by omega) (by omega)) ?_
 rintro e w4 ⟨a5, n5, M5, rfl, hO5, hv5, hn5, b4⟩
 rw [val_words, val_words] at hv5
 have HV5 : Hid (val M5 = x * 2) := hv5
 have hO24 := hO23.keep b4
 have b14 := nT b13 b4
 clear hv5 hB3 hO4 hO23 b13
 go_wp2_with fail
 refine Calls.mono (trimW_pack _ a5 n5 n5 M5 w4 hO5 (by omega)) ?_
 rintro e w4 ⟨a6, n6, rfl, hn6, hO6, rfl⟩
 have hn6b : n6 ≤ 2000 := by
  have := words_le M5 hO5.1.2.1
  have := hO5.1.1
  omega
 rw [HV5.out] at hO6
 clear hO5 hn6 HV5
 go_wp2_with fail
 refine Calls.mono (trimW_pack _ a2 n2 c2 M2 w4 hO24 (by omega)) ?_
 rintro e w4 ⟨a7, n7, rfl, hn7, hO7, rfl⟩
 have hn7b : n7 ≤ 4096 := by
  have := words_le M2 hO24.1.2.1
  have := hO24.1.1
  omega
 rw [HV2.out] at hO7
 clear hO24 hn7 HV2
 go_wp2_with fail
 refine Calls.mono (plus_calls a6 a7 n6 n7 _ _ w4 hO6.1 hO7.1 (by omega) (by omega)) ?_
 rintro e w5 ⟨a8, n8, M8, rfl, hO8, hv8, hn8, b5⟩
 rw [val_words, val_words] at hv8
 have HV8 : Hid (val M8 / 3 = newt 3 v x) := by rw [Hid, hv8, HNW.out, Nat.mul_comm x]
 have b15 := nT b14 b5
 obtain ⟨g, off, rfl, hgl, _⟩ := hO8.1.2.2.2 0 (by omega)
 have hgB := (hO8.2 g off 0 rfl (by omega)).1
 have DB : Hid _ := divideBy_calls w4.heap.size g off n8 n8 3 M8 w5 hO8 (by omega) (by decide) (by decide)
 rw [HV8.out] at DB
 have hs4 := b14.size
 have hs5 := b15.size
 have hn8b : n8 ≤ 5000 := by omega
 clear hv8 hO6 hO7 hO8 hn8
 go_wp2_with fail
 refine Calls.mono DB.out ?_
 rintro e w6 ⟨M9, rfl, hO9, hv9, hg9⟩
 have HV9 : Hid (val M9 = newt 3 v x) := hv9
 have b16 : Below w.heap.size w w6 := b15.grown hg9 hs5 (fun k e => by simp at e; omega)
 clear DB hv9 hg9 b15
 go_wp2_with fail
 refine Calls.mono (trimW_pack _ (some ⟨g, off, none⟩) n8 n8 M9 w6 hO9 (by omega)) ?_
 rintro e w6 ⟨a10, n10, rfl, hn10, hO10, rfl⟩
 rw [HV9.out] at hn10 hO10
 have HN10 : Hid _ := hn10
 clear hn10 hO9
 go_wp2_with fail
 go_ret
 exact ⟨a10, n10, rfl, HN10.out, hO10.low hs4, b16⟩
set_option maxRecDepth 100000 in
set_option maxHeartbeats 1000000 in
theorem rootBelow2_calls (B : Nat) (a b : Option Addr) (n m v x : Nat) (w : World) (hA : IsW w a n n (wordsOf v)) (hB : OwnW B w b m m (wordsOf x)) (hBw : B ≤ w.heap.size) (hn : n ≤ 1024) (hm : m ≤ 1024) (hx : 0 < x) (hp : x ^ 1 ≤ v) (hr : rt 2 v ≤ x) :
  Calls Tryz.prog 119 #[.slice a n n, .slice b m m, .int .i64 2] w fun e w' => ∃ (ao : Option Addr) (c : Nat), e = .returned (.slice ao c c) ∧ c = (wordsOf (rt 2 v)).length ∧ OwnW B w' ao c c (wordsOf (rt 2 v)) ∧ Below w.heap.size w w' := by
 have HA : Hid (IsW w a n n (wordsOf v)) := hA
 have H0 : Hid (m = (wordsOf x).length ∧ OwnW B w b m m (wordsOf x) ∧ 0 < x ∧ x ^ 1 ≤ v ∧ rt 2 v ≤ x) := ⟨hB.1.1, hB, hx, hp, hr⟩
 have HV : Hid (0 < v) := Nat.lt_of_lt_of_le (Nat.pow_pos hx) hp
 clear hA hB hx hp hr
 go_enter Tryz.func119, Tryz.ntmps119
 go_wp2_with fail
 go_loopg [1] x (fun g va wr => ∃ (ad : Option Addr) (c : Nat), va = .slice ad c c ∧ c ≤ 1024 ∧ Hid (c = (wordsOf g).length) ∧ OwnW B wr ad c c (wordsOf g) ∧ Hid (0 < g ∧ g ^ 1 ≤ v ∧ rt 2 v ≤ g) ∧ Below w.heap.size w wr)
 case atStart => exact ⟨b, m, rfl, hm, H0.out.1, H0.out.2.1, H0.out.2.2, Below.refl _ _⟩
 case round =>
  clear H0
  obtain ⟨ad, c, rfl, hc, HC, hO, HI, hbr⟩ := hrel
  obtain ⟨i1, i2, i3⟩ := HI.out
  have NC : Hid _ := newton2_calls a ad n c v gk wr (HA.out.keep hbr) hO.1 hn hc i1 i2
  have HUP : Hid _ := newt_up (k := 2) (v := v) (by decide) i1 i3
  have HEND : Hid _ := newt_end (k := 2) (v := v) (by decide) i1 i3
  have HPOS : Hid _ := rt_pos (k := 2) (v := v) (by decide) HV.out
  obtain ⟨y, hy⟩ : ∃ y, y = newt 2 v gk := ⟨_, rfl⟩
  have HYV : Hid (y ≤ v) := by rw [Hid, hy]; exact newt_le (by decide) (Nat.le_trans (Nat.le_self_pow (by decide) _) i2)
  rw [← hy] at NC HUP HEND
  have hsz := hbr.size
  have HI2 : Hid (0 < gk ∧ gk ^ 1 ≤ v ∧ rt 2 v ≤ gk) := ⟨i1, i2, i3⟩
  clear hy i1 i2 i3 HI
  go_wp2_with fail
  refine Calls.mono NC.out ?_
  rintro e w2 ⟨a2, c2, rfl, hc2, hO2, b2⟩
  have HC2 : Hid (c2 = (wordsOf y).length) := hc2
  have hO3 := hO.keep b2
  have hbr2 := nT hbr b2
  by_cases hlt : y < gk
  ·have hc2b : c2 ≤ 1024 := by rw [hc2]; exact words_fit (Nat.le_of_lt hlt) HC.out hc
   have AC : Hid _ := against_calls a2 ad c2 c y gk w2 hO2.1 hO3.1 (by omega) (by omega)
   rw [show cmpN y gk = -1 by unfold cmpN; rw [if_pos hlt]] at AC
   clear NC hc2 hO
   go_wp2_with fail
   refine Calls.mono AC.out ?_
   rintro e w3 ⟨rfl, b3⟩
   have hO4 := hO2.keep b3
   have hbr3 := nT hbr2 b3
   clear AC hO2 hO3
   go_wp2_with fail
   go_roundg y
   case measure => exact hlt
   case rel =>
    obtain ⟨j1, j2, j3⟩ := HI2.out
    refine ⟨a2, c2, rfl, hc2b, HC2, hO4.low (by omega), ⟨Nat.lt_of_lt_of_le HPOS.out HUP.out, ?_, HUP.out⟩, hbr3⟩
    exact Nat.le_trans (Nat.pow_le_pow_left (Nat.le_of_lt hlt) _) j2
  ·have hge : gk ≤ y := by omega
   have HE : Hid (gk = rt 2 v) := HEND.out hge
   obtain ⟨N, hN⟩ : ∃ N, N = cmpN y gk := ⟨_, rfl⟩
   have hN0 : 0 ≤ N := by rw [hN]; unfold cmpN; rw [if_neg hlt]; split <;> omega
   have hc2b : c2 ≤ 1024 := by rw [hc2]; exact words_fit HYV.out HA.out.1 hn
   have AC : Hid _ := against_calls a2 ad c2 c y gk w2 hO2.1 hO3.1 (by omega) (by omega)
   rw [← hN] at AC
   rw [HE.out] at HC
   have HO3 : Hid (OwnW B w2 ad c c (wordsOf (rt 2 v))) := by rw [Hid, ← HE.out]; exact hO3
   clear NC hc2 hO hN HE hge hlt hO3 HI2 HEND HUP
   go_wp2_with fail
   refine Calls.mono AC.out ?_
   rintro e w3 ⟨rfl, b3⟩
   clear AC
   go_wp2_with fail
   go_ret
   exact ⟨ad, c, rfl, HC.out, HO3.out.keep b3, nT hbr2 b3⟩
set_option maxRecDepth 100000 in
set_option maxHeartbeats 1000000 in
theorem rootBelow3_calls (B : Nat) (a b : Option Addr) (n m v x : Nat) (w : World) (hA : IsW w a n n (wordsOf v)) (hB : OwnW B w b m m (wordsOf x)) (hBw : B ≤ w.heap.size) (hn : n ≤ 1024) (hm : m ≤ 1024) (hx : 0 < x) (hp : x ^ 2 ≤ v) (hr : rt 3 v ≤ x) :
  Calls Tryz.prog 119 #[.slice a n n, .slice b m m, .int .i64 3] w fun e w' => ∃ (ao : Option Addr) (c : Nat), e = .returned (.slice ao c c) ∧ c = (wordsOf (rt 3 v)).length ∧ OwnW B w' ao c c (wordsOf (rt 3 v)) ∧ Below w.heap.size w w' := by
 have HA : Hid (IsW w a n n (wordsOf v)) := hA
 have H0 : Hid (m = (wordsOf x).length ∧ OwnW B w b m m (wordsOf x) ∧ 0 < x ∧ x ^ 2 ≤ v ∧ rt 3 v ≤ x) := ⟨hB.1.1, hB, hx, hp, hr⟩
 have HV : Hid (0 < v) := Nat.lt_of_lt_of_le (Nat.pow_pos hx) hp
 clear hA hB hx hp hr
 go_enter Tryz.func119, Tryz.ntmps119
 go_wp2_with fail
 go_loopg [1] x (fun g va wr => ∃ (ad : Option Addr) (c : Nat), va = .slice ad c c ∧ c ≤ 1024 ∧ Hid (c = (wordsOf g).length) ∧ OwnW B wr ad c c (wordsOf g) ∧ Hid (0 < g ∧ g ^ 2 ≤ v ∧ rt 3 v ≤ g) ∧ Below w.heap.size w wr)
 case atStart => exact ⟨b, m, rfl, hm, H0.out.1, H0.out.2.1, H0.out.2.2, Below.refl _ _⟩
 case round =>
  clear H0
  obtain ⟨ad, c, rfl, hc, HC, hO, HI, hbr⟩ := hrel
  obtain ⟨i1, i2, i3⟩ := HI.out
  have NC : Hid _ := newton3_calls a ad n c v gk wr (HA.out.keep hbr) hO.1 hn hc i1 i2
  have HUP : Hid _ := newt_up (k := 3) (v := v) (by decide) i1 i3
  have HEND : Hid _ := newt_end (k := 3) (v := v) (by decide) i1 i3
  have HPOS : Hid _ := rt_pos (k := 3) (v := v) (by decide) HV.out
  obtain ⟨y, hy⟩ : ∃ y, y = newt 3 v gk := ⟨_, rfl⟩
  have HYV : Hid (y ≤ v) := by rw [Hid, hy]; exact newt_le (by decide) (Nat.le_trans (Nat.le_self_pow (by decide) _) i2)
  rw [← hy] at NC HUP HEND
  have hsz := hbr.size
  have HI2 : Hid (0 < gk ∧ gk ^ 2 ≤ v ∧ rt 3 v ≤ gk) := ⟨i1, i2, i3⟩
  clear hy i1 i2 i3 HI
  go_wp2_with fail
  refine Calls.mono NC.out ?_
  rintro e w2 ⟨a2, c2, rfl, hc2, hO2, b2⟩
  have HC2 : Hid (c2 = (wordsOf y).length) := hc2
  have hO3 := hO.keep b2
  have hbr2 := nT hbr b2
  by_cases hlt : y < gk
  ·have hc2b : c2 ≤ 1024 := by rw [hc2]; exact words_fit (Nat.le_of_lt hlt) HC.out hc
   have AC : Hid _ := against_calls a2 ad c2 c y gk w2 hO2.1 hO3.1 (by omega) (by omega)
   rw [show cmpN y gk = -1 by unfold cmpN; rw [if_pos hlt]] at AC
   clear NC hc2 hO
   go_wp2_with fail
   refine Calls.mono AC.out ?_
   rintro e w3 ⟨rfl, b3⟩
   have hO4 := hO2.keep b3
   have hbr3 := nT hbr2 b3
   clear AC hO2 hO3
   go_wp2_with fail
   go_roundg y
   case measure => exact hlt
   case rel =>
    obtain ⟨j1, j2, j3⟩ := HI2.out
    refine ⟨a2, c2, rfl, hc2b, HC2, hO4.low (by omega), ⟨Nat.lt_of_lt_of_le HPOS.out HUP.out, ?_, HUP.out⟩, hbr3⟩
    exact Nat.le_trans (Nat.pow_le_pow_left (Nat.le_of_lt hlt) _) j2
  ·have hge : gk ≤ y := by omega
   have HE : Hid (gk = rt 3 v) := HEND.out hge
   obtain ⟨N, hN⟩ : ∃ N, N = cmpN y gk := ⟨_, rfl⟩
   have hN0 : 0 ≤ N := by rw [hN]; unfold cmpN; rw [if_neg hlt]; split <;> omega
   have hc2b : c2 ≤ 1024 := by rw [hc2]; exact words_fit HYV.out HA.out.1 hn
   have AC : Hid _ := against_calls a2 ad c2 c y gk w2 hO2.1 hO3.1 (by omega) (by omega)
   rw [← hN] at AC
   rw [HE.out] at HC
   have HO3 : Hid (OwnW B w2 ad c c (wordsOf (rt 3 v))) := by rw [Hid, ← HE.out]; exact hO3
   clear NC hc2 hO hN HE hge hlt hO3 HI2 HEND HUP
   go_wp2_with fail
   refine Calls.mono AC.out ?_
   rintro e w3 ⟨rfl, b3⟩
   clear AC
   go_wp2_with fail
   go_ret
   exact ⟨ad, c, rfl, HC.out, HO3.out.keep b3, nT hbr2 b3⟩
set_option maxRecDepth 100000 in
set_option maxHeartbeats 1000000 in
theorem root2_calls (v : Nat) : ∀ (a : Option Addr) (n : Nat) (w : World), IsW w a n n (wordsOf v) → n ≤ 1024 →
  Calls Tryz.prog 89 #[.slice a n n, .int .i64 2] w fun e w' => ∃ (ao : Option Addr) (c : Nat), e = .returned (.slice ao c c) ∧ c = (wordsOf (rt 2 v)).length ∧ OwnW w.heap.size w' ao c c (wordsOf (rt 2 v)) ∧ Below w.heap.size w w' := by
 induction v using Nat.strongRecOn with
 | ind v ih =>
  intro a n w hA hn
  have HIH : Hid _ := ih
  have HN : Hid (n = (wordsOf v).length) := hA.1
  clear ih
  by_cases h1 : n ≤ 1
  ·have hv : v < 18446744073709551616 := one_word (by rw [← HN.out]; exact h1)
   have AC : Hid _ := at_calls a n n (wordsOf v) 0 w hA
   rw [words_low v hv] at AC
   have WC : Hid _ := wordRoot2_calls v w hv
   have hrs := rt_small (k := 2) (by decide) hv
   obtain ⟨r, hr⟩ : ∃ r, r = rt 2 v := ⟨_, rfl⟩
   rw [← hr] at WC hrs ⊢
   clear hr
   go_enter Tryz.func89, Tryz.ntmps89
   go_wp2_with fail
   refine Calls.mono AC.out ?_
   rintro e w ⟨rfl, rfl⟩
   go_wp2_with fail
   refine Calls.mono WC.out ?_
   rintro e w2 ⟨rfl, b2⟩
   clear AC WC
   go_wp2_with fail
   refine Calls.mono (word_calls (r : Int) w2 (by omega) (by omega)) ?_
   rintro e w3 ⟨a3, n3, rfl, hn3, hO3, b3⟩
   rw [Int.toNat_natCast] at hn3 hO3
   have HN3 : Hid _ := hn3
   clear hn3
   go_wp2_with fail
   go_ret
   exact ⟨a3, n3, rfl, HN3.out, hO3.low b2.size, nT b2 b3⟩
  ·have hv : ¬ v < 18446744073709551616 := many_words (by rw [← HN.out]; omega)
   have HVV : Hid (18446744073709551616 ≤ v) := by rw [Hid]; omega
   have hbl : blen v ≤ 65536 := by have := (words_len2 n v).1 (by rw [← HN.out]; exact Nat.le_refl _); omega
   have hbg : 64 < blen v := by
    rcases Nat.lt_or_ge 64 (blen v) with q | q
    ·exact q
    ·exact absurd ((blen_le v 64).1 q) (by have : (2 : Nat) ^ 64 = 18446744073709551616 := rfl; omega)
   have BC : Hid _ := bits_calls a n v w hA (by omega)
   obtain ⟨bl, hb⟩ : ∃ bl, bl = blen v := ⟨_, rfl⟩
   rw [← hb] at BC hbl hbg
   obtain ⟨s, hs⟩ : ∃ s, s = bl / 4 := ⟨_, rfl⟩
   have z1 : (bl : Int) / 4 = (s : Int) := by omega
   have z2 : (bl : Int).tdiv 4 = (s : Int) := by rw [Int.tdiv_eq_ediv_of_nonneg (by omega)]; omega
   have hsb : s ≤ 20000 := by omega
   have hs1 : 1 ≤ s := by omega
   have HS : Hid (s = blen v / 4) := by rw [Hid, ← hb]; exact hs
   clear hb hs hv
   obtain ⟨t, ht⟩ : ∃ t, t = s * 2 := ⟨_, rfl⟩
   have z3 : (s : Int) * 2 = (t : Int) := by omega
   have RC : Hid _ := right_calls a n t (wordsOf v) w hA hn (by omega)
   rw [val_words] at RC
   obtain ⟨u, hu⟩ : ∃ u, u = v / 2 ^ t := ⟨_, rfl⟩
   rw [← hu] at RC
   have huv : u < v := by
    rw [hu]
    have hv0 := HVV.out
    exact Nat.div_lt_self (by omega) (Nat.one_lt_pow (by omega) (by decide))
   have HRR : Hid (∀ p, p = rt 2 u → 0 < p → rt 2 v ≤ (p + 1) * 2 ^ s ∧ 0 < (p + 1) * 2 ^ s ∧ ((p + 1) * 2 ^ s) ^ 1 ≤ v) := fun p hp hp0 => by
    rw [hu, ht] at hp
    exact start2 HVV.out hp hp0
   have HU0 : Hid (0 < u) := by
    rw [Hid, hu]
    refine Nat.div_pos ?_ (Nat.pow_pos (by decide))
    have h2 := blen_ge v (by have := HVV.out; omega)
    refine Nat.le_trans (Nat.pow_le_pow_right (by decide) ?_) h2
    rw [ht, HS.out]; have := hbg; omega
   have HUV : Hid (u < v) := huv
   have htb : t ≤ 65536 := by omega
   clear ht hu huv
   go_enter Tryz.func89, Tryz.ntmps89
   go_wp2_with fail
   refine Calls.mono BC.out ?_
   rintro e w ⟨rfl, rfl⟩
   go_wp2_with fail
   refine Calls.mono RC.out ?_
   rintro e w2 ⟨a2, n2, M2, rfl, hO2, hv2, hn2, b2⟩
   have HV2 : Hid (val M2 = u) := hv2
   clear RC BC hv2 z1 z2 z3
   go_wp2_with fail
   refine Calls.mono (trimW_pack _ a2 n2 n2 M2 w2 hO2 (by omega)) ?_
   rintro e w2 ⟨a3, n3, rfl, hn3, hO3, rfl⟩
   rw [HV2.out] at hO3 hn3
   have hn3b : n3 ≤ 1024 := by rw [hn3]; exact words_fit (Nat.le_of_lt HUV.out) HN.out hn
   have IC : Hid _ := HIH.out u HUV.out a3 n3 w2 hO3.1 hn3b
   obtain ⟨p, hp⟩ : ∃ p, p = rt 2 u := ⟨_, rfl⟩
   rw [← hp] at IC
   have HP : Hid _ := HRR.out p hp (by rw [hp]; exact rt_pos (by decide) HU0.out)
   have HPU : Hid (p ≤ u) := by rw [Hid, hp]; exact rt_self (by decide)
   have HA2 : Hid (IsW w2 a n n (wordsOf v)) := hA.keep b2
   clear HIH hO2 hn3 HV2 hp HRR hA
   go_wp2_with fail
   refine Calls.mono IC.out ?_
   rintro e w4 ⟨a4, n4, rfl, hn4, hO4, b4⟩
   have hn4b : n4 ≤ 1024 := by rw [hn4]; exact Nat.le_trans (words_mono HPU.out) (words_fit (Nat.le_of_lt HUV.out) HN.out hn)
   have b24 := nT b2 b4
   have HA4 : Hid (IsW w4 a n n (wordsOf v)) := HA2.out.keep b4
   clear IC hn4 hO3 HA2
   go_wp2_with fail
   refine Calls.mono (word_calls 1 w4 (by decide) (by decide)) ?_
   rintro e w5 ⟨a5, n5, rfl, hn5, hO5, b5⟩
   have hn5b : n5 ≤ 1 := by rw [hn5]; exact words_small _ (by decide)
   have hO45 := hO4.keep b5
   have b25 := nT b24 b5
   clear hn5 hO4
   go_wp2_with fail
   refine Calls.mono (plus_calls a4 a5 n4 n5 _ _ w5 hO45.1 hO5.1 (by omega) (by omega)) ?_
   rintro e w6 ⟨a6, n6, M6, rfl, hO6, hv6, hn6, b6⟩
   rw [val_words, val_words] at hv6
   have HV6 : Hid (val M6 = p + 1) := hv6
   have b26 := nT b25 b6
   have HA6 : Hid (IsW w6 a n n (wordsOf v)) := (HA4.out.keep b5).keep b6
   have hn6b : n6 ≤ 1025 := by omega
   clear hv6 hO45 hO5 hn6 HA4
   go_wp2_with fail
   refine Calls.mono (trimW_pack _ a6 n6 n6 M6 w6 hO6 (by omega)) ?_
   rintro e w6 ⟨a7, n7, rfl, hn7, hO7, rfl⟩
   rw [HV6.out] at hO7 hn7
   have hn7b : n7 ≤ 1024 := by rw [hn7]; exact words_fit (Nat.le_trans (Nat.succ_le_succ HPU.out) HUV.out) HN.out hn
   clear hO6 hn7 HV6
   go_wp2_with fail
   refine Calls.mono (left_calls a7 n7 s _ w6 hO7.1 hn7b (by omega)) ?_
   rintro e w8 ⟨a8, n8, M8, rfl, hO8, hv8, hn8, b8⟩
   rw [val_words] at hv8
   have HV8 : Hid (val M8 = (p + 1) * 2 ^ s) := hv8
   have b28 := nT b26 b8
   have HA8 : Hid (IsW w8 a n n (wordsOf v)) := HA6.out.keep b8
   have hn8b : n8 ≤ 5000 := by omega
   have hs6 := b26.size
   clear hv8 hO7 HA6 hn8
   go_wp2_with fail
   refine Calls.mono (trimW_pack _ a8 n8 n8 M8 w8 hO8 (by omega)) ?_
   rintro e w8 ⟨a9, n9, rfl, hn9, hO9, rfl⟩
   rw [HV8.out] at hO9 hn9
   obtain ⟨p1, p2, p3⟩ := HP.out
   have hxv : (p + 1) * 2 ^ s ≤ v := Nat.le_trans (by exact Nat.le_self_pow (by decide) _) p3
   have hn9b : n9 ≤ 1024 := by rw [hn9]; exact words_fit hxv HN.out hn
   have RB : Hid _ := rootBelow2_calls _ a a9 n n9 v _ w8 HA8.out hO9 b8.size hn hn9b p2 p3 p1
   clear hO8 hn9 HV8 hO9 p1 p2 p3 hxv
   go_wp2_with fail
   refine Calls.mono RB.out ?_
   rintro e w10 ⟨a10, n10, rfl, hn10, hO10, b10⟩
   have HN10 : Hid _ := hn10
   clear RB hn10
   go_wp2_with fail
   go_ret
   exact ⟨a10, n10, rfl, HN10.out, hO10.low hs6, nT b28 b10⟩
set_option maxRecDepth 100000 in
set_option maxHeartbeats 1000000 in
theorem root3_calls (v : Nat) : ∀ (a : Option Addr) (n : Nat) (w : World), IsW w a n n (wordsOf v) → n ≤ 1024 →
  Calls Tryz.prog 89 #[.slice a n n, .int .i64 3] w fun e w' => ∃ (ao : Option Addr) (c : Nat), e = .returned (.slice ao c c) ∧ c = (wordsOf (rt 3 v)).length ∧ OwnW w.heap.size w' ao c c (wordsOf (rt 3 v)) ∧ Below w.heap.size w w' := by
 induction v using Nat.strongRecOn with
 | ind v ih =>
  intro a n w hA hn
  have HIH : Hid _ := ih
  have HN : Hid (n = (wordsOf v).length) := hA.1
  clear ih
  by_cases h1 : n ≤ 1
  ·have hv : v < 18446744073709551616 := one_word (by rw [← HN.out]; exact h1)
   have AC : Hid _ := at_calls a n n (wordsOf v) 0 w hA
   rw [words_low v hv] at AC
   have WC : Hid _ := wordRoot3_calls v w hv
   have hrs := rt_small (k := 3) (by decide) hv
   obtain ⟨r, hr⟩ : ∃ r, r = rt 3 v := ⟨_, rfl⟩
   rw [← hr] at WC hrs ⊢
   clear hr
   go_enter Tryz.func89, Tryz.ntmps89
   go_wp2_with fail
   refine Calls.mono AC.out ?_
   rintro e w ⟨rfl, rfl⟩
   go_wp2_with fail
   refine Calls.mono WC.out ?_
   rintro e w2 ⟨rfl, b2⟩
   clear AC WC
   go_wp2_with fail
   refine Calls.mono (word_calls (r : Int) w2 (by omega) (by omega)) ?_
   rintro e w3 ⟨a3, n3, rfl, hn3, hO3, b3⟩
   rw [Int.toNat_natCast] at hn3 hO3
   have HN3 : Hid _ := hn3
   clear hn3
   go_wp2_with fail
   go_ret
   exact ⟨a3, n3, rfl, HN3.out, hO3.low b2.size, nT b2 b3⟩
  ·have hv : ¬ v < 18446744073709551616 := many_words (by rw [← HN.out]; omega)
   have HVV : Hid (18446744073709551616 ≤ v) := by rw [Hid]; omega
   have hbl : blen v ≤ 65536 := by have := (words_len2 n v).1 (by rw [← HN.out]; exact Nat.le_refl _); omega
   have hbg : 64 < blen v := by
    rcases Nat.lt_or_ge 64 (blen v) with q | q
    ·exact q
    ·exact absurd ((blen_le v 64).1 q) (by have : (2 : Nat) ^ 64 = 18446744073709551616 := rfl; omega)
   have BC : Hid _ := bits_calls a n v w hA (by omega)
   obtain ⟨bl, hb⟩ : ∃ bl, bl = blen v := ⟨_, rfl⟩
   rw [← hb] at BC hbl hbg
   obtain ⟨s, hs⟩ : ∃ s, s = bl / 6 := ⟨_, rfl⟩
   have z1 : (bl : Int) / 6 = (s : Int) := by omega
   have z2 : (bl : Int).tdiv 6 = (s : Int) := by rw [Int.tdiv_eq_ediv_of_nonneg (by omega)]; omega
   have hsb : s ≤ 20000 := by omega
   have hs1 : 1 ≤ s := by omega
   have HS : Hid (s = blen v / 6) := by rw [Hid, ← hb]; exact hs
   clear hb hs hv
   obtain ⟨t, ht⟩ : ∃ t, t = s * 3 := ⟨_, rfl⟩
   have z3 : (s : Int) * 3 = (t : Int) := by omega
   have RC : Hid _ := right_calls a n t (wordsOf v) w hA hn (by omega)
   rw [val_words] at RC
   obtain ⟨u, hu⟩ : ∃ u, u = v / 2 ^ t := ⟨_, rfl⟩
   rw [← hu] at RC
   have huv : u < v := by
    rw [hu]
    have hv0 := HVV.out
    exact Nat.div_lt_self (by omega) (Nat.one_lt_pow (by omega) (by decide))
   have HRR : Hid (∀ p, p = rt 3 u → 0 < p → rt 3 v ≤ (p + 1) * 2 ^ s ∧ 0 < (p + 1) * 2 ^ s ∧ ((p + 1) * 2 ^ s) ^ 2 ≤ v) := fun p hp hp0 => by
    rw [hu, ht] at hp
    exact start3 HVV.out hp hp0
   have HU0 : Hid (0 < u) := by
    rw [Hid, hu]
    refine Nat.div_pos ?_ (Nat.pow_pos (by decide))
    have h2 := blen_ge v (by have := HVV.out; omega)
    refine Nat.le_trans (Nat.pow_le_pow_right (by decide) ?_) h2
    rw [ht, HS.out]; have := hbg; omega
   have HUV : Hid (u < v) := huv
   have htb : t ≤ 65536 := by omega
   clear ht hu huv
   go_enter Tryz.func89, Tryz.ntmps89
   go_wp2_with fail
   refine Calls.mono BC.out ?_
   rintro e w ⟨rfl, rfl⟩
   go_wp2_with fail
   refine Calls.mono RC.out ?_
   rintro e w2 ⟨a2, n2, M2, rfl, hO2, hv2, hn2, b2⟩
   have HV2 : Hid (val M2 = u) := hv2
   clear RC BC hv2 z1 z2 z3
   go_wp2_with fail
   refine Calls.mono (trimW_pack _ a2 n2 n2 M2 w2 hO2 (by omega)) ?_
   rintro e w2 ⟨a3, n3, rfl, hn3, hO3, rfl⟩
   rw [HV2.out] at hO3 hn3
   have hn3b : n3 ≤ 1024 := by rw [hn3]; exact words_fit (Nat.le_of_lt HUV.out) HN.out hn
   have IC : Hid _ := HIH.out u HUV.out a3 n3 w2 hO3.1 hn3b
   obtain ⟨p, hp⟩ : ∃ p, p = rt 3 u := ⟨_, rfl⟩
   rw [← hp] at IC
   have HP : Hid _ := HRR.out p hp (by rw [hp]; exact rt_pos (by decide) HU0.out)
   have HPU : Hid (p ≤ u) := by rw [Hid, hp]; exact rt_self (by decide)
   have HA2 : Hid (IsW w2 a n n (wordsOf v)) := hA.keep b2
   clear HIH hO2 hn3 HV2 hp HRR hA
   go_wp2_with fail
   refine Calls.mono IC.out ?_
   rintro e w4 ⟨a4, n4, rfl, hn4, hO4, b4⟩
   have hn4b : n4 ≤ 1024 := by rw [hn4]; exact Nat.le_trans (words_mono HPU.out) (words_fit (Nat.le_of_lt HUV.out) HN.out hn)
   have b24 := nT b2 b4
   have HA4 : Hid (IsW w4 a n n (wordsOf v)) := HA2.out.keep b4
   clear IC hn4 hO3 HA2
   go_wp2_with fail
   refine Calls.mono (word_calls 1 w4 (by decide) (by decide)) ?_
   rintro e w5 ⟨a5, n5, rfl, hn5, hO5, b5⟩
   have hn5b : n5 ≤ 1 := by rw [hn5]; exact words_small _ (by decide)
   have hO45 := hO4.keep b5
   have b25 := nT b24 b5
   clear hn5 hO4
   go_wp2_with fail
   refine Calls.mono (plus_calls a4 a5 n4 n5 _ _ w5 hO45.1 hO5.1 (by omega) (by omega)) ?_
   rintro e w6 ⟨a6, n6, M6, rfl, hO6, hv6, hn6, b6⟩
   rw [val_words, val_words] at hv6
   have HV6 : Hid (val M6 = p + 1) := hv6
   have b26 := nT b25 b6
   have HA6 : Hid (IsW w6 a n n (wordsOf v)) := (HA4.out.keep b5).keep b6
   have hn6b : n6 ≤ 1025 := by omega
   clear hv6 hO45 hO5 hn6 HA4
   go_wp2_with fail
   refine Calls.mono (trimW_pack _ a6 n6 n6 M6 w6 hO6 (by omega)) ?_
   rintro e w6 ⟨a7, n7, rfl, hn7, hO7, rfl⟩
   rw [HV6.out] at hO7 hn7
   have hn7b : n7 ≤ 1024 := by rw [hn7]; exact words_fit (Nat.le_trans (Nat.succ_le_succ HPU.out) HUV.out) HN.out hn
   clear hO6 hn7 HV6
   go_wp2_with fail
   refine Calls.mono (left_calls a7 n7 s _ w6 hO7.1 hn7b (by omega)) ?_
   rintro e w8 ⟨a8, n8, M8, rfl, hO8, hv8, hn8, b8⟩
   rw [val_words] at hv8
   have HV8 : Hid (val M8 = (p + 1) * 2 ^ s) := hv8
   have b28 := nT b26 b8
   have HA8 : Hid (IsW w8 a n n (wordsOf v)) := HA6.out.keep b8
   have hn8b : n8 ≤ 5000 := by omega
   have hs6 := b26.size
   clear hv8 hO7 HA6 hn8
   go_wp2_with fail
   refine Calls.mono (trimW_pack _ a8 n8 n8 M8 w8 hO8 (by omega)) ?_
   rintro e w8 ⟨a9, n9, rfl, hn9, hO9, rfl⟩
   rw [HV8.out] at hO9 hn9
   obtain ⟨p1, p2, p3⟩ := HP.out
   have hxv : (p + 1) * 2 ^ s ≤ v := Nat.le_trans (by exact Nat.le_self_pow (by decide) _) p3
   have hn9b : n9 ≤ 1024 := by rw [hn9]; exact words_fit hxv HN.out hn
   have RB : Hid _ := rootBelow3_calls _ a a9 n n9 v _ w8 HA8.out hO9 b8.size hn hn9b p2 p3 p1
   clear hO8 hn9 HV8 hO9 p1 p2 p3 hxv
   go_wp2_with fail
   refine Calls.mono RB.out ?_
   rintro e w10 ⟨a10, n10, rfl, hn10, hO10, b10⟩
   have HN10 : Hid _ := hn10
   clear RB hn10
   go_wp2_with fail
   go_ret
   exact ⟨a10, n10, rfl, HN10.out, hO10.low hs6, nT b28 b10⟩
def rtQ (k u : Nat) : Nat := if greatB u = true then 0 else rt k u
def rtM (k u : Nat) : Nat := if greatB u = true then 0 else u - rt k u ^ k
def rtE (u : Nat) : Int := if greatB u = true then 3 else 0
theorem rt_great {k u : Nat} (h : greatB u = true) : rtQ k u = 0 ∧ rtM k u = 0 ∧ rtE u = 3 := by unfold rtQ rtM rtE; rw [if_pos h, if_pos h, if_pos h]; exact ⟨rfl, rfl, rfl⟩
theorem rt_fit {k u : Nat} (h : greatB u = false) : rtQ k u = rt k u ∧ rtM k u = u - rt k u ^ k ∧ rtE u = 0 := by unfold rtQ rtM rtE; rw [if_neg (by rw [h]; decide), if_neg (by rw [h]; decide), if_neg (by rw [h]; decide)]; exact ⟨rfl, rfl, rfl⟩
theorem rt_lens {k u : Nat} (hk : 0 < k) : (wordsOf (rtQ k u)).length ≤ 1024 ∧ (wordsOf (rtM k u)).length ≤ 1024 := by
 cases h : greatB u with
 | true => rw [(rt_great h).1, (rt_great h).2.1, words_zero]; exact ⟨by simp, by simp⟩
 | false =>
  rw [(rt_fit h).1, (rt_fit h).2.1]
  exact ⟨(great_len _).1 (great_mono (rt_self hk) h), (great_len _).1 (great_mono (Nat.sub_le _ _) h)⟩
set_option maxRecDepth 100000 in
set_option maxHeartbeats 1000000 in
theorem rest2_calls (a : Option Addr) (len cap : Nat) (xs : List Int) (w : World) (h : IsW w a len cap xs) (hm : len ≤ 17592186044416) :
  Calls Tryz.prog 53 #[.slice a len cap, .int .i64 2] w fun e w' => ∃ v v', e = .returned (.tuple #[v, v', .int .i64 (rtE (val xs))]) ∧ NatAt w.heap.size w' v (rtQ 2 (val xs)) ∧ NatAt w.heap.size w' v' (rtM 2 (val xs)) ∧ Below w.heap.size w w' := by
 have HT := trimN_pack a len cap xs w h hm
 go_enter Tryz.func53, Tryz.ntmps53
 go_wp2_with fail
 refine Calls.mono HT ?_
 rintro e w ⟨a1, n, rfl, hn, hI, rfl⟩
 have HN : Hid (n = (wordsOf (val xs)).length) := hn
 clear hn HT h hm
 go_wp2_with fail
 refine Calls.mono (great1_calls _ a1 n n _ (by go_simp)) ?_
 rintro e w1 ⟨rfl, rfl⟩
 by_cases hg : 1024 < n
 ·have HG : Hid _ := rt_great (k := 2) (great_of_len HN.out hg)
  go_wp2_with fail
  go_ret3
  rw [HG.out.1, HG.out.2.1, HG.out.2.2]
  exact ⟨_, _, rfl, natAt_nil _ _, natAt_nil _ _, below_one _ _⟩
 ·have hgr := fit_of_len HN.out hg
  have HG : Hid _ := rt_fit (k := 2) hgr
  have b1 := below_one w (.cells #[.slice a1 n n] 96)
  have hI1 := hI.keep b1
  generalize w.alloc (.cells #[.slice a1 n n] 96) = w1 at *
  have hn : n ≤ 1024 := by omega
  have RC : Hid _ := root2_calls (val xs) a1 n w1 hI1 hn
  have hs := (rt_spec 2 (val xs) (by decide)).1
  have hrv := rt_self (k := 2) (v := val xs) (by decide)
  obtain ⟨r, hr⟩ : ∃ r, r = rt 2 (val xs) := ⟨_, rfl⟩
  rw [← hr] at RC HG hs hrv
  have HGR : Hid (greatB r = false ∧ greatB (val xs - r ^ 2) = false ∧ (wordsOf r).length ≤ 1024 ∧ (wordsOf (r ^ 2)).length ≤ n ∧ r ^ 2 ≤ val xs) := ⟨great_mono hrv hgr, great_mono (Nat.sub_le _ _) hgr, (great_len _).1 (great_mono hrv hgr), by rw [HN.out]; exact words_mono hs, hs⟩
  clear hr hs hrv hgr hI
  go_wp2_with fail
  refine Calls.mono RC.out ?_
  rintro e w2 ⟨a2, n2, rfl, hn2, hO2, b2⟩
  have hn2b : n2 ≤ 1024 := by rw [hn2]; exact HGR.out.2.2.1
  have b12 := nT b1 b2
  have hI2 := hI1.keep b2
  have PC : Hid _ := power_calls a2 n2 r 2 w2 hO2.1 (by omega) (by decide) (by have := HGR.out.2.2.2.1; omega)
  clear RC hn2 hI1
  go_wp2_with fail
  refine Calls.mono PC.out ?_
  rintro e w3 ⟨a3, n3, rfl, hn3, hO3, b3⟩
  have hn3b : n3 ≤ n := by rw [hn3]; exact HGR.out.2.2.2.1
  have b13 := nT b12 b3
  have hI3 := hI2.keep b3
  have hO23 := hO2.keep b3
  clear PC hn3 hI2 hO2
  go_wp2_with fail
  refine Calls.mono (lessW_calls a1 a3 n n3 _ _ w3 hI3 hO3.1 (by omega) hn3b (by rw [val_words, val_words]; exact HGR.out.2.2.2.2)) ?_
  rintro e w4 ⟨a4, M4, rfl, hO4, hv4, b4⟩
  rw [val_words, val_words] at hv4
  have hO24 := hO23.keep b4
  have b14 := nT b13 b4
  have AC : Hid _ := answers_calls w.heap.size a2 a4 n2 n2 n n (wordsOf r) M4 w4 (hO24.low b1.size) (hO4.low b13.size) (by omega) (by omega) (by rw [val_words]; exact HGR.out.1) (by rw [hv4]; exact HGR.out.2.1)
  rw [val_words, hv4] at AC
  clear hv4 hI3 hO3 hO23 hO24 hO4
  go_wp2_with fail
  refine Calls.mono AC.out ?_
  rintro e w5 ⟨v1, v2, rfl, hA1, hA2, b5⟩
  clear AC
  go_wp2_with fail
  go_ret3
  rw [HG.out.1, HG.out.2.1, HG.out.2.2]
  exact ⟨v1, v2, rfl, hA1, hA2, nT b14 b5⟩
set_option maxHeartbeats 1000000 in
theorem sqrt_calls (a : Option Addr) (len cap : Nat) (xs : List Int) (w : World) (h : IsW w a len cap xs) (hm : len ≤ 17592186044416) :
  Calls Tryz.prog 60 #[.slice a len cap] w fun e w' => ∃ v v', e = .returned (.tuple #[v, v', .int .i64 (rtE (val xs))]) ∧ NatAt w.heap.size w' v (rtQ 2 (val xs)) ∧ NatAt w.heap.size w' v' (rtM 2 (val xs)) ∧ Below w.heap.size w w' := by
 have RC : Hid _ := rest2_calls a len cap xs w h hm
 clear h hm
 go_enter Tryz.func60, Tryz.ntmps60
 go_wp2_with fail
 refine Calls.mono RC.out ?_
 rintro e w1 ⟨v1, v2, rfl, hA1, hA2, b1⟩
 go_wp2_with fail
 go_ret3
 exact ⟨v1, v2, rfl, hA1, hA2, b1⟩
set_option maxRecDepth 100000 in
set_option maxHeartbeats 1000000 in
theorem rest3_calls (a : Option Addr) (len cap : Nat) (xs : List Int) (w : World) (h : IsW w a len cap xs) (hm : len ≤ 17592186044416) :
  Calls Tryz.prog 53 #[.slice a len cap, .int .i64 3] w fun e w' => ∃ v v', e = .returned (.tuple #[v, v', .int .i64 (rtE (val xs))]) ∧ NatAt w.heap.size w' v (rtQ 3 (val xs)) ∧ NatAt w.heap.size w' v' (rtM 3 (val xs)) ∧ Below w.heap.size w w' := by
 have HT := trimN_pack a len cap xs w h hm
 go_enter Tryz.func53, Tryz.ntmps53
 go_wp2_with fail
 refine Calls.mono HT ?_
 rintro e w ⟨a1, n, rfl, hn, hI, rfl⟩
 have HN : Hid (n = (wordsOf (val xs)).length) := hn
 clear hn HT h hm
 go_wp2_with fail
 refine Calls.mono (great1_calls _ a1 n n _ (by go_simp)) ?_
 rintro e w1 ⟨rfl, rfl⟩
 by_cases hg : 1024 < n
 ·have HG : Hid _ := rt_great (k := 3) (great_of_len HN.out hg)
  go_wp2_with fail
  go_ret3
  rw [HG.out.1, HG.out.2.1, HG.out.2.2]
  exact ⟨_, _, rfl, natAt_nil _ _, natAt_nil _ _, below_one _ _⟩
 ·have hgr := fit_of_len HN.out hg
  have HG : Hid _ := rt_fit (k := 3) hgr
  have b1 := below_one w (.cells #[.slice a1 n n] 96)
  have hI1 := hI.keep b1
  generalize w.alloc (.cells #[.slice a1 n n] 96) = w1 at *
  have hn : n ≤ 1024 := by omega
  have RC : Hid _ := root3_calls (val xs) a1 n w1 hI1 hn
  have hs := (rt_spec 3 (val xs) (by decide)).1
  have hrv := rt_self (k := 3) (v := val xs) (by decide)
  obtain ⟨r, hr⟩ : ∃ r, r = rt 3 (val xs) := ⟨_, rfl⟩
  rw [← hr] at RC HG hs hrv
  have HGR : Hid (greatB r = false ∧ greatB (val xs - r ^ 3) = false ∧ (wordsOf r).length ≤ 1024 ∧ (wordsOf (r ^ 3)).length ≤ n ∧ r ^ 3 ≤ val xs) := ⟨great_mono hrv hgr, great_mono (Nat.sub_le _ _) hgr, (great_len _).1 (great_mono hrv hgr), by rw [HN.out]; exact words_mono hs, hs⟩
  clear hr hs hrv hgr hI
  go_wp2_with fail
  refine Calls.mono RC.out ?_
  rintro e w2 ⟨a2, n2, rfl, hn2, hO2, b2⟩
  have hn2b : n2 ≤ 1024 := by rw [hn2]; exact HGR.out.2.2.1
  have b12 := nT b1 b2
  have hI2 := hI1.keep b2
  have PC : Hid _ := power_calls a2 n2 r 3 w2 hO2.1 (by omega) (by decide) (by have := HGR.out.2.2.2.1; omega)
  clear RC hn2 hI1
  go_wp2_with fail
  refine Calls.mono PC.out ?_
  rintro e w3 ⟨a3, n3, rfl, hn3, hO3, b3⟩
  have hn3b : n3 ≤ n := by rw [hn3]; exact HGR.out.2.2.2.1
  have b13 := nT b12 b3
  have hI3 := hI2.keep b3
  have hO23 := hO2.keep b3
  clear PC hn3 hI2 hO2
  go_wp2_with fail
  refine Calls.mono (lessW_calls a1 a3 n n3 _ _ w3 hI3 hO3.1 (by omega) hn3b (by rw [val_words, val_words]; exact HGR.out.2.2.2.2)) ?_
  rintro e w4 ⟨a4, M4, rfl, hO4, hv4, b4⟩
  rw [val_words, val_words] at hv4
  have hO24 := hO23.keep b4
  have b14 := nT b13 b4
  have AC : Hid _ := answers_calls w.heap.size a2 a4 n2 n2 n n (wordsOf r) M4 w4 (hO24.low b1.size) (hO4.low b13.size) (by omega) (by omega) (by rw [val_words]; exact HGR.out.1) (by rw [hv4]; exact HGR.out.2.1)
  rw [val_words, hv4] at AC
  clear hv4 hI3 hO3 hO23 hO24 hO4
  go_wp2_with fail
  refine Calls.mono AC.out ?_
  rintro e w5 ⟨v1, v2, rfl, hA1, hA2, b5⟩
  clear AC
  go_wp2_with fail
  go_ret3
  rw [HG.out.1, HG.out.2.1, HG.out.2.2]
  exact ⟨v1, v2, rfl, hA1, hA2, nT b14 b5⟩
set_option maxHeartbeats 1000000 in
theorem cbrt_calls (a : Option Addr) (len cap : Nat) (xs : List Int) (w : World) (h : IsW w a len cap xs) (hm : len ≤ 17592186044416) :
  Calls Tryz.prog 26 #[.slice a len cap] w fun e w' => ∃ v v', e = .returned (.tuple #[v, v', .int .i64 (rtE (val xs))]) ∧ NatAt w.heap.size w' v (rtQ 3 (val xs)) ∧ NatAt w.heap.size w' v' (rtM 3 (val xs)) ∧ Below w.heap.size w w' := by
 have RC : Hid _ := rest3_calls a len cap xs w h hm
 clear h hm
 go_enter Tryz.func26, Tryz.ntmps26
 go_wp2_with fail
 refine Calls.mono RC.out ?_
 rintro e w1 ⟨v1, v2, rfl, hA1, hA2, b1⟩
 go_wp2_with fail
 go_ret3
 exact ⟨v1, v2, rfl, hA1, hA2, b1⟩
end Go.Proofs.YtionhpedghmecaaGreatDoor
