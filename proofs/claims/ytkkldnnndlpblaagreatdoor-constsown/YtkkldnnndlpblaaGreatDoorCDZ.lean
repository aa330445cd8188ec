/- The document's decimal digits. The walk of ConstsTold. -/
import Derived.Test.YtkkldnnndlpblaaGreatDoorCD5
import Derived.Test.YtkkldnnndlpblaaGreatDoorCFZ
import Derived.Test.YtkkldnnndlpblaaGreatDoorTMG

namespace Go.Proofs.YtkkldnnndlpblaaGreatDoor
open Go.RowKit Ck

def sLen : Value → Nat
  | .string s => s.size
  | _ => 0

theorem rep_cons (i : Nat) (l : List UInt8) : [48] ++ (List.replicate i 48 ++ l) = List.replicate (i + 1) 48 ++ l := rfl

set_option maxRecDepth 100000 in
set_option maxHeartbeats 4000000 in
theorem docDigits_calls (K N : Nat) (g1 : 1 ≤ K) (g2 : K ≤ 7) (g3 : 1 ≤ N) (g4 : N ≤ 500) (w : World) :
    Calls Tryz.prog 19 #[.int .u8 (K : Int), .int .i64 (N : Int)] w fun r w' => ∃ (S : ByteArray) (b : Bool), r = .returned (.tuple #[.string S, .bool b]) ∧ Hid (S.data.toList = dgT N (gA K (4 * N + 96) * 10 ^ N / 2 ^ (4 * N + 96))) ∧ Hid (b = true ↔ gA K (4 * N + 96) * 10 ^ N / 2 ^ (4 * N + 96) = (gA K (4 * N + 96) + gE K (4 * N + 96)) * 10 ^ N / 2 ^ (4 * N + 96)) ∧ Below w.heap.size w w' := by
  obtain ⟨q, hq⟩ : ∃ q, q = 4 * N + 96 := ⟨_, rfl⟩
  obtain ⟨z1, z2⟩ := g_size K q g1 g2 (by omega) (by omega)
  have h10 : 10 ^ N < 2 ^ (4 * N) := by
    rw [Nat.pow_mul]
    exact Nat.pow_lt_pow_left (by decide) (by omega)
  have gP : greatB ((gA K q + gE K q) * 10 ^ N) = false := by
    refine cf_great (k := q + 12 + 4 * N) ?_ (by omega)
    rw [Nat.pow_add]
    exact Nat.lt_of_le_of_lt (Nat.mul_le_mul_right _ z1) (Nat.mul_lt_mul_of_pos_left h10 (Nat.pow_pos (by decide)))
  have g10 : 0 < 10 ^ N := Nat.pow_pos (by decide)
  have gH : greatB (gA K q + gE K q) = false := great_mono (Nat.le_mul_of_pos_right _ g10) gP
  have gL : greatB (gA K q * 10 ^ N) = false := great_mono (Nat.mul_le_mul_right _ (Nat.le_add_right _ _)) gP
  have gQ : greatB (gA K q * 10 ^ N / 2 ^ q) = false := great_mono (Nat.div_le_self _ _) gL
  have z3 : gE K q ≤ 18446744073709551615 := Nat.le_trans z2 (by decide)
  have GG : Hid (greatB ((gA K q + gE K q) * 10 ^ N) = false ∧ greatB (gA K q + gE K q) = false ∧ greatB (gA K q * 10 ^ N) = false ∧ greatB (gA K q * 10 ^ N / 2 ^ q) = false ∧ gE K q ≤ 18446744073709551615) := ⟨gP, gH, gL, gQ, z3⟩
  have j0 : IntKind.i64.wrap (4 * (N : Int)) = 4 * (N : Int) := by rw [IntKind.wrap_i64]; omega
  have j1 : IntKind.i64.wrap (4 * (N : Int) + 96) = (q : Int) := by rw [IntKind.wrap_i64]; omega
  have w1 : IntKind.i64.wrap ((N : Int) + 1) = (N : Int) + 1 := by rw [IntKind.wrap_i64]; omega
  have hq1 : q ≤ 8300 := by omega
  have hq2 : 40 ≤ q := by omega
  rw [← hq]
  obtain ⟨Q, hQ⟩ : ∃ Q, Q = gA K q * 10 ^ N / 2 ^ q := ⟨_, rfl⟩
  have HQ : Hid (Q = gA K q * 10 ^ N / 2 ^ q) := hQ
  rw [← hQ]
  clear hQ
  have HC : Hid _ := docConst_calls K q g1 g2 hq1 hq2 w
  have hq3 : q ≤ 65536 := by omega
  clear z1 z2 z3 hq h10 gP gH gL gQ g10
  go_enter Tryz.func19, Tryz.ntmps19
  go_wp2_with fail
  refine Calls.mono HC.out ?_
  rintro r w1 ⟨a1, m1, c1, e1, rfl, he1, hm1, hO1, b1⟩
  have bL := below_alloc w1 (.cells #[.slice a1 m1 c1, .int .u64 (e1 : Int)] 74)
  have hX := hO1.1.keepB bL
  have y0 : (w1.alloc (.cells #[.slice a1 m1 c1, .int .u64 (e1 : Int)] 74)).cell? ⟨w1.heap.size, 0, none⟩ = some (.slice a1 m1 c1) := by go_simp
  have y1 : (w1.alloc (.cells #[.slice a1 m1 c1, .int .u64 (e1 : Int)] 74)).cell? ⟨w1.heap.size, 1, none⟩ = some (.int .u64 (e1 : Int)) := by go_simp
  have bV := below_trans b1 bL
  have BV : Hid _ := And.intro bV b1.size
  clear HC hO1 bL bV b1
  go_wp2_with fail
  generalize hR : w1.heap.size = R at *
  generalize w1.alloc (.cells #[.slice a1 m1 c1, .int .u64 (e1 : Int)] 74) = v at *
  refine Calls.mono (dOf_eq 10 rfl (by decide)) ?_
  rintro r w2 ⟨a2, m2, c2, rfl, hm2, hO2, b2⟩
  have PP : Hid _ := dPow_calls a2 m2 c2 (wordsOf 10) N w2 hO2.1 (by omega) (by rw [val_words]; exact (words_len 1 10).2 (by decide)) (by omega)
  rw [val_words] at PP
  clear hO2
  go_wp2_with fail
  refine Calls.mono PP.out ?_
  rintro r w3 ⟨a3, m3, c3, rfl, -, hm3, hO3, b3⟩
  clear PP
  have b23 := below_trans b2 b3
  have hX3 := hX.keepB b23
  have y03 := cKeep b23 y0
  have P4 : Hid _ := dMul_eq hX3 hO3.1 hm1 (by omega) GG.out.2.2.1
  clear b2 b3
  go_wp2_with fail
  refine Calls.mono P4.out ?_
  rintro r w4 ⟨a4, m4, c4, rfl, hm4, hO4, b4⟩
  have P5 : Hid _ := dShr_eq q hO4.1 hm4 hq3 GG.out.2.2.1
  have b24 := below_trans b23 b4
  clear P4 hO4 y03
  go_wp2_with fail
  refine Calls.mono P5.out ?_
  rintro r w5 ⟨a5, m5, c5, l5, rfl, hm5, hO5, b5⟩
  have b25 := below_trans b24 b5
  have y05 := cKeep b25 y0
  have y15 := cKeep b25 y1
  have P6 : Hid _ := fxHigh e1 w5 (hX.keepB b25) hm1 (by rw [he1.out]; exact GG.out.2.1) (by rw [he1.out]; exact GG.out.2.2.2.2)
  have hO3b := (hO3.keep b4).keep b5
  clear P5 hX3 hO3 b4 b5 b23 b24
  go_wp2_with fail
  refine Calls.mono P6.out ?_
  rintro r w6 ⟨a6, m6, c6, rfl, hm6, hO6, b6⟩
  rw [he1.out] at hO6
  have P7 : Hid _ := dMul_eq hO6.1 (hO3b.keep b6).1 hm6 (by omega) GG.out.1
  clear P6 y05 y15 hO6 hO3b
  go_wp2_with fail
  refine Calls.mono P7.out ?_
  rintro r w7 ⟨a7, m7, c7, rfl, hm7, hO7, b7⟩
  have P8 : Hid _ := dShr_eq q hO7.1 hm7 hq3 GG.out.1
  clear P7 hO7
  go_wp2_with fail
  refine Calls.mono P8.out ?_
  rintro r w8 ⟨a8, m8, c8, l8, rfl, hm8, hO8, b8⟩
  have b58 := below_trans (below_trans b6 b7) b8
  have hO5b := hO5.keep b58
  have gQ := GG.out.2.2.2.1
  rw [← HQ.out] at hO5b gQ
  obtain ⟨cc, hcc⟩ : ∃ cc : Int, cc = cmpN Q ((gA K q + gE K q) * 10 ^ N / 2 ^ q) := ⟨_, rfl⟩
  have hcz : cc = 0 ↔ Q = (gA K q + gE K q) * 10 ^ N / 2 ^ q := by rw [hcc]; exact cmp_zero _ _
  have HCZ : Hid _ := hcz
  have P9 : Hid _ := nText_calls a5 m5 c5 (wordsOf Q) w8 hO5b.1 (by omega) (by rw [val_words]; exact gQ)
  rw [val_words] at P9
  have hsz : Hid (Lib.nDigits Q ≤ 22000) := by
    obtain ⟨X, hX⟩ : ∃ X : Nat, X = 22000 := ⟨_, rfl⟩
    rw [← hX]
    refine nDigits_le X Q ?_ (by omega)
    have h1 := (blen_le Q 65536).1 ((great_not Q).1 gQ)
    obtain ⟨Y, hY⟩ : ∃ Y : Nat, Y = 65536 := ⟨_, rfl⟩
    rw [← hY] at h1
    refine Nat.lt_of_lt_of_le h1 (Nat.le_trans (Nat.pow_le_pow_right (by decide) (show Y ≤ 3 * X by omega)) ?_)
    rw [Nat.pow_mul]
    exact Nat.pow_le_pow_left (by decide) X
  have HB : Hid _ := And.intro b25 b58
  clear P8 hcz gQ b6 b7 b8 b25 b58 hO5 y0 y1 hX
  go_wp2_with fail
  refine Calls.mono P9.out ?_
  rintro r w9 ⟨rfl, b9⟩
  have HA : Hid (IsW w9 a5 m5 c5 (wordsOf Q)) := (hO5b.keep b9).1
  have HA2 : Hid (IsW w9 a8 m8 c8 _) := (hO8.keep b9).1
  have CX : Hid (∀ k, Calls Tryz.prog 53 #[.slice a5 m5 c5, .slice a8 m8 c8] (w9.drewN k) fun e w' => e = .returned (.int .i64 cc) ∧ w' = w9.drewN k) := fun k => by
    have bk := below_drewN (Below.refl w9.heap.size w9) k
    have := nCmp_calls a5 a8 m5 c5 m8 c8 _ _ (w9.drewN k) (HA.out.keepB bk) (HA2.out.keepB bk) (by omega) (by omega)
    rw [val_words, val_words, ← hcc] at this
    exact this
  clear P9 hO5b hO8 hcc
  obtain ⟨D, hD⟩ : ∃ D : ByteArray, D = ⟨(Lib.decDigits Q).toArray⟩ := ⟨_, rfl⟩
  rw [← hD]
  have hDs : D.size = Lib.nDigits Q := by rw [hD, ← Lib.decDigits_length]; rfl
  have hDl : D.data.toList = Lib.decDigits Q := by rw [hD]
  have HDS : Hid _ := hDs
  have HDL : Hid _ := hDl
  clear hD hDs hDl
  go_wp2_with fail
  go_loopw [13] (fun sv wr => ∃ (S : ByteArray) (i : Nat), sv = .string S ∧ Hid (S.data.toList = List.replicate i 48 ++ Lib.decDigits Q) ∧ Hid (S.size = i + Lib.nDigits Q) ∧ i ≤ N + 1 - Lib.nDigits Q ∧ wr = w9) (fun sv _ => N + 1 - sLen sv)
  case atStart => exact ⟨D, 0, rfl, HDL.out, (by show D.size = _; rw [HDS.out, Nat.zero_add]), Nat.zero_le _, rfl⟩
  case round =>
    obtain ⟨S, i, rfl, HS, HZ, hi, rfl⟩ := hrel
    by_cases hlt : S.size < N + 1
    · have hl2 : (S.size : Int) < (N : Int) + 1 := by omega
      go_wp2_with fail
      go_roundw
      case rel =>
        have := HZ.out
        refine ⟨_, i + 1, rfl, ?_, ?_, by omega, trivial⟩
        · show _ = _
          rw [ba_app, HS.out]
          exact rep_cons i _
        · show _ = _
          rw [ByteArray.size_append, HZ.out]
          show 1 + _ = _
          omega
      case measure =>
        simp only [sLen]
        rw [ByteArray.size_append]
        show N + 1 - (1 + S.size) < _
        omega
    · have hl2 : ¬ (S.size : Int) < (N : Int) + 1 := by omega
      have hiE : i = N + 1 - Lib.nDigits Q := by have := HZ.out; omega
      obtain ⟨P, hP⟩ : ∃ P : Nat, P = S.size - N := ⟨_, rfl⟩
      have hsl : S.size ≤ 30000 := by have := HZ.out; have := hsz.out; omega
      have hPi : IntKind.i64.wrap ((S.size : Int) - (N : Int)) = (P : Int) := by rw [IntKind.wrap_i64]; omega
      have hPA : P ≤ S.size := by omega
      have HP : Hid (P = S.size - N ∧ i = N + 1 - Lib.nDigits Q) := ⟨hP, hiE⟩
      have hN : ¬ S.size < N + 1 := hlt
      clear hP hiE hlt hN
      go_wp2_with fail
      go_quiet ((go_at_call 53; refine Calls.quiet_of_same (CX.out _)))
      have bQ : Below wr.heap.size wr (wr.drewN nq) := below_drewN (Below.refl _ _) nq
      go_wp2_with fail
      go_ret2
      have eA : S.data.toList = dgL N Q := by rw [HS.out, HP.out.2]; rfl
      have eS : S.size = (dgL N Q).length := by rw [← eA]; rfl
      have eP : P = (dgL N Q).length - N := by rw [HP.out.1, eS]
      refine ⟨S.extract 0 P ++ ⟨#[46]⟩ ++ S.extract P S.size, cc == 0, rfl, ?_, ⟨fun e => HCZ.out.1 (by simpa using e), fun e => (by simpa using HCZ.out.2 e)⟩, ?_⟩
      · show _ = _
        rw [ba_app, ba_app, ba_ext, ba_ext, eA, eS]
        unfold dgT
        rw [← eP, List.drop_zero, Nat.sub_zero, List.append_assoc]
        congr 1
        show 46 :: _ = 46 :: _
        congr 1
        exact List.take_of_length_le (by rw [List.length_drop]; omega)
      · exact BV.out.1.trans ((below_trans HB.out.1 (below_trans HB.out.2 (below_trans b9 bQ))).mono (by have := BV.out.1.size; omega))

end Go.Proofs.YtkkldnnndlpblaaGreatDoor

namespace Go.Proofs.YtkkldnnndlpblaaGreatDoor
open Go.RowKit Ck

theorem TW_pt {k F q : Nat} (h1 : 1 ≤ k) (h7 : k ≤ 7) (h : TW k F q) : ptN k 8400 * F / ptD k 8400 = q := by
  obtain ⟨wd, a1, a2, a3, a4⟩ := h
  obtain ⟨W, hW⟩ : ∃ W : Nat, W = 8400 := ⟨_, rfl⟩
  rw [← hW]
  have e1 := told k wd (W - wd) F q (base_k k h1 h7).1 a1 a3 a4
  rw [show wd + (W - wd) = W by omega] at e1
  exact e1

/-- the document's digits, where it tells them, are the program's -/
theorem dig_same {K N q : Nat} (h1 : 1 ≤ K) (h7 : K ≤ 7) (hN : N ≤ 500) (ht : TW K (10 ^ N) q) (hd : gA K (4 * N + 96) * 10 ^ N / 2 ^ (4 * N + 96) = (gA K (4 * N + 96) + gE K (4 * N + 96)) * 10 ^ N / 2 ^ (4 * N + 96)) : gA K (4 * N + 96) * 10 ^ N / 2 ^ (4 * N + 96) = q := by
  have a := dtold K (4 * N + 96) (10 ^ N) _ h1 h7 (by omega) (by omega) rfl hd.symm
  rw [← a, (doc_same K h1 h7).2 N hN]
  exact TW_pt h1 h7 ht

theorem bit_same {K N q : Nat} (h1 : 1 ≤ K) (h7 : K ≤ 7) (hN : N ≤ 1984) (ht : TW K (2 ^ N) q) (hd : gA K (N + 96) / 2 ^ 96 = (gA K (N + 96) + gE K (N + 96)) / 2 ^ 96) : gA K (N + 96) / 2 ^ 96 = q := by
  have e : ∀ x, x * 2 ^ N / 2 ^ (N + 96) = x / 2 ^ 96 := fun x => by
    rw [Nat.pow_add, Nat.mul_comm x]
    exact Nat.mul_div_mul_left _ _ (Nat.pow_pos (by decide))
  have a := dtold K (N + 96) (2 ^ N) (gA K (N + 96) / 2 ^ 96) h1 h7 (by omega) (by omega) (e _) (by rw [e]; exact hd.symm)
  rw [← a, (doc_same K h1 h7).1 N hN]
  exact TW_pt h1 h7 ht

/-- what the program's Digits and Bits answer, all told -/
theorem digA_calls (k n : Int) (h0 : 0 ≤ k) (h1 : k ≤ 255) (w : World) (hT : RecT w) (hP : TabP w) :
    Calls Tryz.prog 17 #[.int .u8 k, .int .i64 n] w fun r w' => ((¬ askB k n 500 ∧ r = .returned (.tuple #[.string ⟨#[]⟩, .int .i64 2])) ∨ (∃ (K N q : Nat) (S : ByteArray), k = (K : Int) ∧ n = (N : Int) ∧ 1 ≤ K ∧ K ≤ 7 ∧ 1 ≤ N ∧ N ≤ 500 ∧ r = .returned (.tuple #[.string S, .int .i64 0]) ∧ Hid (S.data.toList = dgT N q) ∧ Hid (TW K (10 ^ N) q))) ∧ Below w.heap.size w w' := by
  refine (digitsC_calls k n h0 h1 w hT hP).mono ?_
  rintro r w' ⟨hr, hb⟩
  refine ⟨?_, hb⟩
  rcases hr with ⟨a, e⟩ | ⟨K, N, e1, e2, e3, e4, e5, e6, hr⟩
  · exact Or.inl ⟨a, e⟩
  · rcases hr with ⟨q, S, e, hS, ht⟩ | ⟨-, hne⟩
    · exact Or.inr ⟨K, N, q, S, e1, e2, e3, e4, e5, e6, e, hS, ht⟩
    · exact absurd ((not_hard K e3 e4).2 N e6) hne

theorem bitA_calls (k n : Int) (h0 : 0 ≤ k) (h1 : k ≤ 255) (w : World) (hT : RecT w) :
    Calls Tryz.prog 18 #[.int .u8 k, .int .i64 n] w fun r w' => ((¬ askB k n 1984 ∧ r = .returned (.tuple #[.slice none 0 0, .int .i64 2])) ∨ (∃ (K N q : Nat) (ao : Option Addr) (m d : Nat), k = (K : Int) ∧ n = (N : Int) ∧ 1 ≤ K ∧ K ≤ 7 ∧ 1 ≤ N ∧ N ≤ 1984 ∧ r = .returned (.tuple #[.slice ao m d, .int .i64 0]) ∧ m ≤ 1024 ∧ OwnW w.heap.size w' ao m d (wordsOf q) ∧ Hid (TW K (2 ^ N) q))) ∧ Below w.heap.size w w' := by
  refine (bitsC_calls k n h0 h1 w hT).mono ?_
  rintro r w' ⟨hr, hb⟩
  refine ⟨?_, hb⟩
  rcases hr with ⟨a, e⟩ | ⟨K, N, e1, e2, e3, e4, e5, e6, hr⟩
  · exact Or.inl ⟨a, e⟩
  · rcases hr with ⟨ao, m, d, q, e, hm, hO, ht⟩ | ⟨-, hne⟩
    · exact Or.inr ⟨K, N, q, ao, m, d, e1, e2, e3, e4, e5, e6, e, hm, hO, ht⟩
    · exact absurd ((not_hard K e3 e4).1 N e6) hne

theorem ba_eq {S T : ByteArray} (h : S.data.toList = T.data.toList) : S = T := by
  cases S; cases T
  simpa using h

set_option maxRecDepth 100000 in
set_option maxHeartbeats 4000000 in
theorem constsTold_walk (k n : Int) (w : World) (h0 : 0 ≤ k ∧ k ≤ 255) (_hn : -9223372036854775808 ≤ n ∧ n ≤ 9223372036854775807) (hT : RecT w ∧ TabP w) :
    Calls Tryz.prog 4 #[.int .u8 k, .int .i64 n] w fun r w' => r = .returned (.bool true) ∧ Below w.heap.size w w' := by
  obtain ⟨hT, hP⟩ := hT
  obtain ⟨h0, h1⟩ := h0
  clear _hn
  have IS : Hid (∀ W, Calls Tryz.prog 11 #[.int .u8 k] W fun r w' => r = .returned (.bool (knB k)) ∧ w' = W) := fun W => docIs_calls k h0 h1 W
  go_enter Tryz.func4, Tryz.ntmps4
  go_wp2_with fail
  refine Calls.mono (digA_calls k n h0 h1 w hT hP) ?_
  rintro r w1 ⟨hr, b1⟩
  have hT1 := hT.kept b1
  have hP1 := hP.kept b1
  have BC : Hid _ := bitA_calls k n h0 h1 w1 hT1
  rcases hr with ⟨na, rfl⟩ | ⟨K, N, q, S, rfl, rfl, a1, a2, a3, a4, rfl, hS, ht⟩
  · have HN : Hid _ := na
    clear na
    go_wp2_with fail
    refine Calls.mono BC.out ?_
    rintro r w2 ⟨hr, b2⟩
    have hT2 := hT1.kept b2
    have hP2 := hP1.kept b2
    replace b2 := below_trans b1 b2
    clear BC hT hP hT1 hP1 b1
    have LC : Hid _ := cLives_calls w2 hT2 hP2
    rcases hr with ⟨nb, rfl⟩ | ⟨K, N, q, ao, m, d, rfl, rfl, a1, a2, a3, a4, rfl, hm, hO, ht⟩
    · have hc : knB k = false ∨ (knB k = true ∧ n < 1) ∨ (knB k = true ∧ ¬ n < 1 ∧ 1984 < n ∧ 500 < n) := by
        by_cases x : 1 ≤ k ∧ k ≤ 7
        · by_cases y : n < 1
          · exact Or.inr (Or.inl ⟨decide_eq_true x, y⟩)
          · refine Or.inr (Or.inr ⟨decide_eq_true x, y, ?_, ?_⟩)
            · exact Int.not_le.1 fun e => nb ⟨x.1, x.2, by omega, e⟩
            · exact Int.not_le.1 fun e => nb ⟨x.1, x.2, by omega, by omega⟩
        · exact Or.inl (decide_eq_false x)
      clear nb
      go_wp2_with fail
      refine Calls.mono LC.out ?_
      rintro r w3 ⟨rfl, b3⟩
      replace b2 := below_trans b2 b3
      clear LC b3 hT2 hP2
      rcases hc with hk | ⟨hk, hn⟩ | ⟨hk, hn1, hn2, hn3⟩
      all_goals
        go_wp2_with fail
        refine Calls.mono (IS.out _) ?_
        rintro r w4 ⟨rfl, rfl⟩
        go_wp2_with fail
        refine Calls.mono (IS.out _) ?_
        rintro r w4 ⟨rfl, rfl⟩
        go_wp2_with fail
        go_ret
        exact ⟨rfl, b2⟩
    · have hk : knB (K : Int) = true := decide_eq_true (by omega)
      have h5 : (500 : Int) < (N : Int) := Int.not_le.1 fun e => HN.out ⟨by omega, by omega, by omega, e⟩
      have j1 : ¬ (N : Int) < 1 := by omega
      have j2 : ¬ (1984 : Int) < (N : Int) := by omega
      go_wp2_with fail
      refine Calls.mono LC.out ?_
      rintro r w3 ⟨rfl, b3⟩
      replace b2 := below_trans b2 b3
      have hO3 := hO.keep b3
      clear LC b3 hT2 hP2 hO HN
      go_wp2_with fail
      refine Calls.mono (IS.out _) ?_
      rintro r w4 ⟨rfl, rfl⟩
      go_wp2_with fail
      refine Calls.mono (IS.out _) ?_
      rintro r w4 ⟨rfl, rfl⟩
      have DB : Hid _ := docBits_calls K N a1 a2 a3 a4 w4
      go_wp2_with fail
      refine Calls.mono DB.out ?_
      rintro r w5 ⟨a5, m5, c5, t5, rfl, ht5, hm5, hO5, b5⟩
      have b6 := below_trans b2 b5
      cases t5
      · go_wp2_with fail
        go_ret
        exact ⟨rfl, b6⟩
      · have hq := bit_same a1 a2 a4 ht.out (ht5.out.1 rfl)
        rw [hq] at hO5
        have SC : Hid _ := nSame_calls ao a5 m d m5 c5 _ _ w5 (hO3.keep b5).1 hO5.1 (by omega) (by omega)
        clear hO3 hO5 hq b5
        go_wp2_with fail
        refine Calls.mono SC.out ?_
        rintro r w6 ⟨rfl, b7⟩
        go_wp2_with fail
        go_ret
        exact ⟨by simp, below_trans b6 b7⟩
  · go_wp2_with fail
    refine Calls.mono BC.out ?_
    rintro r w2 ⟨hr, b2⟩
    have hT2 := hT1.kept b2
    have hP2 := hP1.kept b2
    replace b2 := below_trans b1 b2
    clear BC hT hP hT1 hP1 b1
    have LC : Hid _ := cLives_calls w2 hT2 hP2
    rcases hr with ⟨nb, rfl⟩ | ⟨K2, N2, q2, ao, m, d, e1, e2, c1, c2, c3, c4, rfl, hm, hO, ht2⟩
    · exact absurd ⟨by omega, by omega, by omega, by omega⟩ nb
    obtain rfl : K2 = K := by omega
    obtain rfl : N2 = N := by omega
    clear e1 e2 c1 c2 c3
    have hk : knB (K2 : Int) = true := decide_eq_true (by omega)
    have h5 : ¬ (500 : Int) < (N2 : Int) := by omega
    have j1 : ¬ (N2 : Int) < 1 := by omega
    have j2 : ¬ (1984 : Int) < (N2 : Int) := by omega
    go_wp2_with fail
    refine Calls.mono LC.out ?_
    rintro r w3 ⟨rfl, b3⟩
    replace b2 := below_trans b2 b3
    have hO3 := hO.keep b3
    clear LC b3 hT2 hP2 hO
    go_wp2_with fail
    refine Calls.mono (IS.out _) ?_
    rintro r w4 ⟨rfl, rfl⟩
    have DD : Hid _ := docDigits_calls K2 N2 a1 a2 a3 a4 w4
    go_wp2_with fail
    refine Calls.mono DD.out ?_
    rintro r w5 ⟨T, t4, rfl, hT4, ht4, b5⟩
    replace b2 := below_trans b2 b5
    replace hO3 := hO3.keep b5
    clear DD b5
    have hc : t4 = false ∨ (t4 = true ∧ T = S) := by
      cases t4
      · exact Or.inl rfl
      · refine Or.inr ⟨rfl, ba_eq ?_⟩
        rw [hT4.out, hS.out, dig_same a1 a2 a4 ht.out (ht4.out.1 rfl)]
    have DB : Hid (∀ W, _) := fun W => docBits_calls K2 N2 a1 a2 a3 c4 W
    rcases hc with rfl | ⟨rfl, rfl⟩
    all_goals
      go_wp2_with fail
      refine Calls.mono (IS.out _) ?_
      rintro r w4 ⟨rfl, rfl⟩
      go_wp2_with fail
      refine Calls.mono (DB.out _) ?_
      rintro r w5 ⟨a5, m5, c5, t5, rfl, ht5, hm5, hO5, b5⟩
      have b6 := below_trans b2 b5
      cases t5
      · go_wp2_with fail
        go_ret
        exact ⟨rfl, b6⟩
      · have hq := bit_same a1 a2 c4 ht2.out (ht5.out.1 rfl)
        rw [hq] at hO5
        have SC : Hid _ := nSame_calls ao a5 m d m5 c5 _ _ w5 (hO3.keep b5).1 hO5.1 (by omega) (by omega)
        clear hO3 hO5 hq b5
        go_wp2_with fail
        refine Calls.mono SC.out ?_
        rintro r w6 ⟨rfl, b7⟩
        go_wp2_with fail
        go_ret
        exact ⟨by simp, below_trans b6 b7⟩

end Go.Proofs.YtkkldnnndlpblaaGreatDoor
