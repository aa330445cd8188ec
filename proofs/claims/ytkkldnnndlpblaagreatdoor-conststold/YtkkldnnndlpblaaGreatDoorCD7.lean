/- The walk of ConstsTold. -/
import Derived.Test.YtkkldnnndlpblaaGreatDoorCD6
import Derived.Test.YtkkldnnndlpblaaGreatDoorCFB
namespace Go.Proofs.YtkkldnnndlpblaaGreatDoor
open Go.RowKit Ck

theorem TW_pt {k F q : Nat} (h1 : 1 ≤ k) (h7 : k ≤ 7) (h : TW k F q) : ptN k 8400 * F / ptD k 8400 = q := by
  obtain ⟨wd, a1, a2, a3, a4⟩ := h
  obtain ⟨W, hW⟩ : ∃ W : Nat, W = 8400 := ⟨_, rfl⟩
  rw [← hW]
  have e1 := told k wd (W - wd) F q (base_k k h1 h7).1 a1 a3 a4
  rw [show wd + (W - wd) = W by omega] at e1
  exact e1
/-- the document's digits, where it tells them, are the program's -/
theorem dig_same {K N q : Nat} (h1 : 1 ≤ K) (h7 : K ≤ 7) (hN : N ≤ 500) (ht : TW K (10 ^ N) q) (hd : gA K (4 * N + 96) * 10 ^ N / 2 ^ (4 * N + 96) = (gA K (4 * N + 96) + gE K (4 * N + 96)) * 10 ^ N / 2 ^ (4 * N + 96)) : gA K (4 * N + 96) * 10 ^ N / 2 ^ (4 * N + 96) = q := by
  have a := dtold K (4 * N + 96) (10 ^ N) _ h1 h7 (by omega) (by omega) rfl hd.symm
  rw [← a, (doc_same K h1 h7).2 N hN]
  exact TW_pt h1 h7 ht
theorem bit_same {K N q : Nat} (h1 : 1 ≤ K) (h7 : K ≤ 7) (hN : N ≤ 1984) (ht : TW K (2 ^ N) q) (hd : gA K (N + 96) / 2 ^ 96 = (gA K (N + 96) + gE K (N + 96)) / 2 ^ 96) : gA K (N + 96) / 2 ^ 96 = q := by
  have e : ∀ x, x * 2 ^ N / 2 ^ (N + 96) = x / 2 ^ 96 := fun x => by
    rw [Nat.pow_add, Nat.mul_comm x]
    exact Nat.mul_div_mul_left _ _ (Nat.pow_pos (by decide))
  have a := dtold K (N + 96) (2 ^ N) (gA K (N + 96) / 2 ^ 96) h1 h7 (by omega) (by omega) (e _) (by rw [e]; exact hd.symm)
  rw [← a, (doc_same K h1 h7).1 N hN]
  exact TW_pt h1 h7 ht
/-- what the program's Digits and Bits answer, all told -/
theorem digA_calls (k n : Int) (h0 : 0 ≤ k) (h1 : k ≤ 255) (w : World) (hT : RecT w) (hP : TabP w) :
    Calls Tryz.prog 17 #[.int .u8 k, .int .i64 n] w fun r w' => ((¬ askB k n 500 ∧ r = .returned (.tuple #[.string ⟨#[]⟩, .int .i64 2])) ∨ (∃ (K N q : Nat) (S : ByteArray), k = (K : Int) ∧ n = (N : Int) ∧ 1 ≤ K ∧ K ≤ 7 ∧ 1 ≤ N ∧ N ≤ 500 ∧ r = .returned (.tuple #[.string S, .int .i64 0]) ∧ Hid (S.data.toList = dgT N q) ∧ Hid (TW K (10 ^ N) q))) ∧ Below w.heap.size w w' := by
  refine (digitsC_calls k n h0 h1 w hT hP).mono ?_
  rintro r w' ⟨hr, hb⟩
  refine ⟨?_, hb⟩
  rcases hr with ⟨a, e⟩ | ⟨K, N, e1, e2, e3, e4, e5, e6, hr⟩
  · exact Or.inl ⟨a, e⟩
  · rcases hr with ⟨q, S, e, hS, ht⟩ | ⟨-, hne⟩
    · exact Or.inr ⟨K, N, q, S, e1, e2, e3, e4, e5, e6, e, hS, ht⟩
    · exact absurd ((not_hard K e3 e4).2 N e6) hne
theorem bitA_calls (k n : Int) (h0 : 0 ≤ k) (h1 : k ≤ 255) (w : World) (hT : RecT w) :
    Calls Tryz.prog 18 #[.int .u8 k, .int .i64 n] w fun r w' => ((¬ askB k n 1984 ∧ r = .returned (.tuple #[.slice none 0 0, .int .i64 2])) ∨ (∃ (K N q : Nat) (ao : Option Addr) (m d : Nat), k = (K : Int) ∧ n = (N : Int) ∧ 1 ≤ K ∧ K ≤ 7 ∧ 1 ≤ N ∧ N ≤ 1984 ∧ r = .returned (.tuple #[.slice ao m d, .int .i64 0]) ∧ m ≤ 1024 ∧ OwnW w.heap.size w' ao m d (wordsOf q) ∧ Hid (TW K (2 ^ N) q))) ∧ Below w.heap.size w w' := by
  refine (bitsC_calls k n h0 h1 w hT).mono ?_
  rintro r w' ⟨hr, hb⟩
  refine ⟨?_, hb⟩
  rcases hr with ⟨a, e⟩ | ⟨K, N, e1, e2, e3, e4, e5, e6, hr⟩
  · exact Or.inl ⟨a, e⟩
  · rcases hr with ⟨ao, m, d, q, e, hm, hO, ht⟩ | ⟨-, hne⟩
    · exact Or.inr ⟨K, N, q, ao, m, d, e1, e2, e3, e4, e5, e6, e, hm, hO, ht⟩
    · exact absurd ((not_hard K e3 e4).1 N e6) hne
theorem ba_eq {S T : ByteArray} (h : S.data.toList = T.data.toList) : S = T := by
  cases S; cases T
  simpa using h
theorem ask_up {k n : Int} (h : askB k n 500) : askB k n 1984 := ⟨h.1, h.2.1, h.2.2.1, by have := h.2.2.2; omega⟩
theorem kn_ask {k n M : Int} (h : askB k n M) : knB k = true := decide_eq_true ⟨h.1, h.2.1⟩

set_option maxRecDepth 100000 in
set_option maxHeartbeats 4000000 in
theorem constsTold_walk (k n : Int) (w : World) (h0 : 0 ≤ k ∧ k ≤ 255) (_hn : -9223372036854775808 ≤ n ∧ n ≤ 9223372036854775807) (hT : RecT w ∧ TabP w) :
    Calls Tryz.prog 4 #[.int .u8 k, .int .i64 n] w fun r w' => r = .returned (.bool true) ∧ Below w.heap.size w w' := by
  obtain ⟨hT, hP⟩ := hT
  obtain ⟨h0, h1⟩ := h0
  clear _hn
  have IS : Hid (∀ W, Calls Tryz.prog 11 #[.int .u8 k] W fun r w' => r = .returned (.bool (knB k)) ∧ w' = W) := fun W => docIs_calls k h0 h1 W
  go_enter Tryz.func4, Tryz.ntmps4
  go_wp2_with fail
  refine Calls.mono (digA_calls k n h0 h1 w hT hP) ?_
  rintro r w1 ⟨hr, b1⟩
  have hT1 := hT.kept b1
  have hP1 := hP.kept b1
  have BC : Hid _ := bitA_calls k n h0 h1 w1 hT1
  rcases hr with ⟨na, rfl⟩ | ⟨K, N, q, S, rfl, rfl, a1, a2, a3, a4, rfl, hS, ht⟩
  · have HN : Hid _ := na
    clear na
    go_wp2_with fail
    refine Calls.mono BC.out ?_
    rintro r w2 ⟨hr, b2⟩
    have hT2 := hT1.kept b2
    have hP2 := hP1.kept b2
    replace b2 := below_trans b1 b2
    clear BC hT hP hT1 hP1 b1
    have LC : Hid _ := cLives_calls w2 hT2 hP2
    rcases hr with ⟨nb, rfl⟩ | ⟨K, N, q, ao, m, d, rfl, rfl, a1, a2, a3, a4, rfl, hm, hO, ht⟩
    · have hc : knB k = false ∨ (knB k = true ∧ n < 1) ∨ (knB k = true ∧ ¬ n < 1 ∧ 1984 < n ∧ 500 < n) := by
        by_cases x : 1 ≤ k ∧ k ≤ 7
        · by_cases y : n < 1
          · exact Or.inr (Or.inl ⟨decide_eq_true x, y⟩)
          · refine Or.inr (Or.inr ⟨decide_eq_true x, y, ?_, ?_⟩)
            · exact Int.not_le.1 fun e => nb ⟨x.1, x.2, by omega, e⟩
            · exact Int.not_le.1 fun e => nb ⟨x.1, x.2, by omega, by omega⟩
        · exact Or.inl (decide_eq_false x)
      clear nb
      go_wp2_with fail
      refine Calls.mono LC.out ?_
      rintro r w3 ⟨rfl, b3⟩
      replace b2 := below_trans b2 b3
      clear LC b3 hT2 hP2
      rcases hc with hk | ⟨hk, hn⟩ | ⟨hk, hn1, hn2, hn3⟩
      all_goals
        go_wp2_with fail
        refine Calls.mono (IS.out _) ?_
        rintro r w4 ⟨rfl, rfl⟩
        go_wp2_with fail
        refine Calls.mono (IS.out _) ?_
        rintro r w4 ⟨rfl, rfl⟩
        go_wp2_with fail
        go_ret
        exact ⟨rfl, b2⟩
    · have hk : knB (K : Int) = true := decide_eq_true (by omega)
      have h5 : (500 : Int) < (N : Int) := Int.not_le.1 fun e => HN.out ⟨by omega, by omega, by omega, e⟩
      have j1 : ¬ (N : Int) < 1 := by omega
      have j2 : ¬ (1984 : Int) < (N : Int) := by omega
      go_wp2_with fail
      refine Calls.mono LC.out ?_
      rintro r w3 ⟨rfl, b3⟩
      replace b2 := below_trans b2 b3
      have hO3 := hO.keep b3
      clear LC b3 hT2 hP2 hO HN
      go_wp2_with fail
      refine Calls.mono (IS.out _) ?_
      rintro r w4 ⟨rfl, rfl⟩
      go_wp2_with fail
      refine Calls.mono (IS.out _) ?_
      rintro r w4 ⟨rfl, rfl⟩
      have DB : Hid _ := docBits_calls K N a1 a2 a3 a4 w4
      go_wp2_with fail
      refine Calls.mono DB.out ?_
      rintro r w5 ⟨a5, m5, c5, t5, rfl, ht5, hm5, hO5, b5⟩
      have b6 := below_trans b2 b5
      cases t5
      · go_wp2_with fail
        go_ret
        exact ⟨rfl, b6⟩
      · have hq := bit_same a1 a2 a4 ht.out (ht5.out.1 rfl)
        rw [hq] at hO5
        have SC : Hid _ := nSame_calls ao a5 m d m5 c5 _ _ w5 (hO3.keep b5).1 hO5.1 (by omega) (by omega)
        clear hO3 hO5 hq b5
        go_wp2_with fail
        refine Calls.mono SC.out ?_
        rintro r w6 ⟨rfl, b7⟩
        go_wp2_with fail
        go_ret
        exact ⟨by simp, below_trans b6 b7⟩
  · go_wp2_with fail
    refine Calls.mono BC.out ?_
    rintro r w2 ⟨hr, b2⟩
    have hT2 := hT1.kept b2
    have hP2 := hP1.kept b2
    replace b2 := below_trans b1 b2
    clear BC hT hP hT1 hP1 b1
    have LC : Hid _ := cLives_calls w2 hT2 hP2
    rcases hr with ⟨nb, rfl⟩ | ⟨K2, N2, q2, ao, m, d, e1, e2, c1, c2, c3, c4, rfl, hm, hO, ht2⟩
    · exact absurd ⟨by omega, by omega, by omega, by omega⟩ nb
    obtain rfl : K2 = K := by omega
    obtain rfl : N2 = N := by omega
    clear e1 e2 c1 c2 c3
    have hk : knB (K2 : Int) = true := decide_eq_true (by omega)
    have h5 : ¬ (500 : Int) < (N2 : Int) := by omega
    have j1 : ¬ (N2 : Int) < 1 := by omega
    have j2 : ¬ (1984 : Int) < (N2 : Int) := by omega
    go_wp2_with fail
    refine Calls.mono LC.out ?_
    rintro r w3 ⟨rfl, b3⟩
    replace b2 := below_trans b2 b3
    have hO3 := hO.keep b3
    clear LC b3 hT2 hP2 hO
    go_wp2_with fail
    refine Calls.mono (IS.out _) ?_
    rintro r w4 ⟨rfl, rfl⟩
    have DD : Hid _ := docDigits_calls K2 N2 a1 a2 a3 a4 w4
    go_wp2_with fail
    refine Calls.mono DD.out ?_
    rintro r w5 ⟨T, t4, rfl, hT4, ht4, b5⟩
    replace b2 := below_trans b2 b5
    replace hO3 := hO3.keep b5
    clear DD b5
    have hc : t4 = false ∨ (t4 = true ∧ T = S) := by
      cases t4
      · exact Or.inl rfl
      · refine Or.inr ⟨rfl, ba_eq ?_⟩
        rw [hT4.out, hS.out, dig_same a1 a2 a4 ht.out (ht4.out.1 rfl)]
    have DB : Hid (∀ W, _) := fun W => docBits_calls K2 N2 a1 a2 a3 c4 W
    rcases hc with rfl | ⟨rfl, rfl⟩
    all_goals
      go_wp2_with fail
      refine Calls.mono (IS.out _) ?_
      rintro r w4 ⟨rfl, rfl⟩
      go_wp2_with fail
      refine Calls.mono (DB.out _) ?_
      rintro r w5 ⟨a5, m5, c5, t5, rfl, ht5, hm5, hO5, b5⟩
      have b6 := below_trans b2 b5
      cases t5
      · go_wp2_with fail
        go_ret
        exact ⟨rfl, b6⟩
      · have hq := bit_same a1 a2 c4 ht2.out (ht5.out.1 rfl)
        rw [hq] at hO5
        have SC : Hid _ := nSame_calls ao a5 m d m5 c5 _ _ w5 (hO3.keep b5).1 hO5.1 (by omega) (by omega)
        clear hO3 hO5 hq b5
        go_wp2_with fail
        refine Calls.mono SC.out ?_
        rintro r w6 ⟨rfl, b7⟩
        go_wp2_with fail
        go_ret
        exact ⟨by simp, below_trans b6 b7⟩
end Go.Proofs.YtkkldnnndlpblaaGreatDoor
