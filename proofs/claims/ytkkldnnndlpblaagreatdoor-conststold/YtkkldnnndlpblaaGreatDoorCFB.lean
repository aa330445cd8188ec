/- The walk of ConstsFronts. -/
import Derived.Test.YtkkldnnndlpblaaGreatDoorCFA
import Derived.Test.YtkkldnnndlpblaaGreatDoorTMG
namespace Go.Proofs.YtkkldnnndlpblaaGreatDoor
open Go.RowKit Ck

theorem TW_front {k F G q q' : Nat} (h1 : 1 ≤ k) (h7 : k ≤ 7) (h : TW k F q) (h' : TW k (F * G) q') (hG : 0 < G) : q' / G = q := by
  obtain ⟨wd, a1, a2, a3, a4⟩ := h
  obtain ⟨wd', b1, b2, b3, b4⟩ := h'
  have hb := (base_k k h1 h7).1
  have e1 := told k wd (8192 - wd) F q hb a1 a3 a4
  have e2 := told k wd' (8192 - wd') (F * G) q' hb b1 b3 b4
  rw [show wd + (8192 - wd) = 8192 by omega] at e1
  rw [show wd' + (8192 - wd') = 8192 by omega] at e2
  rw [← e1, ← e2, Nat.div_div_eq_div_mul, ← Nat.mul_assoc, Nat.mul_div_mul_right _ _ hG]
theorem TW_pos {k F q : Nat} (h1 : 1 ≤ k) (h7 : k ≤ 7) (hF : 8 ≤ F) (h : TW k F q) : 0 < q := by
  obtain ⟨wd, a1, a2, a3, a4⟩ := h
  have hl := (e_lt k wd h1 h7 a1).2.2
  rw [← a3]
  refine Nat.div_pos ?_ (Nat.pow_pos (by decide))
  have e : 2 ^ wd = 2 ^ (wd - 3) * 8 := by rw [show (8 : Nat) = 2 ^ 3 by decide, ← Nat.pow_add]; congr 1; omega
  rw [e]
  exact Nat.mul_le_mul hl hF
/-- what Digits answers -/
def DigE (k n : Int) (S : ByteArray) (E : Int) : Prop := E = 0 → ∃ K N q : Nat, k = (K : Int) ∧ n = (N : Int) ∧ 1 ≤ K ∧ K ≤ 7 ∧ 1 ≤ N ∧ S.data.toList = dgT N q ∧ TW K (10 ^ N) q
def BitE (k n : Int) (q : Nat) (E : Int) : Prop := E = 0 → ∃ K N : Nat, k = (K : Int) ∧ n = (N : Int) ∧ 1 ≤ K ∧ K ≤ 7 ∧ 1 ≤ N ∧ N ≤ 1984 ∧ TW K (2 ^ N) q
theorem digE_calls (k n : Int) (h0 : 0 ≤ k) (h1 : k ≤ 255) (w : World) (hT : RecT w) (hP : TabP w) :
    Calls Tryz.prog 17 #[.int .u8 k, .int .i64 n] w fun r w' => (∃ (S : ByteArray) (E : Int), r = .returned (.tuple #[.string S, .int .i64 E]) ∧ DigE k n S E) ∧ Below w.heap.size w w' := by
  refine (digitsC_calls k n h0 h1 w hT hP).mono ?_
  rintro r w' ⟨hr, hb⟩
  refine ⟨?_, hb⟩
  rcases hr with ⟨-, e⟩ | ⟨K, N, e1, e2, e3, e4, e5, e6, hr⟩
  · exact ⟨_, _, e, fun h => by cases h⟩
  · rcases hr with ⟨q, S, e, hS, ht⟩ | ⟨e, -⟩
    · exact ⟨S, 0, e, fun _ => ⟨K, N, q, e1, e2, e3, e4, e5, hS, ht⟩⟩
    · exact ⟨_, _, e, fun h => by cases h⟩
theorem bitE_calls (k n : Int) (h0 : 0 ≤ k) (h1 : k ≤ 255) (w : World) (hT : RecT w) :
    Calls Tryz.prog 18 #[.int .u8 k, .int .i64 n] w fun r w' => (∃ (ao : Option Addr) (m d q : Nat) (E : Int), r = .returned (.tuple #[.slice ao m d, .int .i64 E]) ∧ m ≤ 1024 ∧ OwnW w.heap.size w' ao m d (wordsOf q) ∧ BitE k n q E) ∧ Below w.heap.size w w' := by
  refine (bitsC_calls k n h0 h1 w hT).mono ?_
  rintro r w' ⟨hr, hb⟩
  refine ⟨?_, hb⟩
  rcases hr with ⟨-, e⟩ | ⟨K, N, e1, e2, e3, e4, e5, e6, hr⟩
  · exact ⟨_, _, _, 0, _, e, by decide, by rw [words_zero]; exact ownW_nil _ _, fun h => by cases h⟩
  · rcases hr with ⟨ao, m, d, q, e, hm, hO, ht⟩ | ⟨e, -⟩
    · exact ⟨ao, m, d, q, 0, e, hm, hO, fun _ => ⟨K, N, e1, e2, e3, e4, e5, e6, ht⟩⟩
    · exact ⟨_, _, _, 0, _, e, by decide, by rw [words_zero]; exact ownW_nil _ _, fun h => by cases h⟩
theorem front_text {k n m : Int} {S T : ByteArray} (h : DigE k n S 0) (h' : DigE k m T 0) (hl : n ≤ m) : S.size ≤ T.size ∧ T.extract 0 S.size = S := by
  obtain ⟨K, N, q, e1, e2, e3, e4, e5, hS, ht⟩ := h rfl
  obtain ⟨K', M, q', f1, f2, f3, f4, f5, hS', ht'⟩ := h' rfl
  obtain rfl : K' = K := by omega
  obtain ⟨d, rfl⟩ : ∃ d, M = N + d := ⟨M - N, by omega⟩
  have hp : 0 < 10 ^ d := Nat.pow_pos (by decide)
  have h8 : 8 ≤ 10 ^ N := Nat.le_trans (by decide) (Nat.pow_le_pow_right (show 0 < 10 by decide) e5)
  rw [Nat.pow_add] at ht'
  have hq := TW_front e3 e4 ht ht' hp
  have hpos := TW_pos e3 e4 h8 ht
  have hf := dgT_front N d q' (by rw [hq]; exact hpos)
  rw [hq, ← hS, ← hS'] at hf
  have hs : S.size = S.data.toList.length := rfl
  have ht2 : T.size = T.data.toList.length := rfl
  refine ⟨by rw [hs, ht2, hf, List.length_append]; omega, ?_⟩
  refine Go.WideShapes.bytes_inj ?_
  rw [ba_ext, List.drop_zero, Nat.sub_zero, hf, hs, List.take_left']
  rfl
theorem front_bits {k n m : Int} {q q' : Nat} (h : BitE k n q 0) (h' : BitE k m q' 0) (hl : n ≤ m) : ∃ d : Nat, m - n = (d : Int) ∧ d ≤ 2000 ∧ q' / 2 ^ d = q := by
  obtain ⟨K, N, e1, e2, e3, e4, e5, e6, ht⟩ := h rfl
  obtain ⟨K', M, f1, f2, f3, f4, f5, f6, ht'⟩ := h' rfl
  obtain rfl : K' = K := by omega
  obtain ⟨d, rfl⟩ : ∃ d, M = N + d := ⟨M - N, by omega⟩
  rw [Nat.pow_add] at ht'
  exact ⟨d, by omega, by omega, TW_front e3 e4 ht ht' (Nat.pow_pos (by decide))⟩

set_option maxRecDepth 100000 in
set_option maxHeartbeats 8000000 in
theorem constsFronts_walk (k n m : Int) (w : World) (h0 : 0 ≤ k ∧ k ≤ 255) (_hn : -9223372036854775808 ≤ n ∧ n ≤ 9223372036854775807) (_hm : -9223372036854775808 ≤ m ∧ m ≤ 9223372036854775807) (hT : RecT w ∧ TabP w) :
    Calls Tryz.prog 7 #[.int .u8 k, .int .i64 n, .int .i64 m] w fun r w' => r = .returned (.bool true) ∧ Below w.heap.size w w' := by
  obtain ⟨hT, hP⟩ := hT
  obtain ⟨h0, h1⟩ := h0
  clear _hn _hm
  go_enter Tryz.func7, Tryz.ntmps7
  go_wp2_with fail
  refine Calls.mono (digE_calls k n h0 h1 w hT hP) ?_
  rintro r w1 ⟨⟨S, E1, rfl, D1⟩, b1⟩
  have hT1 := hT.kept b1
  have hP1 := hP.kept b1
  go_wp2_with fail
  refine Calls.mono (digE_calls k m h0 h1 w1 hT1 hP1) ?_
  rintro r w2 ⟨⟨T, E2, rfl, D2⟩, b2⟩
  have hT2 := hT1.kept b2
  have hP2 := hP1.kept b2
  replace b2 := below_trans b1 b2
  go_wp2_with fail
  refine Calls.mono (bitE_calls k n h0 h1 w2 hT2) ?_
  rintro r w3 ⟨⟨a3, n3, c3, q3, E3, rfl, hn3, hO3, B3⟩, b3⟩
  have hT3 := hT2.kept b3
  have hP3 := hP2.kept b3
  replace b2 := below_trans b2 b3
  go_wp2_with fail
  refine Calls.mono (bitE_calls k m h0 h1 w3 hT3) ?_
  rintro r w4 ⟨⟨a4, n4, c4, q4, E4, rfl, hn4, hO4, B4⟩, b4⟩
  have hT4 := hT3.kept b4
  have hP4 := hP3.kept b4
  replace b2 := below_trans b2 b4
  replace hO3 := hO3.keep b4
  go_wp2_with fail
  refine Calls.mono (cLives_calls w4 hT4 hP4) ?_
  rintro r w5 ⟨rfl, b5⟩
  replace b2 := below_trans b2 b5
  replace hO3 := hO3.keep b5
  replace hO4 := hO4.keep b5
  have C1 : (E1 = 0 ∧ E2 = 0 ∧ n ≤ m ∧ S.size ≤ T.size ∧ T.extract 0 S.size = S) ∨ ¬ E1 = 0 ∨ (E1 = 0 ∧ ¬ E2 = 0) ∨ (E1 = 0 ∧ E2 = 0 ∧ m < n) := by
    by_cases x1 : E1 = 0
    · by_cases x2 : E2 = 0
      · by_cases x3 : n ≤ m
        · subst x1 x2
          exact Or.inl ⟨rfl, rfl, x3, front_text D1 D2 x3⟩
        · exact Or.inr (Or.inr (Or.inr ⟨x1, x2, by omega⟩))
      · exact Or.inr (Or.inr (Or.inl ⟨x1, x2⟩))
    · exact Or.inr (Or.inl x1)
  have C2 : (E3 = 0 ∧ E4 = 0 ∧ n ≤ m ∧ ∃ d : Nat, m - n = (d : Int) ∧ d ≤ 2000 ∧ q4 / 2 ^ d = q3) ∨ ¬ E3 = 0 ∨ (E3 = 0 ∧ ¬ E4 = 0) ∨ (E3 = 0 ∧ E4 = 0 ∧ m < n) := by
    by_cases x1 : E3 = 0
    · by_cases x2 : E4 = 0
      · by_cases x3 : n ≤ m
        · subst x1 x2
          exact Or.inl ⟨rfl, rfl, x3, front_bits B3 B4 x3⟩
        · exact Or.inr (Or.inr (Or.inr ⟨x1, x2, by omega⟩))
      · exact Or.inr (Or.inr (Or.inl ⟨x1, x2⟩))
    · exact Or.inr (Or.inl x1)
  clear D1 D2 B3 B4 hT hP hT1 hP1 hT2 hP2 hT3 hP3 hT4 hP4 b1 b3 b4 b5
  have HO3 : Hid (OwnW w2.heap.size w5 a3 n3 c3 (wordsOf q3)) := hO3
  have HO4 : Hid (OwnW w3.heap.size w5 a4 n4 c4 (wordsOf q4)) := hO4
  clear hO3 hO4
  rcases C2 with ⟨rfl, rfl, x3, d, x4, x5, x6⟩ | x1 | ⟨rfl, x1⟩ | ⟨rfl, rfl, x3⟩
  · have hq3 : (wordsOf q3).length ≤ 17592186044416 := by rw [← HO3.out.1.1]; omega
    have SH : Hid _ := nShr_calls a4 n4 c4 d (wordsOf q4) w5 HO4.out.1 (by omega) (by omega)
    rw [val_words, x6] at SH
    have hw : IntKind.i64.wrap (m - n) = (d : Int) := by rw [x4, IntKind.wrap_i64]; omega
    have X4 : Hid _ := x4
    clear x4 x6
    rcases C1 with ⟨rfl, rfl, -, y2, y3⟩ | y1 | ⟨rfl, y1⟩ | ⟨rfl, rfl, y1⟩
    all_goals try (exfalso; omega)
    all_goals
      go_wp2_with fail
      refine Calls.mono SH.out ?_
      rintro r w6 ⟨v, rfl, hA, b6⟩
      obtain ⟨a6, n6, c6, rfl, hn6, hO6⟩ := hA
      have SM : Hid _ := nSame_calls a6 a3 n6 c6 n3 c3 _ _ w6 hO6.1 (HO3.out.keep b6).1 (by rw [hn6]; exact hq3) (by omega)
      have HN6 : Hid _ := hn6
      clear hO6 hn6
      go_wp2_with fail
      refine Calls.mono SM.out ?_
      rintro r w7 ⟨rfl, b7⟩
      go_wp2_with fail
      go_ret
      exact ⟨by simp, below_trans b2 (below_trans b6 b7)⟩
  all_goals
    rcases C1 with ⟨rfl, rfl, -, y2, y3⟩ | y1 | ⟨rfl, y1⟩ | ⟨rfl, rfl, y1⟩
    all_goals try (exfalso; omega)
    all_goals
      go_wp2_with fail
      all_goals
        go_ret
        exact ⟨rfl, b2⟩
end Go.Proofs.YtkkldnnndlpblaaGreatDoor
