/- The statements' first question: twenty digits of pi, two bits, and too few bits. -/
import Derived.Test.YtkkldnnndlpblaaGreatDoorCF9
import Derived.Test.YtkkldnnndlpblaaGreatDoorCK3
namespace Go.Proofs.YtkkldnnndlpblaaGreatDoor
open Go.RowKit Ck

theorem TW_eq {k F q q' : Nat} (h1 : 1 ≤ k) (h7 : k ≤ 7) (h : TW k F q) (h' : TW k F q') : q = q' := by
  obtain ⟨wd, a1, a2, a3, a4⟩ := h
  obtain ⟨wd', b1, b2, b3, b4⟩ := h'
  have hb := (base_k k h1 h7).1
  have e1 := told k wd (8192 - wd) F q hb a1 a3 a4
  have e2 := told k wd' (8192 - wd') F q' hb b1 b3 b4
  rw [show wd + (8192 - wd) = 8192 by omega] at e1
  rw [show wd' + (8192 - wd') = 8192 by omega] at e2
  exact e1.symm.trans e2
/-- told at fewer bits, told at the most -/
theorem TW_not_hard {k F q wd : Nat} (h1 : 1 ≤ k) (h7 : k ≤ 7) (hw : 40 ≤ wd) (hw2 : wd + 16 ≤ 8192) (a : eLo k wd * F / 2 ^ wd = q) (b : eHi k wd * F / 2 ^ wd = q) : eLo k 8192 * F / 2 ^ 8192 = eHi k 8192 * F / 2 ^ 8192 := by
  have hb := (base_k k h1 h7).1
  obtain ⟨M, hM⟩ : ∃ M : Nat, M = 8192 := ⟨_, rfl⟩
  rw [← hM]
  have hle := (e_lt k M h1 h7 (by omega)).2.1
  have e : wd + (M - wd) = M := by omega
  have := told_nest k wd (M - wd) F q hb hw (by omega) (by omega) (by rw [e]; exact hle) a b
  rw [e] at this
  exact this.1.trans this.2.symm
def piB : List UInt8 := [51, 46, 49, 52, 49, 53, 57, 50, 54, 53, 51, 53, 56, 57, 55, 57, 51, 50, 51, 56, 52, 54]
theorem lv_text : dgT 20 314159265358979323846 = piB := by
  have e1 : Lib.decDigits 314159265358979323846 = [51, 49, 52, 49, 53, 57, 50, 54, 53, 51, 53, 56, 57, 55, 57, 51, 50, 51, 56, 52, 54] := by decide +kernel
  have e2 : Lib.nDigits 314159265358979323846 = 21 := by rw [← Lib.decDigits_length, e1]; rfl
  unfold dgT dgL
  rw [e2, e1]
  rfl
theorem lv_words : wordsOf 12 = [12] := by rw [words_pos 12 (by decide), show 12 / 18446744073709551616 = 0 by decide, words_zero]; rfl

theorem isW_litC (w : World) (B : Nat) (hB : w.heap.size = B) (m : Int) (h0 : 0 ≤ m) (h1 : m ≤ 18446744073709551615) : IsW (w.alloc (.cells #[.int .u64 m] 59)) (some ⟨B, 0, none⟩) 1 1 [m] := by
  subst hB
  exact ⟨rfl, fun x hx => by simp at hx; subst hx; exact ⟨h0, h1⟩, ⟨Nat.le_refl _, fun q => by cases q⟩, fun i hi => ⟨w.heap.size, 0, rfl, by simp, by
    obtain rfl : i = 0 := by omega
    go_simp⟩⟩

set_option maxRecDepth 100000 in
set_option maxHeartbeats 1000000 in
theorem constFew_calls (w : World) :
    Calls Tryz.prog 9 #[.int .u8 1, .int .i64 7] w fun r w' => r = .returned (.tuple #[.agg #[.bool false, .slice none 0 0, .int .i64 0, .bool false, .slice none 0 0, .int .i64 0], .int .i64 2]) ∧ Below w.heap.size w w' := by
  have bA := below_alloc w (.cells #[.bool false, .slice none 0 0, .int .i64 0, .bool false, .slice none 0 0, .int .i64 0] 28)
  have hd : knB 1 = true := by decide
  have HD : Hid _ := hd
  clear hd
  go_enter Tryz.func9, Tryz.ntmps9
  go_wp2_with fail
  refine Calls.mono (known_calls _ (by decide) (by decide) _) ?_
  rintro r w1 ⟨rfl, rfl⟩
  rw [HD.out]
  go_wp2_with fail
  exact bodyPost_ret (v := .tuple #[.agg #[.bool false, .slice none 0 0, .int .i64 0, .bool false, .slice none 0 0, .int .i64 0], .int .i64 2]) (by simp [results, Tryz.results9, go_sem]) rfl ⟨rfl, bA⟩

set_option maxRecDepth 100000 in
set_option maxHeartbeats 2000000 in
theorem cLives_calls (w : World) (hT : RecT w) (hP : TabP w) :
    Calls Tryz.prog 10 #[] w fun r w' => r = .returned (.bool true) ∧ Below w.heap.size w w' := by
  have DC : Hid _ := digitsC_calls 1 20 (by decide) (by decide) w hT hP
  go_enter Tryz.func10, Tryz.ntmps10
  go_wp2_with fail
  refine Calls.mono DC.out ?_
  rintro r w1 ⟨hr, b1⟩
  have hr2 : ∃ S : ByteArray, r = .returned (.tuple #[.string S, .int .i64 0]) ∧ S.data.toList = piB := by
    obtain ⟨p1, p2⟩ := lives_pi
    rcases hr with ⟨hn, -⟩ | ⟨K, N, e1, e2, -, -, -, -, hr⟩
    · exact absurd ⟨by decide, by decide, by decide, by decide⟩ hn
    · have e1' : K = 1 := by omega
      have e2' : N = 20 := by omega
      subst e1' e2'
      rcases hr with ⟨q, S, e, hS, ht⟩ | ⟨-, hne⟩
      · have hq := TW_eq (by decide) (by decide) ht ⟨131, by decide, by decide, p1, p2⟩
        subst hq
        exact ⟨S, e, by rw [hS]; exact lv_text⟩
      · exact absurd (TW_not_hard (by decide) (by decide) (by decide) (by decide) p1 p2) hne
  clear hr DC
  obtain ⟨S, rfl, hS⟩ := hr2
  have BC : Hid _ := bitsC_calls 1 2 (by decide) (by decide) w1 (hT.kept b1)
  go_wp2_with fail
  refine Calls.mono BC.out ?_
  rintro r w2 ⟨hr, b2⟩
  have hr2 : ∃ (ao : Option Addr) (m d : Nat), r = .returned (.tuple #[.slice ao m d, .int .i64 0]) ∧ m ≤ 1024 ∧ OwnW w1.heap.size w2 ao m d [12] := by
    obtain ⟨p1, p2⟩ := lives_bits
    rcases hr with ⟨hn, -⟩ | ⟨K, N, e1, e2, -, -, -, -, hr⟩
    · exact absurd ⟨by decide, by decide, by decide, by decide⟩ hn
    · have e1' : K = 1 := by omega
      have e2' : N = 2 := by omega
      subst e1' e2'
      rcases hr with ⟨ao, m, d, q, e, hm, hO, ht⟩ | ⟨-, hne⟩
      · have hq := TW_eq (by decide) (by decide) ht ⟨67, by decide, by decide, p1, p2⟩
        subst hq
        rw [lv_words] at hO
        exact ⟨ao, m, d, e, hm, hO⟩
      · exact absurd (TW_not_hard (by decide) (by decide) (by decide) (by decide) p1 p2) hne
  clear hr BC
  obtain ⟨ao, m, d, rfl, hm, hO⟩ := hr2
  have b3 := below_trans b1 b2
  go_wp2_with fail
  refine Calls.mono (constFew_calls w2) ?_
  rintro r w3 ⟨rfl, b4⟩
  have hO2 := hO.keep b4
  replace b3 := below_trans b3 b4
  have hS2 : S.toList = [51, 46, 49, 52, 49, 53, 57, 50, 54, 53, 51, 53, 56, 57, 55, 57, 51, 50, 51, 56, 52, 54] := by rw [ByteArray.toList_eq]; exact hS
  clear hS hO
  have bB := below_trans (below_alloc w3 (.cells #[.bool false, .slice none 0 0, .int .i64 0, .bool false, .slice none 0 0, .int .i64 0] 28)) (below_alloc (w3.alloc (.cells #[.bool false, .slice none 0 0, .int .i64 0, .bool false, .slice none 0 0, .int .i64 0] 28)) (.cells #[.int .u64 12] 59))
  have hO3 := hO2.keep bB
  have hL := isW_litC (w3.alloc (.cells #[.bool false, .slice none 0 0, .int .i64 0, .bool false, .slice none 0 0, .int .i64 0] 28)) (w3.heap.size + 1) (by simp) 12 (by decide) (by decide)
  have SC : Hid _ := nSame_calls ao _ m d 1 1 [12] [12] _ hO3.1 hL (by omega) (by omega)
  clear hO3 hL hO2
  go_wp2_with fail
  refine Calls.mono SC.out ?_
  rintro r w4 ⟨rfl, b5⟩
  go_wp2_with fail
  go_ret
  exact ⟨by simp, below_trans b3 (below_trans bB b5)⟩
end Go.Proofs.YtkkldnnndlpblaaGreatDoor
