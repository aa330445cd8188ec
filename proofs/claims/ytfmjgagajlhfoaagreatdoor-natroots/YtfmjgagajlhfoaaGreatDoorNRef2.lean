/- The walks of the document's parts of naturals: a bit, how many bits, how many bits 0 at the end. -/
import Derived.Test.YtfmjgagajlhfoaaGreatDoorNRef
import Derived.Test.YtfmjgagajlhfoaaGreatDoorNShift
namespace Go.Proofs.YtfmjgagajlhfoaaGreatDoor
open Go.RowKit

theorem bit_spell (x : Int) (k : Nat) (h : 0 ≤ x) : ((x / 2 ^ k).tmod 2 == 1) = decide (x.toNat / 2 ^ k % 2 = 1) := by
  obtain ⟨n, rfl⟩ := Int.eq_ofNat_of_zero_le h
  have e : ((n : Int) / 2 ^ k) = ((n / 2 ^ k : Nat) : Int) := by rw [Int.natCast_ediv, Int.natCast_pow]; rfl
  rw [e, Int.tmod_eq_emod_of_nonneg (Int.natCast_nonneg _), Int.toNat_natCast]
  rw [Bool.eq_iff_iff]; simp; omega
theorem blen_half (t : Nat) (h : t ≠ 0) : blen t = blen (t / 2) + 1 := by
  by_cases h1 : t = 1
  · subst h1; decide
  · have e := blen_shift 1 (t % 2) (t / 2) (by omega) (by omega)
    rw [show t % 2 + 2 ^ 1 * (t / 2) = t by omega] at e
    omega
theorem blen_words_le (xs : List Int) (h : AllU xs) : blen (val xs) ≤ 64 * xs.length := by
  have h1 := val_lt xs h
  rw [two64, ← blen_le] at h1
  exact h1
theorem tz_lt (n : Nat) (h : n ≠ 0) : tz n < blen n := by
  obtain ⟨m, hm⟩ := ntz_spec n h
  have h1 : ¬ blen n ≤ tz n := by
    rw [blen_le]
    have : 2 ^ tz n * 1 ≤ 2 ^ tz n * (2 * m + 1) := Nat.mul_le_mul_left _ (by omega)
    omega
  omega

set_option maxRecDepth 100000 in
set_option maxHeartbeats 1000000 in
theorem nLen_calls (a : Option Addr) (len cap : Nat) (xs : List Int) (w : World) (h : IsW w a len cap xs) (hm : len ≤ 17592186044416) :
    Calls Tryz.prog 19 #[.slice a len cap] w fun e w' => e = .returned (.int .i64 (blen (val xs))) ∧ Below w.heap.size w w' := by
  have hN := nNorm_calls a len cap xs w h hm
  have hl : (wordsOf (val xs)).length ≤ 17592186044416 := by have := size_words xs h.2.1; have := size_le xs; have := h.1; omega
  go_enter Tryz.func19, Tryz.ntmps19
  go_wp2_with fail
  refine Calls.mono hN ?_
  rintro e w1 ⟨ao, cv, rfl, hO, hb⟩
  by_cases h0 : val xs = 0
  · have e0 : Hid (blen (val xs) = 0) := (blen_nil _).2 h0
    have hz : (wordsOf (val xs)).length = 0 := by rw [h0, words_zero]; rfl
    rw [hz]
    clear hN hO h0 hz
    go_wp2_with fail
    go_ret
    rw [e0.out]
    exact ⟨rfl, hb⟩
  · have hT : Hid _ := blen_top _ h0
    have hI := hO.isW (words_U _)
    have hlp : 0 < (wordsOf (val xs)).length := by
      rcases Nat.eq_zero_or_pos (wordsOf (val xs)).length with h1 | h1
      · exact absurd ((words_nil _).1 (List.length_eq_zero_iff.1 h1)) h0
      · exact h1
    obtain ⟨L, hL⟩ : ∃ L, L = (wordsOf (val xs)).length - 1 := ⟨_, rfl⟩
    have hL1 : (wordsOf (val xs)).length = L + 1 := by omega
    have hg := (words_U (val xs)).get L
    obtain ⟨b, off, ha, _, hc⟩ := hI.2.2.2 L (by omega)
    subst ha
    rw [← hL] at hT
    obtain ⟨x, hx⟩ : ∃ x, x = (wordsOf (val xs)).getD L 0 := ⟨_, rfl⟩
    rw [← hx] at hc hT hg
    rw [hL1]
    obtain ⟨t, rfl⟩ := Int.eq_ofNat_of_zero_le hg.1
    have hLl : L ≤ 17592186044416 := by omega
    have hbt : blen t ≤ 64 := by rw [blen_le]; have : (2 : Nat) ^ 64 = 18446744073709551616 := rfl; omega
    clear hx hI hL hL1 hlp h0 hN hO hl
    have hT' : Hid (blen (val xs) = 64 * L + blen t) := hT
    clear hT
    go_wp2_with fail
    go_loop [3, 4] (fun n v => ∃ k s : Nat, n = .int .i64 (64 * (L : Int) + k) ∧ v = .int .u64 s ∧ k + blen s = blen t ∧ s ≤ 18446744073709551615) (fun _ v => (intOf v).toNat)
    case atStart => exact ⟨0, t, by go_num, rfl, by omega, by omega⟩
    case round =>
      obtain ⟨k, s, rfl, rfl, hks, hs⟩ := hrel
      have HK : Hid (k + blen s = blen t) := hks
      have hkb : k ≤ 64 := by omega
      clear hks
      by_cases h0 : s = 0
      · subst h0
        go_wp2_with fail
        go_ret
        exact ⟨nret_int (by rw [hT'.out, ← HK.out, blen_zero]; omega), hb⟩
      · have hp : (0 : Int) < s := by omega
        have HH : Hid (k + 1 + blen (s / 2) = blen t) := by rw [Hid, ← HK.out, blen_half s h0]; omega
        go_wp2_with fail
        go_round
        case rel => exact ⟨k + 1, s / 2, by go_num, by go_num, HH.out, by omega⟩
        case measure => simp [intOf]; omega