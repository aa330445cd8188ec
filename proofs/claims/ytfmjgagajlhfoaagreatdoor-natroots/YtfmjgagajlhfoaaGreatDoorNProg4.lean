/- The walks of package nat, fourth part: Norm, Of, Len, Low, Bit, Cmp as they are called. -/
import Derived.Test.YtfmjgagajlhfoaaGreatDoorNProg3
namespace Go.Proofs.YtfmjgagajlhfoaaGreatDoor
open Go.RowKit

theorem great_of_len {v n : Nat} (hn : n = (wordsOf v).length) (h : 1024 < n) : greatB v = true := by rw [greatB, ← hn]; simpa using h
theorem fit_of_len {v n : Nat} (hn : n = (wordsOf v).length) (h : ¬ 1024 < n) : greatB v = false := by rw [greatB, ← hn]; simpa using h
theorem len_of_great {v n : Nat} (hn : n = (wordsOf v).length) (h : greatB v = true) : 1024 < n := by rw [greatB, ← hn] at h; simpa using h
theorem len_of_fit {v n : Nat} (hn : n = (wordsOf v).length) (h : greatB v = false) : n ≤ 1024 := by rw [greatB, ← hn] at h; simpa using h

set_option maxHeartbeats 400000 in
theorem word_calls (x : Int) (w : World) (h0 : 0 ≤ x) (h1 : x ≤ 18446744073709551615) :
    Calls Tryz.prog 38 #[.int .u64 x] w fun e w' => ∃ (ao : Option Addr) (n : Nat), e = .returned (.slice ao n n) ∧ n = (wordsOf x.toNat).length ∧ OwnW w.heap.size w' ao n n (wordsOf x.toNat) ∧ Below w.heap.size w w' := by
  have hv : val [x] = x.toNat := by simp [val]
  have hW : OwnW w.heap.size (w.alloc (.cells #[.int .u64 x] 43)) (some ⟨w.heap.size, 0, none⟩) 1 1 [x] := by
    refine ⟨⟨rfl, fun y hy => ?_, ⟨Nat.le_refl _, fun e => by cases e⟩, fun i hi => ?_⟩, fun b off i e hi => ?_⟩
    · simp at hy; subst hy; exact ⟨h0, h1⟩
    · obtain rfl : i = 0 := by omega
      exact ⟨w.heap.size, 0, rfl, by simp, by go_simp⟩
    · simp only [Option.some.injEq, Addr.mk.injEq, and_true] at e
      obtain ⟨rfl, rfl⟩ := e
      exact ⟨Nat.le_refl _, by go_simp⟩
  have HO : Hid _ := ownW_trim hW
  have HT : Hid _ := trimL_calls _ _ _ [x] _ hW.1 (by omega)
  rw [hv] at HO HT
  go_enter Tryz.func38, Tryz.ntmps38
  go_wp2_with fail
  refine Calls.mono HT.out ?_
  rintro e w1 ⟨rfl, rfl⟩
  go_wp2_with fail
  go_ret
  exact ⟨_, _, rfl, rfl, HO.out, below_one _ _⟩

theorem tz_at (v k : Nat) (x : Int) (hx : x = (wordsOf v).getD k 0) (h0 : 0 < x) (hz : ∀ i, i < k → (wordsOf v).getD i 0 = 0) : tz v = k * 64 + tz x.toNat := by
  have hg := (words_U v).get k
  have hl : val ((wordsOf v).take k) = 0 := by
    rw [← low_take]
    have : ∀ j, j ≤ k → low (wordsOf v) j = 0 := fun j => by
      induction j with
      | zero => intro _; rfl
      | succ j ih => intro hj; show low (wordsOf v) j + _ = 0; rw [ih (by omega), hz j (by omega)]; simp
    exact this k (Nat.le_refl _)
  have hk : k < (wordsOf v).length := by
    rcases Nat.lt_or_ge k (wordsOf v).length with h | h
    · exact h
    · rw [show (wordsOf v).getD k 0 = 0 by simp [List.getD, h]] at hx; omega
  have e := val_split (wordsOf v) (k + 1)
  rw [val_words, val_take_succ _ k hk, hl, ← hx, Nat.zero_add, two64, two64, Nat.min_eq_left (by omega)] at e
  have e2 : v = 2 ^ (64 * k) * (x.toNat + 2 ^ 64 * val ((wordsOf v).drop (k + 1))) := by
    rw [Nat.mul_add, ← Nat.mul_assoc, ← Nat.pow_add, show 64 * k + 64 = 64 * (k + 1) by omega]; exact e
  rw [e2, tz_shift _ _ (by omega), tz_low 64 x.toNat _ (by omega) (by have : (2 : Nat) ^ 64 = 18446744073709551616 := rfl; omega)]; omega

set_option maxHeartbeats 1000000 in
theorem withCount_calls (a : Option Addr) (len cap : Nat) (xs : List Int) (i : Int) (w : World) (h : IsW w a len cap xs) (hm : len ≤ 17592186044416) :
    Calls Tryz.prog 14 #[.slice a len cap, .int .i64 i] w fun e w' => (greatB (val xs) = true → e = .returned (.tuple #[.slice none 0 0, .int .i64 3])) ∧ (greatB (val xs) = false → i < 0 → e = .returned (.tuple #[.slice none 0 0, .int .i64 2])) ∧ (greatB (val xs) = false → 0 ≤ i → ∃ (a1 : Option Addr) (n : Nat), e = .returned (.tuple #[.slice a1 n n, .int .i64 0]) ∧ n = (wordsOf (val xs)).length ∧ n ≤ 1024 ∧ IsW w' a1 n n (wordsOf (val xs))) ∧ Below w.heap.size w w' := by
  have HT := trimN_pack a len cap xs w h hm
  go_enter Tryz.func14, Tryz.ntmps14
  go_wp2_with fail
  refine Calls.mono HT ?_
  rintro e w ⟨a1, n, rfl, hn, hI, rfl⟩
  have HN : Hid (n = (wordsOf (val xs)).length) := hn
  clear hn HT h hm
  go_wp2_with fail
  refine Calls.mono (great1_calls _ a1 n n _ (by go_simp)) ?_
  rintro e w1 ⟨rfl, rfl⟩
  by_cases hg : 1024 < n
  · have e0 : Hid (greatB (val xs) = true) := great_of_len HN.out hg
    go_wp2_with fail
    go_ret2
    exact ⟨fun _ => rfl, (fun q => by rw [e0.out] at q; cases q), (fun q => by rw [e0.out] at q; cases q), below_one _ _⟩
  · have e0 : Hid (greatB (val xs) = false) := fit_of_len HN.out hg
    by_cases hi : i < 0
    · go_wp2_with fail
      go_ret2
      exact ⟨(fun q => by rw [e0.out] at q; cases q), fun _ _ => rfl, (fun _ q => by omega), below_one _ _⟩
    · go_wp2_with fail
      go_ret2
      exact ⟨(fun q => by rw [e0.out] at q; cases q), (fun _ q => by omega), (fun _ _ => ⟨a1, n, rfl, HN.out, by omega, hI.keep (below_one _ _)⟩), below_one _ _⟩

theorem bit_spell2 (x : Int) (k : Nat) (h : 0 ≤ x) (h1 : x ≤ 18446744073709551615) : (bits .and .u64 (x / 2 ^ k) 1 == 1) = decide (x.toNat / 2 ^ k % 2 = 1) := by
  obtain ⟨n, rfl⟩ := Int.eq_ofNat_of_zero_le h
  have e : ((n : Int) / 2 ^ k) = ((n / 2 ^ k : Nat) : Int) := by rw [Int.natCast_ediv, Int.natCast_pow]; rfl
  have hle : n / 2 ^ k ≤ n := Nat.div_le_self _ _
  rw [e, show (1 : Int) = ((1 : Nat) : Int) from rfl, u64_and_nat _ 1 (by omega) (by omega), Nat.and_one_is_mod, Int.toNat_natCast]
  rw [Bool.eq_iff_iff]; simp; omega