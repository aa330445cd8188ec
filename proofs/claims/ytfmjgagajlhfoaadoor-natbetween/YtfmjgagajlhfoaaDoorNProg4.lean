/- The walks of package nat, fourth part: Norm, Of, Len, Low, Bit, Cmp as they are called. -/
import Derived.Test.YtfmjgagajlhfoaaDoorNProg3
namespace Go.Proofs.YtfmjgagajlhfoaaDoor
open Go.RowKit

theorem great_of_len {v n : Nat} (hn : n = (wordsOf v).length) (h : 1024 < n) : greatB v = true := by rw [greatB, ← hn]; simpa using h
theorem fit_of_len {v n : Nat} (hn : n = (wordsOf v).length) (h : ¬ 1024 < n) : greatB v = false := by rw [greatB, ← hn]; simpa using h
theorem len_of_great {v n : Nat} (hn : n = (wordsOf v).length) (h : greatB v = true) : 1024 < n := by rw [greatB, ← hn] at h; simpa using h
theorem len_of_fit {v n : Nat} (hn : n = (wordsOf v).length) (h : greatB v = false) : n ≤ 1024 := by rw [greatB, ← hn] at h; simpa using h

set_option maxHeartbeats 1000000 in
theorem norm_calls (a : Option Addr) (len cap : Nat) (xs : List Int) (w : World) (h : IsW w a len cap xs) (hm : len ≤ 17592186044416) :
    Calls Tryd.prog 14 #[.slice a len cap] w fun e w' => ∃ v, e = .returned (.tuple #[v, .int .i64 (fitR (val xs)).2]) ∧ NatAt w.heap.size w' v (fitR (val xs)).1 ∧ Below w.heap.size w w' := by
  have HT := trimN_pack a len cap xs w h hm
  go_enter Tryd.func14, Tryd.ntmps14
  go_wp2_with fail
  refine Calls.mono HT ?_
  rintro e w ⟨a1, n, rfl, hn, hI, rfl⟩
  have HN : Hid (n = (wordsOf (val xs)).length) := hn
  clear hn HT h hm
  go_wp2_with fail
  refine Calls.mono (great1_calls _ a1 n n _ (by go_simp)) ?_
  rintro e w1 ⟨rfl, rfl⟩
  by_cases hg : 1024 < n
  · have e0 : Hid (greatB (val xs) = true) := great_of_len HN.out hg
    go_wp2_with fail
    go_ret2
    rw [fitR_yes e0.out]
    exact ⟨_, rfl, natAt_nil _ _, below_one _ _⟩
  · go_wp2_with fail
    refine Calls.mono (copied_calls a1 n (wordsOf (val xs)) _ (hI.keep (below_one _ _)) (by omega)) ?_
    rintro e w2 ⟨ao, cv, rfl, hO, hb2⟩
    go_wp2_with fail
    refine Calls.mono (answer_calls _ ao n cv (wordsOf (val xs)) _ hO (by omega)) ?_
    rintro e w3 ⟨v, rfl, hA, hb3⟩
    rw [val_words] at hA ⊢
    go_wp2_with fail
    go_ret2
    exact ⟨v, rfl, hA.low (by simp), nbelow_trans (nbelow_trans (below_one _ _) hb2) hb3⟩

set_option maxHeartbeats 400000 in
theorem word_calls (x : Int) (w : World) (h0 : 0 ≤ x) (h1 : x ≤ 18446744073709551615) :
    Calls Tryd.prog 55 #[.int .u64 x] w fun e w' => ∃ (ao : Option Addr) (n : Nat), e = .returned (.slice ao n n) ∧ n = (wordsOf x.toNat).length ∧ OwnW w.heap.size w' ao n n (wordsOf x.toNat) ∧ Below w.heap.size w w' := by
  have hv : val [x] = x.toNat := by simp [val]
  have hW : OwnW w.heap.size (w.alloc (.cells #[.int .u64 x] 39)) (some ⟨w.heap.size, 0, none⟩) 1 1 [x] := by
    refine ⟨⟨rfl, fun y hy => ?_, ⟨Nat.le_refl _, fun e => by cases e⟩, fun i hi => ?_⟩, fun b off i e hi => ?_⟩
    · simp at hy; subst hy; exact ⟨h0, h1⟩
    · obtain rfl : i = 0 := by omega
      exact ⟨w.heap.size, 0, rfl, by simp, by go_simp⟩
    · simp only [Option.some.injEq, Addr.mk.injEq, and_true] at e
      obtain ⟨rfl, rfl⟩ := e
      exact ⟨Nat.le_refl _, by go_simp⟩
  have HO : Hid _ := ownW_trim hW
  have HT : Hid _ := trimL_calls _ _ _ [x] _ hW.1 (by omega)
  rw [hv] at HO HT
  go_enter Tryd.func55, Tryd.ntmps55
  go_wp2_with fail
  refine Calls.mono HT.out ?_
  rintro e w1 ⟨rfl, rfl⟩
  go_wp2_with fail
  go_ret
  exact ⟨_, _, rfl, rfl, HO.out, below_one _ _⟩

set_option maxHeartbeats 1000000 in
theorem len_calls (a : Option Addr) (len cap : Nat) (xs : List Int) (w : World) (h : IsW w a len cap xs) (hm : len ≤ 17592186044416) :
    Calls Tryd.prog 18 #[.slice a len cap] w fun e w' => (greatB (val xs) = true → e = .returned (.tuple #[.int .i64 0, .int .i64 3])) ∧ (greatB (val xs) = false → e = .returned (.tuple #[.int .i64 (blen (val xs)), .int .i64 0])) ∧ Below w.heap.size w w' := by
  have HT := trimN_pack a len cap xs w h hm
  go_enter Tryd.func18, Tryd.ntmps18
  go_wp2_with fail
  refine Calls.mono HT ?_
  rintro e w ⟨a1, n, rfl, hn, hI, rfl⟩
  have HN : Hid (n = (wordsOf (val xs)).length) := hn
  clear hn HT h hm
  go_wp2_with fail
  refine Calls.mono (great1_calls _ a1 n n _ (by go_simp)) ?_
  rintro e w1 ⟨rfl, rfl⟩
  by_cases hg : 1024 < n
  · have e0 : Hid (greatB (val xs) = true) := great_of_len HN.out hg
    go_wp2_with fail
    go_ret2
    exact ⟨fun _ => rfl, (fun q => by rw [e0.out] at q; cases q), below_one _ _⟩
  · have e0 : Hid (greatB (val xs) = false) := fit_of_len HN.out hg
    go_wp2_with fail
    refine Calls.mono (bits_calls a1 n (val xs) _ (hI.keep (below_one _ _)) (by omega)) ?_
    rintro e w2 ⟨rfl, rfl⟩
    go_wp2_with fail
    go_ret2
    exact ⟨(fun q => by rw [e0.out] at q; cases q), fun _ => rfl, below_one _ _⟩

theorem tz_at (v k : Nat) (x : Int) (hx : x = (wordsOf v).getD k 0) (h0 : 0 < x) (hz : ∀ i, i < k → (wordsOf v).getD i 0 = 0) : tz v = k * 64 + tz x.toNat := by
  have hg := (words_U v).get k
  have hl : val ((wordsOf v).take k) = 0 := by
    rw [← low_take]
    have : ∀ j, j ≤ k → low (wordsOf v) j = 0 := fun j => by
      induction j with
      | zero => intro _; rfl
      | succ j ih => intro hj; show low (wordsOf v) j + _ = 0; rw [ih (by omega), hz j (by omega)]; simp
    exact this k (Nat.le_refl _)
  have hk : k < (wordsOf v).length := by
    rcases Nat.lt_or_ge k (wordsOf v).length with h | h
    · exact h
    · rw [show (wordsOf v).getD k 0 = 0 by simp [List.getD, h]] at hx; omega
  have e := val_split (wordsOf v) (k + 1)
  rw [val_words, val_take_succ _ k hk, hl, ← hx, Nat.zero_add, two64, two64, Nat.min_eq_left (by omega)] at e
  have e2 : v = 2 ^ (64 * k) * (x.toNat + 2 ^ 64 * val ((wordsOf v).drop (k + 1))) := by
    rw [Nat.mul_add, ← Nat.mul_assoc, ← Nat.pow_add, show 64 * k + 64 = 64 * (k + 1) by omega]; exact e
  rw [e2, tz_shift _ _ (by omega), tz_low 64 x.toNat _ (by omega) (by have : (2 : Nat) ^ 64 = 18446744073709551616 := rfl; omega)]; omega

set_option maxRecDepth 100000 in
set_option maxHeartbeats 1000000 in
theorem low_calls (a : Option Addr) (len cap : Nat) (xs : List Int) (w : World) (h : IsW w a len cap xs) (hm : len ≤ 17592186044416) (hT : Tab w) :
    Calls Tryd.prog 19 #[.slice a len cap] w fun e w' => (greatB (val xs) = true → e = .returned (.tuple #[.int .i64 0, .int .i64 3])) ∧ (greatB (val xs) = false → e = .returned (.tuple #[.int .i64 (tz (val xs)), .int .i64 0])) ∧ Below w.heap.size w w' := by
  have HT := trimN_pack a len cap xs w h hm
  go_enter Tryd.func19, Tryd.ntmps19
  go_wp2_with fail
  refine Calls.mono HT ?_
  rintro e w ⟨a1, n, rfl, hn, hI, rfl⟩
  have HN : Hid (n = (wordsOf (val xs)).length) := hn
  clear hn HT h hm
  go_wp2_with fail
  refine Calls.mono (great1_calls _ a1 n n _ (by go_simp)) ?_
  rintro e w1 ⟨rfl, rfl⟩
  by_cases hg : 1024 < n
  · have e0 : Hid (greatB (val xs) = true) := great_of_len HN.out hg
    go_wp2_with fail
    go_ret2
    exact ⟨fun _ => rfl, (fun q => by rw [e0.out] at q; cases q), below_one _ _⟩
  · have e0 : Hid (greatB (val xs) = false) := fit_of_len HN.out hg
    have hb := below_one w (.cells #[.slice a1 n n] 46)
    have hI2 := hI.keep hb
    have hT2 := hT.kept hb
    generalize w.alloc (.cells #[.slice a1 n n] 46) = w1 at hb hI2 hT2 ⊢
    clear hI hT
    go_wp2_with fail
    go_loop [14] (fun q => ∃ k : Nat, k ≤ n ∧ q = .int .i64 k ∧ ∀ i, i < k → (wordsOf (val xs)).getD i 0 = 0) (fun q => n - (intOf q).toNat)
    case atStart => exact ⟨0, by omega, rfl, fun i hi => by omega⟩
    case round =>
      obtain ⟨k, hk, rfl, hz⟩ := hrel
      have HZ : Hid (∀ i, i < k → (wordsOf (val xs)).getD i 0 = 0) := hz
      clear hz
      by_cases hlt : k < n
      · obtain ⟨b, off, ha, _, hc⟩ := hI2.2.2.2 k hlt
        subst ha
        have hgx := (words_U (val xs)).get k
        obtain ⟨x, hx⟩ : ∃ x, x = (wordsOf (val xs)).getD k 0 := ⟨_, rfl⟩
        rw [← hx] at hc hgx
        by_cases h0 : x = 0
        · have d0 : (x != 0) = false := by simp [h0]
          have HZ' : Hid (∀ i, i < k + 1 → (wordsOf (val xs)).getD i 0 = 0) := fun i hi => by
            by_cases e : i = k
            · rw [e, ← hx, h0]
            · exact HZ.out i (by omega)
          clear hx h0
          go_wp2_with fail
          go_round
          case rel => exact ⟨k + 1, by omega, by go_num, HZ'.out⟩
          case measure => simp [intOf]; omega
        · have d0 : (x != 0) = true := by simp [h0]
          have HV : Hid _ := tz_at (val xs) k x hx (by omega) HZ.out
          have HZV : Hid (tzV x = tz x.toNat) := by
            rw [Hid, tzV, tz_lib x.toNat (by omega) (by have : (2 : Nat) ^ 64 = 18446744073709551616 := rfl; omega)]
          have hbd := tzV_bd x hgx
          have hp : 0 < x := by omega
          clear hx h0
          go_wp2_with fail
          refine Calls.mono (tz_calls x w1 hp hgx.2 hT2) ?_
          rintro e w1 ⟨rfl, rfl⟩
          go_wp2_with fail
          go_ret2
          exact ⟨(fun q => by rw [e0.out] at q; cases q), (fun _ => by rw [HV.out, HZV.out]; go_num), hb⟩
      · have HV : Hid (tz (val xs) = 0) := by
          by_cases hv : val xs = 0
          · rw [Hid, hv, tz_zero]
          · have h1 := words_last _ hv
            have h2 : 0 < (wordsOf (val xs)).length := by
              rcases Nat.eq_zero_or_pos (wordsOf (val xs)).length with h1 | h1
              · exact absurd ((words_nil _).1 (List.length_eq_zero_iff.1 h1)) hv
              · exact h1
            exact absurd (HZ.out _ (by have := HN.out; omega)) h1
        go_wp2_with fail
        go_ret2
        exact ⟨(fun q => by rw [e0.out] at q; cases q), (fun _ => by rw [HV.out]; rfl), hb⟩

set_option maxHeartbeats 1000000 in
theorem withCount_calls (a : Option Addr) (len cap : Nat) (xs : List Int) (i : Int) (w : World) (h : IsW w a len cap xs) (hm : len ≤ 17592186044416) :
    Calls Tryd.prog 40 #[.slice a len cap, .int .i64 i] w fun e w' => (greatB (val xs) = true → e = .returned (.tuple #[.slice none 0 0, .int .i64 3])) ∧ (greatB (val xs) = false → i < 0 → e = .returned (.tuple #[.slice none 0 0, .int .i64 2])) ∧ (greatB (val xs) = false → 0 ≤ i → ∃ (a1 : Option Addr) (n : Nat), e = .returned (.tuple #[.slice a1 n n, .int .i64 0]) ∧ n = (wordsOf (val xs)).length ∧ n ≤ 1024 ∧ IsW w' a1 n n (wordsOf (val xs))) ∧ Below w.heap.size w w' := by
  have HT := trimN_pack a len cap xs w h hm
  go_enter Tryd.func40, Tryd.ntmps40
  go_wp2_with fail
  refine Calls.mono HT ?_
  rintro e w ⟨a1, n, rfl, hn, hI, rfl⟩
  have HN : Hid (n = (wordsOf (val xs)).length) := hn
  clear hn HT h hm
  go_wp2_with fail
  refine Calls.mono (great1_calls _ a1 n n _ (by go_simp)) ?_
  rintro e w1 ⟨rfl, rfl⟩
  by_cases hg : 1024 < n
  · have e0 : Hid (greatB (val xs) = true) := great_of_len HN.out hg
    go_wp2_with fail
    go_ret2
    exact ⟨fun _ => rfl, (fun q => by rw [e0.out] at q; cases q), (fun q => by rw [e0.out] at q; cases q), below_one _ _⟩
  · have e0 : Hid (greatB (val xs) = false) := fit_of_len HN.out hg
    by_cases hi : i < 0
    · go_wp2_with fail
      go_ret2
      exact ⟨(fun q => by rw [e0.out] at q; cases q), fun _ _ => rfl, (fun _ q => by omega), below_one _ _⟩
    · go_wp2_with fail
      go_ret2
      exact ⟨(fun q => by rw [e0.out] at q; cases q), (fun _ q => by omega), (fun _ _ => ⟨a1, n, rfl, HN.out, by omega, hI.keep (below_one _ _)⟩), below_one _ _⟩

theorem bit_spell2 (x : Int) (k : Nat) (h : 0 ≤ x) (h1 : x ≤ 18446744073709551615) : (bits .and .u64 (x / 2 ^ k) 1 == 1) = decide (x.toNat / 2 ^ k % 2 = 1) := by
  obtain ⟨n, rfl⟩ := Int.eq_ofNat_of_zero_le h
  have e : ((n : Int) / 2 ^ k) = ((n / 2 ^ k : Nat) : Int) := by rw [Int.natCast_ediv, Int.natCast_pow]; rfl
  have hle : n / 2 ^ k ≤ n := Nat.div_le_self _ _
  rw [e, show (1 : Int) = ((1 : Nat) : Int) from rfl, u64_and_nat _ 1 (by omega) (by omega), Nat.and_one_is_mod, Int.toNat_natCast]
  rw [Bool.eq_iff_iff]; simp; omega

set_option maxHeartbeats 1000000 in
theorem bit_calls (a : Option Addr) (len cap : Nat) (xs : List Int) (i : Int) (w : World) (h : IsW w a len cap xs) (hm : len ≤ 17592186044416) (hi1 : i ≤ 9223372036854775807) :
    Calls Tryd.prog 20 #[.slice a len cap, .int .i64 i] w fun e w' => (greatB (val xs) = true → e = .returned (.tuple #[.bool false, .int .i64 3])) ∧ (greatB (val xs) = false → i < 0 → e = .returned (.tuple #[.bool false, .int .i64 2])) ∧ (greatB (val xs) = false → 0 ≤ i → e = .returned (.tuple #[.bool ((val xs).testBit i.toNat), .int .i64 0])) ∧ Below w.heap.size w w' := by
  have HT := withCount_calls a len cap xs i w h hm
  go_enter Tryd.func20, Tryd.ntmps20
  go_wp2_with fail
  refine Calls.mono HT ?_
  rintro e w1 ⟨h1, h2, h3, hb⟩
  clear HT
  by_cases hg : greatB (val xs) = true
  · obtain rfl := h1 hg
    have e0 : Hid (greatB (val xs) = true) := hg
    clear h1 h2 h3 hg
    go_wp2_with fail
    go_ret2
    exact ⟨fun _ => rfl, (fun q => by rw [e0.out] at q; cases q), (fun q => by rw [e0.out] at q; cases q), hb⟩
  · have hf : greatB (val xs) = false := by simpa using hg
    have e0 : Hid (greatB (val xs) = false) := hf
    by_cases hi : i < 0
    · obtain rfl := h2 hf hi
      clear h1 h2 h3 hg hf
      go_wp2_with fail
      go_ret2
      exact ⟨(fun q => by rw [e0.out] at q; cases q), fun _ _ => rfl, (fun _ q => by omega), hb⟩
    · obtain ⟨a1, n, rfl, hn, hn2, hI⟩ := h3 hf (by omega)
      have HN : Hid (n = (wordsOf (val xs)).length) := hn
      clear h1 h2 h3 hg hf hn
      obtain ⟨j, rfl⟩ := Int.eq_ofNat_of_zero_le (show 0 ≤ i by omega)
      have hx := (words_U (val xs)).get (j / 64)
      have HV : Hid _ := val_bit (wordsOf (val xs)) (words_U _) j
      rw [val_words] at HV
      have HW := at_calls a1 n n (wordsOf (val xs)) (j / 64) w1 hI
      obtain ⟨x, hx2⟩ : ∃ x, x = (wordsOf (val xs)).getD (j / 64) 0 := ⟨_, rfl⟩
      rw [← hx2] at HV HW hx
      clear hx2
      have HW1 : Hid (Calls Tryd.prog 45 #[.slice a1 n n, .int .i64 ((j : Int) / 64)] w1 fun e w' => e = .returned (.int .u64 x) ∧ w' = w1) := by
        rw [show ((j : Int) / 64) = ((j / 64 : Nat) : Int) by omega]; exact HW
      clear HW
      go_wp2_with fail
      refine Calls.mono HW1.out ?_
      rintro e w1 ⟨rfl, rfl⟩
      go_wp2_with fail
      go_ret2
      refine ⟨(fun q => by rw [e0.out] at q; cases q), (fun _ q => by omega), (fun _ _ => ?_), hb⟩
      rw [bit_spell2 x _ hx.1 hx.2, Int.toNat_natCast, HV.out]
      rfl