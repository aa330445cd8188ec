/- The walks of Shl and Shr as they are called. -/
import Derived.Test.YticjhheceoeilaaDoorNShr
namespace Go.Proofs.YticjhheceoeilaaDoor
open Go.RowKit

theorem low_mod (xs : List Int) (h : AllU xs) : ∀ k, low xs k = val xs % 18446744073709551616 ^ k
  | 0 => by rw [Nat.pow_zero, Nat.mod_one]; rfl
  | k + 1 => by
    show low xs k + 18446744073709551616 ^ k * (xs.getD k 0).toNat = _
    rw [low_mod xs h k, ← val_word xs h k, Nat.pow_succ, Nat.mod_mul]
theorem low_zero (xs : List Int) : ∀ k, (∀ j, j < k → xs.getD j 0 = 0) → low xs k = 0
  | 0, _ => rfl
  | k + 1, h => by
    show low xs k + 18446744073709551616 ^ k * (xs.getD k 0).toNat = 0
    rw [low_zero xs k (fun j hj => h j (by omega)), h k (by omega)]; simp
theorem low_pos (xs : List Int) (k j : Nat) (hj : j < k) (h : 0 < xs.getD j 0) : low xs k ≠ 0 := by
  induction k with
  | zero => omega
  | succ k ih =>
    show low xs k + 18446744073709551616 ^ k * (xs.getD k 0).toNat ≠ 0
    by_cases e : j = k
    · subst e
      have : 0 < 18446744073709551616 ^ j * (xs.getD j 0).toNat := Nat.mul_pos (Nat.pow_pos (by decide)) (by omega)
      omega
    · have := ih (by omega); omega

set_option maxRecDepth 100000 in
set_option maxHeartbeats 4000000 in
theorem any_calls (a : Option Addr) (n m : Nat) (xs : List Int) (w : World) (h : IsW w a n n xs) (hn : n ≤ 1024) (hm : m ≤ 9223372036854775807) :
    Calls Tryd.prog 80 #[.slice a n n, .int .i64 (m : Int)] w fun e w' => e = .returned (.bool (lostB (val xs) m)) ∧ w' = w := by
  obtain ⟨sk, hsk⟩ : ∃ sk, sk = m / 64 := ⟨_, rfl⟩
  have q1 : (m : Int) / 64 = (sk : Int) := by omega
  have HL : Hid (xs.length = n) := h.1.symm
  obtain ⟨K, hK⟩ : ∃ K, K = min sk n := ⟨_, rfl⟩
  have q2 : min (sk : Int) (n : Int) = (K : Int) := by omega
  have HKK : Hid (K = min sk n) := hK
  have hKn : K ≤ n := by omega
  obtain ⟨y, hy, hy1⟩ := word_nat2 xs h.2.1 sk
  have AT : Hid _ := at_calls a n n xs sk w h
  rw [hy] at AT
  obtain ⟨z, hz⟩ : ∃ z : Nat, z = y * 2 ^ (64 - m % 64) % 18446744073709551616 := ⟨_, rfl⟩
  have q3 : IntKind.u64.wrap ((y : Int) * 2 ^ (64 - m % 64)) = (z : Int) := by rw [mul_pow_cast, wrap_nat, hz]
  have HLO : Hid (lostB (val xs) m = decide (low xs sk ≠ 0 ∨ z ≠ 0)) := by
    have h1 := lost_split (val xs) m
    have h2 := val_word xs h.2.1 (m / 64)
    rw [← hsk, hy, Int.toNat_natCast] at h2
    rw [← hsk, ← low_mod xs h.2.1, h2, ← hz] at h1
    rw [Hid, lostB, decide_eq_decide]
    constructor
    · intro q
      by_cases e : low xs sk = 0
      · exact Or.inr (fun e2 => q (h1.2 ⟨e, e2⟩))
      · exact Or.inl e
    · intro q e
      have := h1.1 e
      rcases q with q | q
      · exact q this.1
      · exact q this.2
  have HW : Hid (IsW w a n n xs) := h
  have hg := fun i => h.2.1.get i
  have HG : Hid (∀ i, 0 ≤ xs.getD i 0 ∧ xs.getD i 0 ≤ 18446744073709551615) := hg
  have hcl : Hid (a = none → n = 0) := h.2.2.1.2
  clear hsk hK hy hz hg h
  have end_ok : ∀ k : Nat, k = K → (∀ j, j < k → xs.getD j 0 = 0) → low xs sk = 0 := fun k hk hz => by
    apply low_zero
    intro j hj
    by_cases e : j < k
    · exact hz j e
    · have h1 := HL.out; have h2 := HKK.out
      simp [List.getD, show ¬ j < xs.length by omega]
  have EO : Hid (∀ k : Nat, k = K → (∀ j, j < k → xs.getD j 0 = 0) → low xs sk = 0) := end_ok
  clear end_ok
  cases a with
  | none =>
    obtain rfl := hcl.out rfl
    obtain rfl : K = 0 := by omega
    have HE : Hid (low xs sk = 0) := EO.out 0 rfl (fun j hj => by omega)
    go_enter Tryd.func80, Tryd.ntmps80
    go_wp2_with fail
    refine wp_loop_rounds 1 ?_
    rw [rounds_succ]
    go_wp2_with fail
    refine Calls.mono AT.out ?_
    rintro e w ⟨rfl, rfl⟩
    go_wp2_with fail
    go_ret
    exact ⟨nret_bool (by rw [HLO.out, HE.out]; simp; rw [Bool.eq_iff_iff]; simp), rfl⟩
  | some ad =>
    obtain ⟨b, off, spot⟩ := ad
    go_enter Tryd.func80, Tryd.ntmps80
    go_wp2_with fail
    go_loop [20] (fun q => ∃ k : Nat, k ≤ K ∧ q = .int .i64 k ∧ Hid (∀ j, j < k → xs.getD j 0 = 0)) (fun q => K - (intOf q).toNat)
    case atStart => exact ⟨0, by omega, rfl, fun j hj => by omega⟩
    case round =>
      obtain ⟨k, hk, rfl, HZ⟩ := hrel
      by_cases hlt : k < K
      · obtain ⟨b', off', e1, _, hc⟩ := HW.out.2.2.2 k (by omega)
        simp only [Option.some.injEq, Addr.mk.injEq] at e1
        obtain ⟨rfl, rfl, rfl⟩ := e1
        have hgx := HG.out k
        obtain ⟨x, hx⟩ : ∃ x, x = xs.getD k 0 := ⟨_, rfl⟩
        rw [← hx] at hc hgx
        by_cases h0 : x = 0
        · have d0 : (x != 0) = false := by simp [h0]
          have HZ' : Hid (∀ j, j < k + 1 → xs.getD j 0 = 0) := fun j hj => by
            by_cases e : j = k
            · rw [e, ← hx, h0]
            · exact HZ.out j (by omega)
          clear hx h0
          go_wp2_with fail
          go_round
          case rel => exact ⟨k + 1, by omega, by go_num, HZ'⟩
          case measure => simp [intOf]; omega
        · have d0 : (x != 0) = true := by simp [h0]
          have HV : Hid (lostB (val xs) m = true) := by
            have h1 := HKK.out
            have := low_pos xs sk k (by omega) (by rw [← hx]; omega)
            rw [Hid, HLO.out]; simp [this]
          clear hx h0
          go_wp2_with fail
          go_ret
          exact ⟨nret_bool HV.out.symm, rfl⟩
      · have HE : Hid (low xs sk = 0) := EO.out k (by omega) HZ.out
        go_wp2_with fail
        refine Calls.mono AT.out ?_
        rintro e w ⟨rfl, rfl⟩
        go_wp2_with fail
        go_ret
        exact ⟨nret_bool (by rw [HLO.out, HE.out]; simp; rw [Bool.eq_iff_iff]; simp), rfl⟩

/-- A shift to the left, or why there is none. -/
def shlR (u : Nat) (m : Int) : Nat × Int := if greatB u = true then (0, 3) else if m < 0 then (0, 2) else if u = 0 then (0, 0) else if 65536 - (blen u : Int) < m then (0, 3) else (u * 2 ^ m.toNat, 0)
theorem shlR_great {u : Nat} {m : Int} (h : greatB u = true) : shlR u m = (0, 3) := by unfold shlR; rw [if_pos h]
theorem shlR_neg {u : Nat} {m : Int} (h : greatB u = false) (h2 : m < 0) : shlR u m = (0, 2) := by unfold shlR; rw [if_neg (by rw [h]; decide), if_pos h2]
theorem shlR_zero {u : Nat} {m : Int} (h : greatB u = false) (h2 : 0 ≤ m) (h3 : u = 0) : shlR u m = (0, 0) := by unfold shlR; rw [if_neg (by rw [h]; decide), if_neg (by omega), if_pos h3]
theorem shlR_many {u : Nat} {m : Int} (h : greatB u = false) (h2 : 0 ≤ m) (h3 : u ≠ 0) (h4 : 65536 - (blen u : Int) < m) : shlR u m = (0, 3) := by unfold shlR; rw [if_neg (by rw [h]; decide), if_neg (by omega), if_neg h3, if_pos h4]
theorem shlR_fit {u : Nat} {m : Int} (h : greatB u = false) (h2 : 0 ≤ m) (h3 : u ≠ 0) (h4 : m ≤ 65536 - (blen u : Int)) : shlR u m = (u * 2 ^ m.toNat, 0) := by unfold shlR; rw [if_neg (by rw [h]; decide), if_neg (by omega), if_neg h3, if_neg (by omega)]
theorem blen_mul (u m : Nat) (h : u ≠ 0) : blen (u * 2 ^ m) = m + blen u := by
  have := blen_shift m 0 u (Nat.pow_pos (by decide)) h
  rw [Nat.zero_add, Nat.mul_comm] at this; exact this

set_option maxRecDepth 100000 in
set_option maxHeartbeats 1000000 in
theorem shl_calls (a : Option Addr) (len cap : Nat) (xs : List Int) (i : Int) (w : World) (h : IsW w a len cap xs) (hm : len ≤ 17592186044416) :
    Calls Tryd.prog 84 #[.slice a len cap, .int .i64 i] w fun e w' => ∃ v, e = .returned (.tuple #[v, .int .i64 (shlR (val xs) i).2]) ∧ NatAt w.heap.size w' v (shlR (val xs) i).1 ∧ Below w.heap.size w w' := by
  have HT := withCount_calls a len cap xs i w h hm
  go_enter Tryd.func84, Tryd.ntmps84
  go_wp2_with fail
  refine Calls.mono HT ?_
  rintro e w1 ⟨h1, h2, h3, hb⟩
  clear HT
  cases hg : greatB (val xs) with
  | true =>
    obtain rfl := h1 hg
    have e0 : Hid _ := shlR_great (m := i) hg
    clear h1 h2 h3 hg
    go_wp2_with fail
    go_ret2
    rw [e0.out]
    exact ⟨_, rfl, natAt_nil _ _, hb⟩
  | false =>
    by_cases hi : i < 0
    · obtain rfl := h2 hg hi
      have e0 : Hid _ := shlR_neg hg hi
      clear h1 h2 h3 hg
      go_wp2_with fail
      go_ret2
      rw [e0.out]
      exact ⟨_, rfl, natAt_nil _ _, hb⟩
    · obtain ⟨a1, n, rfl, hn, hn2, hI⟩ := h3 hg (by omega)
      have HN : Hid (n = (wordsOf (val xs)).length) := hn
      have HG : Hid _ := hg
      clear h1 h2 h3 hg hn
      obtain ⟨j, rfl⟩ := Int.eq_ofNat_of_zero_le (show 0 ≤ i by omega)
      by_cases h0 : val xs = 0
      · have e0 : Hid _ := shlR_zero (m := (j : Int)) HG.out (by omega) h0
        have hn0 : n = 0 := by rw [HN.out, h0, words_zero]; rfl
        subst hn0
        clear h0
        go_wp2_with fail
        go_ret2
        rw [e0.out]
        exact ⟨_, rfl, natAt_nil _ _, hb⟩
      · have hn0 : ((n : Int) == 0) = false := by
          have : n ≠ 0 := fun e => h0 ((words_nil _).1 (List.length_eq_zero_iff.1 (by rw [← HN.out]; exact e)))
          simp; omega
        have hbl : blen (val xs) ≤ 65536 := (great_not _).1 HG.out
        have BC : Hid _ := bits_calls a1 n (val xs) w1 hI (by omega)
        by_cases hc : 65536 - (blen (val xs) : Int) < (j : Int)
        · have e0 : Hid _ := shlR_many HG.out (by omega) h0 hc
          clear h0
          go_wp2_with fail
          refine Calls.mono BC.out ?_
          rintro e w1 ⟨rfl, rfl⟩
          go_wp2_with fail
          go_ret2
          rw [e0.out]
          exact ⟨_, rfl, natAt_nil _ _, hb⟩
        · have e0 : Hid _ := shlR_fit HG.out (show 0 ≤ (j : Int) by omega) h0 (show (j : Int) ≤ 65536 - (blen (val xs) : Int) by omega)
          have LC : Hid _ := left_calls a1 n j (wordsOf (val xs)) w1 hI hn2 (by omega)
          have HF : Hid (greatB (val xs * 2 ^ j) = false) := by rw [Hid, great_not, blen_mul _ _ h0]; omega
          clear h0
          go_wp2_with fail
          refine Calls.mono BC.out ?_
          rintro e w1 ⟨rfl, rfl⟩
          go_wp2_with fail
          refine Calls.mono LC.out ?_
          rintro e w2 ⟨ao, k, M, rfl, hO, hv, hk, hb2⟩
          rw [val_words] at hv
          have HV : Hid (val M = val xs * 2 ^ j) := hv
          have hkb : k ≤ 4000 := by omega
          clear hv hk LC BC
          go_wp2_with fail
          refine Calls.mono (answer_calls _ ao k k M w2 hO (by omega)) ?_
          rintro e w3 ⟨v, rfl, hA, hb3⟩
          rw [HV.out, fitR_no HF.out] at hA ⊢
          go_wp2_with fail
          go_ret2
          rw [e0.out, Int.toNat_natCast]
          exact ⟨v, rfl, hA.low hb.size, nbelow_trans (nbelow_trans hb hb2) hb3⟩

/-- A shift to the right, or why there is none. -/
def shrE (u : Nat) (m : Int) : Int := if greatB u = true then 3 else if m < 0 then 2 else 0
def shrQ (u : Nat) (m : Int) : Nat := if greatB u = true then 0 else if m < 0 then 0 else u / 2 ^ m.toNat
def shrL (u : Nat) (m : Int) : Bool := if greatB u = true then false else if m < 0 then false else lostB u m.toNat
theorem shr_great {u : Nat} {m : Int} (h : greatB u = true) : shrE u m = 3 ∧ shrQ u m = 0 ∧ shrL u m = false := by simp [shrE, shrQ, shrL, h]
theorem shr_neg {u : Nat} {m : Int} (h : greatB u = false) (h2 : m < 0) : shrE u m = 2 ∧ shrQ u m = 0 ∧ shrL u m = false := by simp [shrE, shrQ, shrL, h, h2]
theorem shr_fit {u j : Nat} (h : greatB u = false) : shrE u (j : Int) = 0 ∧ shrQ u (j : Int) = u / 2 ^ j ∧ shrL u (j : Int) = lostB u j := by
  have : ¬ (j : Int) < 0 := by omega
  simp [shrE, shrQ, shrL, h, this]

set_option maxRecDepth 100000 in
set_option maxHeartbeats 1000000 in
theorem shr_calls (a : Option Addr) (len cap : Nat) (xs : List Int) (i : Int) (w : World) (h : IsW w a len cap xs) (hm : len ≤ 17592186044416) (hi1 : i ≤ 9223372036854775807) :
    Calls Tryd.prog 48 #[.slice a len cap, .int .i64 i] w fun e w' => ∃ v, e = .returned (.tuple #[v, .bool (shrL (val xs) i), .int .i64 (shrE (val xs) i)]) ∧ NatAt w.heap.size w' v (shrQ (val xs) i) ∧ Below w.heap.size w w' := by
  have HT := withCount_calls a len cap xs i w h hm
  go_enter Tryd.func48, Tryd.ntmps48
  go_wp2_with fail
  refine Calls.mono HT ?_
  rintro e w1 ⟨h1, h2, h3, hb⟩
  clear HT
  cases hg : greatB (val xs) with
  | true =>
    obtain rfl := h1 hg
    have e0 : Hid _ := shr_great (m := i) hg
    clear h1 h2 h3 hg
    go_wp2_with fail
    go_ret3
    rw [e0.out.1, e0.out.2.1, e0.out.2.2]
    exact ⟨_, rfl, natAt_nil _ _, hb⟩
  | false =>
    by_cases hi : i < 0
    · obtain rfl := h2 hg hi
      have e0 : Hid _ := shr_neg hg hi
      clear h1 h2 h3 hg
      go_wp2_with fail
      go_ret3
      rw [e0.out.1, e0.out.2.1, e0.out.2.2]
      exact ⟨_, rfl, natAt_nil _ _, hb⟩
    · obtain ⟨a1, n, rfl, hn, hn2, hI⟩ := h3 hg (by omega)
      obtain ⟨j, rfl⟩ := Int.eq_ofNat_of_zero_le (show 0 ≤ i by omega)
      have HG : Hid _ := hg
      have e0 : Hid _ := shr_fit (j := j) hg
      have HF : Hid (fitR (val xs / 2 ^ j) = (val xs / 2 ^ j, 0)) := fitR_no (great_mono (Nat.div_le_self _ _) hg)
      clear h1 h2 h3 hg hn
      have RC : Hid _ := right_calls a1 n j (wordsOf (val xs)) w1 hI hn2 (by omega)
      go_wp2_with fail
      refine Calls.mono RC.out ?_
      rintro e w2 ⟨ao, k, M, rfl, hO, hv, hk, hb2⟩
      rw [val_words] at hv
      have HV : Hid (val M = val xs / 2 ^ j) := hv
      have hkb : k ≤ 1024 := by omega
      have hI2 := hI.keep hb2
      clear hv hk RC
      go_wp2_with fail
      refine Calls.mono (answer_calls _ ao k k M w2 hO (by omega)) ?_
      rintro e w3 ⟨v, rfl, hA, hb3⟩
      rw [HV.out, HF.out] at hA ⊢
      have hI3 := hI2.keep hb3
      have AC : Hid _ := any_calls a1 n j (wordsOf (val xs)) w3 hI3 hn2 (by omega)
      rw [val_words] at AC
      go_wp2_with fail
      refine Calls.mono AC.out ?_
      rintro e w3 ⟨rfl, rfl⟩
      go_wp2_with fail
      go_ret3
      rw [e0.out.1, e0.out.2.1, e0.out.2.2]
      exact ⟨v, rfl, hA.low hb.size, nbelow_trans (nbelow_trans hb hb2) hb3⟩
end Go.Proofs.YticjhheceoeilaaDoor
