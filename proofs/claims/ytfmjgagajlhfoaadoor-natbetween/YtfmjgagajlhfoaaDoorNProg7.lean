/- The walks of package nat, seventh part: Add and Sub as they are called. -/
import Derived.Test.YtfmjgagajlhfoaaDoorNProg6
namespace Go.Proofs.YtfmjgagajlhfoaaDoor
open Go.RowKit

theorem plus_val (xs ys M : List Int) (K c : Nat) (hx : AllU xs) (hy : AllU ys) (hxl : xs.length ≤ K) (hyl : ys.length ≤ K) (h : val M + 18446744073709551616 ^ (K + 1) * c = low xs (K + 1) + low ys (K + 1)) : val M = val xs + val ys := by
  rw [low_all xs _ (by omega), low_all ys _ (by omega)] at h
  have h1 : val xs < 18446744073709551616 ^ K := Nat.lt_of_lt_of_le (val_lt xs hx) (Nat.pow_le_pow_right (by decide) hxl)
  have h2 : val ys < 18446744073709551616 ^ K := Nat.lt_of_lt_of_le (val_lt ys hy) (Nat.pow_le_pow_right (by decide) hyl)
  have hc : c = 0 := by
    rcases Nat.eq_zero_or_pos c with h0 | h0
    · exact h0
    · rw [Nat.pow_succ] at h
      generalize 18446744073709551616 ^ K = P at h h1 h2
      have h3 : P * 18446744073709551616 ≤ P * 18446744073709551616 * c := Nat.le_mul_of_pos_right _ h0
      generalize P * 18446744073709551616 * c = Q at h h3
      omega
  rw [hc, Nat.mul_zero, Nat.add_zero] at h
  exact h
theorem less_val (xs ys M : List Int) (n c : Nat) (hM : AllU M) (hMl : M.length = n) (hxl : xs.length ≤ n) (hyl : ys.length ≤ n) (hle : val ys ≤ val xs) (h : val M + low ys n = low xs n + 18446744073709551616 ^ n * c) : val M = val xs - val ys := by
  rw [low_all xs _ hxl, low_all ys _ hyl] at h
  have h1 := val_lt M hM
  rw [hMl] at h1
  have hc : c = 0 := by
    rcases Nat.eq_zero_or_pos c with h0 | h0
    · exact h0
    · generalize 18446744073709551616 ^ n = P at h h1
      have h3 : P ≤ P * c := Nat.le_mul_of_pos_right _ h0
      generalize P * c = Q at h h3
      omega
  rw [hc, Nat.mul_zero, Nat.add_zero] at h
  omega

set_option maxRecDepth 100000 in
set_option maxHeartbeats 1000000 in
theorem plus_calls (a b : Option Addr) (n m : Nat) (xs ys : List Int) (w : World) (hA : IsW w a n n xs) (hB : IsW w b m m ys) (hn : n ≤ 17592186044415) (hm : m ≤ 17592186044415) :
    Calls Tryd.prog 39 #[.slice a n n, .slice b m m] w fun e w' => ∃ (ao : Option Addr) (k : Nat) (M : List Int), e = .returned (.slice ao k k) ∧ OwnW w.heap.size w' ao k k M ∧ val M = val xs + val ys ∧ k = max n m + 1 ∧ Below w.heap.size w w' := by
  have hmf : ∀ (fn : Fn) (first cap : Array Value) (w : World), (Instr.makeFunc fn first cap).run Tryd.prog w = .ok (.func fn first cap) w := fun _ _ _ _ => rfl
  have X1 : Hid (xs.length = n) := hA.1.symm
  have Y1 : Hid (ys.length = m) := hB.1.symm
  have HT : Hid _ := throughS_calls w (w.alloc (.cells #[.int .u64 0] 95)) w.heap.size (max n m + 1) a b n m xs ys (by omega) (below_one _ _) (Nat.le_refl _) (by simp) (by go_simp) (by go_simp) hA hB
  have em : (max (n : Int) m + 1) = ((max n m + 1 : Nat) : Int) := by omega
  have EM : Hid ((max (n : Int) m + 1) = ((max n m + 1 : Nat) : Int)) := em
  clear em
  go_enter Tryd.func39, Tryd.ntmps39
  go_wp2_with fail
  rw [EM.out]
  refine Calls.mono HT.out ?_
  rintro e w1 ⟨M, c, rfl, hO, hv, hb⟩
  have HV : Hid _ := hv
  rw [World.size_alloc] at hO
  clear hv hmf
  go_wp2_with fail
  go_ret
  exact ⟨_, _, M, rfl, hO.low (B' := w.heap.size) (by simp), plus_val xs ys M (max n m) c hA.2.1 hB.2.1 (by have := X1.out; omega) (by have := Y1.out; omega) HV.out, rfl, hb⟩

set_option maxRecDepth 100000 in
set_option maxHeartbeats 1000000 in
theorem lessW_calls (a b : Option Addr) (n m : Nat) (xs ys : List Int) (w : World) (hA : IsW w a n n xs) (hB : IsW w b m m ys) (hn : n ≤ 17592186044415) (hm : m ≤ n) (hle : val ys ≤ val xs) :
    Calls Tryd.prog 60 #[.slice a n n, .slice b m m] w fun e w' => ∃ (ao : Option Addr) (M : List Int), e = .returned (.slice ao n n) ∧ OwnW w.heap.size w' ao n n M ∧ val M = val xs - val ys ∧ Below w.heap.size w w' := by
  have hmf : ∀ (fn : Fn) (first cap : Array Value) (w : World), (Instr.makeFunc fn first cap).run Tryd.prog w = .ok (.func fn first cap) w := fun _ _ _ _ => rfl
  have X1 : Hid (xs.length = n) := hA.1.symm
  have Y1 : Hid (ys.length = m) := hB.1.symm
  have HT : Hid _ := throughD_calls w (w.alloc (.cells #[.int .u64 0] 95)) w.heap.size n a b n m xs ys (by omega) (below_one _ _) (Nat.le_refl _) (by simp) (by go_simp) (by go_simp) hA hB
  have HLE : Hid (val ys ≤ val xs) := hle
  clear hle
  go_enter Tryd.func60, Tryd.ntmps60
  go_wp2_with fail
  refine Calls.mono HT.out ?_
  rintro e w1 ⟨M, c, rfl, hO, hv, hb⟩
  have HV : Hid _ := hv
  rw [World.size_alloc] at hO
  clear hv hmf
  go_wp2_with fail
  go_ret
  exact ⟨_, M, rfl, hO.low (B' := w.heap.size) (by simp), less_val xs ys M n c hO.1.2.1 hO.1.1.symm (by have := X1.out; omega) (by have := Y1.out; omega) HLE.out HV.out, hb⟩

/-- The sum, or why there is none. -/
def addR (u v : Nat) : Nat × Int := if (greatB u || greatB v) = true then (0, 3) else fitR (u + v)
/-- The difference, or why there is none. -/
def subR (u v : Nat) : Nat × Int := if (greatB u || greatB v) = true then (0, 3) else if u < v then (0, 31) else (u - v, 0)
theorem addR_yes {u v : Nat} (h : (greatB u || greatB v) = true) : addR u v = (0, 3) := by unfold addR; rw [if_pos h]
theorem addR_no {u v : Nat} (h : (greatB u || greatB v) = false) : addR u v = fitR (u + v) := by unfold addR; rw [if_neg (by rw [h]; decide)]
theorem subR_yes {u v : Nat} (h : (greatB u || greatB v) = true) : subR u v = (0, 3) := by unfold subR; rw [if_pos h]
theorem subR_less {u v : Nat} (h : (greatB u || greatB v) = false) (hl : u < v) : subR u v = (0, 31) := by unfold subR; rw [if_neg (by rw [h]; decide), if_pos hl]
theorem subR_no {u v : Nat} (h : (greatB u || greatB v) = false) (hl : v ≤ u) : subR u v = (u - v, 0) := by unfold subR; rw [if_neg (by rw [h]; decide), if_neg (by omega)]
theorem words_mono {u v : Nat} (h : v ≤ u) : (wordsOf v).length ≤ (wordsOf u).length := by
  rw [words_len]; exact Nat.lt_of_le_of_lt h ((words_len _ u).1 (Nat.le_refl _))

set_option maxHeartbeats 1000000 in
theorem add_calls (a a' : Option Addr) (len cap len' cap' : Nat) (xs ys : List Int) (w : World) (h : IsW w a len cap xs) (h' : IsW w a' len' cap' ys) (hm : len ≤ 17592186044416) (hm' : len' ≤ 17592186044416) :
    Calls Tryd.prog 15 #[.slice a len cap, .slice a' len' cap'] w fun e w' => ∃ v, e = .returned (.tuple #[v, .int .i64 (addR (val xs) (val ys)).2]) ∧ NatAt w.heap.size w' v (addR (val xs) (val ys)).1 ∧ Below w.heap.size w w' := by
  have HT := trimN_pack a len cap xs w h hm
  have HT' := trimN_pack a' len' cap' ys w h' hm'
  go_enter Tryd.func15, Tryd.ntmps15
  go_wp2_with fail
  refine Calls.mono HT ?_
  rintro e w ⟨a1, n, rfl, hn, hI, rfl⟩
  have HN : Hid (n = (wordsOf (val xs)).length) := hn
  clear hn HT h hm
  go_wp2_with fail
  refine Calls.mono HT' ?_
  rintro e w ⟨a2, n', rfl, hn', hI', rfl⟩
  have HN' : Hid (n' = (wordsOf (val ys)).length) := hn'
  clear hn' HT' h' hm'
  go_wp2_with fail
  refine Calls.mono (great2_calls _ a1 a2 n n n' n' _ (by go_simp) (by go_simp)) ?_
  rintro e w1 ⟨rfl, rfl⟩
  cases hd : (decide (1024 < n) || decide (1024 < n')) with
  | true =>
    have e0 : Hid ((greatB (val xs) || greatB (val ys)) = true) := by
      rw [Hid, greatB, greatB, ← HN.out, ← HN'.out]; exact hd
    clear hd
    go_wp2_with fail
    go_ret2
    rw [addR_yes e0.out]
    exact ⟨_, rfl, natAt_nil _ _, below_one _ _⟩
  | false =>
    have e0 : Hid ((greatB (val xs) || greatB (val ys)) = false) := by
      rw [Hid, greatB, greatB, ← HN.out, ← HN'.out]; exact hd
    have hle : n ≤ 1024 ∧ n' ≤ 1024 := by simpa using hd
    clear hd
    go_wp2_with fail
    refine Calls.mono (plus_calls a1 a2 n n' _ _ _ (hI.keep (below_one _ _)) (hI'.keep (below_one _ _)) (by omega) (by omega)) ?_
    rintro e w2 ⟨ao, k, M, rfl, hO, hv, hk, hb2⟩
    rw [val_words, val_words] at hv
    have HV : Hid (val M = val xs + val ys) := hv
    have hk2 : k ≤ 1025 := by omega
    clear hv hk
    go_wp2_with fail
    refine Calls.mono (answer_calls _ ao k k M _ hO (by omega)) ?_
    rintro e w3 ⟨v, rfl, hA, hb3⟩
    rw [HV.out, ← addR_no e0.out] at hA ⊢
    go_wp2_with fail
    go_ret2
    exact ⟨v, rfl, hA.low (by simp), nbelow_trans (nbelow_trans (below_one _ _) hb2) hb3⟩