/- Plain facts for texts there and back, for roots between, for lengths. -/
import Derived.Test.YtfmjgagajlhfoaaDoorNTX
import Derived.Test.YtfmjgagajlhfoaaDoorNRX
import Derived.Test.YtfmjgagajlhfoaaDoorNEq
namespace Go.Proofs.YtfmjgagajlhfoaaDoor
open Go.RowKit

theorem dec_byte (d : Nat) (h : d < 10) : (UInt8.ofNat (48 + d)).toNat = 48 + d := by
  have e : (UInt8.ofNat (48 + d)).toNat = (48 + d) % 256 := by simp
  omega
theorem decV_dec (v : Nat) : decV (Lib.decDigits v) = v := by
  induction v using Nat.strongRecOn with
  | ind v ih =>
    by_cases h : v < 10
    · rw [dec_small h]
      have := decV_snoc [] (UInt8.ofNat (48 + v))
      rw [List.nil_append, decV_nil] at this
      rw [this, dec_byte v h]; omega
    · rw [dec_big h, decV_snoc, ih _ (by omega), dec_byte _ (Nat.mod_lt _ (by decide))]; omega
theorem dec_ne (v : Nat) : Lib.decDigits v ≠ [] := fun e => by
  have h1 := congrArg List.length e
  rw [Lib.decDigits_length] at h1
  have := Lib.nDigits_pos v
  simp at h1; omega
theorem getD_append_one (l : List UInt8) (b : UInt8) (j : Nat) (h : j < (l ++ [b]).length) : (l ++ [b]).getD j 0 = if j < l.length then l.getD j 0 else b := by
  simp only [List.length_append, List.length_cons, List.length_nil] at h
  by_cases q : j < l.length
  · rw [if_pos q]; simp [List.getD, List.getElem?_append_left q]
  · rw [if_neg q]
    have e : j = l.length := by omega
    subst e
    simp [List.getD]
theorem dec_all (v : Nat) : AllD (Lib.decDigits v) := by
  induction v using Nat.strongRecOn with
  | ind v ih =>
    by_cases h : v < 10
    · rw [dec_small h]
      intro j hj
      have : j = 0 := by simp at hj; omega
      subst this
      show 48 ≤ (UInt8.ofNat (48 + v)).toNat ∧ (UInt8.ofNat (48 + v)).toNat ≤ 57
      rw [dec_byte v h]; omega
    · rw [dec_big h]
      intro j hj
      rw [getD_append_one _ _ _ hj]
      split
      · rename_i q; exact ih _ (by omega) j q
      · rw [dec_byte _ (Nat.mod_lt _ (by decide))]; omega
theorem dec_first (v : Nat) (h : v ≠ 0) : ((Lib.decDigits v).getD 0 0).toNat ≠ 48 := by
  induction v using Nat.strongRecOn with
  | ind v ih =>
    by_cases q : v < 10
    · rw [dec_small q]
      show (UInt8.ofNat (48 + v)).toNat ≠ 48
      rw [dec_byte v q]; omega
    · rw [dec_big q, getD_append_one _ _ _ (by simp), if_pos (List.length_pos_iff.2 (dec_ne _))]
      exact ih _ (by omega) (by omega)
theorem dec_mis (v : Nat) : misK (Lib.decDigits v) = (Lib.decDigits v).length := by
  rcases mis_case (Lib.decDigits v) with h | h
  · exfalso
    have hd := dec_all v _ h
    rcases bad_digit (mis_bad _ h) with q | q | ⟨q1, q2, q3, q4⟩
    · omega
    · omega
    · have hv : v ≠ 0 := fun e => by
        have hl : (Lib.decDigits v).length = 1 := by rw [e, dec_small (by decide)]; rfl
        omega
      exact dec_first v hv q4
  · exact h
theorem par_dec (v : Nat) (h : (Lib.decDigits v).length ≤ 4096) : parE (Lib.decDigits v) = 0 ∧ parI (Lib.decDigits v) = 0 ∧ parN (Lib.decDigits v) = v := by
  have := par_good (l := Lib.decDigits v) (by omega) (dec_ne v) (dec_mis v)
  rw [decV_dec] at this; exact this
theorem root_next {k v : Nat} (hk : 2 ≤ k) (hg : greatB v = false) : addR (rt k v) 1 = (rt k v + 1, 0) := by
  have h1 := rt_spec k v (by omega)
  have hr := great_mono (rt_self (k := k) (v := v) (by omega)) hg
  have h2 : greatB (rt k v + 1) = false := by
    rcases Nat.lt_or_ge (rt k v) 2 with q | q
    · exact great_mono (show rt k v + 1 ≤ 2 by omega) ((great_not 2).2 (by decide))
    · refine great_mono (b := v) ?_ hg
      have h3 : rt k v ^ 2 ≤ rt k v ^ k := Nat.pow_le_pow_right (by omega) hk
      have h4 : 2 * rt k v ≤ rt k v ^ 2 := by rw [Nat.pow_two]; exact Nat.mul_le_mul_right _ q
      omega
  rw [addR_no (by rw [hr, (great_not 1).2 (by decide)]; rfl), fitR_no h2]
theorem root_pow {k v : Nat} (hk : 0 < k) (hg : greatB v = false) : powR (rt k v) (k : Int) = (rt k v ^ k, 0) := by
  rw [powR_fit (great_mono (rt_self hk) hg), fitR_no (great_mono (rt_spec k v hk).1 hg)]
theorem root_back {k v : Nat} (hk : 0 < k) (hg : greatB v = false) : addR (rt k v ^ k) (v - rt k v ^ k) = (v, 0) := by
  have h1 := (rt_spec k v hk).1
  rw [addR_no (by rw [great_mono h1 hg, great_mono (Nat.sub_le _ _) hg]; rfl), Nat.add_sub_cancel' h1, fitR_no hg]
/-- The power of one more: too great, or above. -/
theorem root_up {k v : Nat} (hk : 2 ≤ k) (hg : greatB v = false) : ∃ (u : Nat) (e : Int), powR (rt k v + 1) (k : Int) = (u, e) ∧ ((e = 3 ∧ u = 0) ∨ (e = 0 ∧ cmpN u v = 1)) ∧ (wordsOf u).length ≤ 1024 := by
  have h0 := root_next hk hg
  have hg1 : greatB (rt k v + 1) = false := by
    unfold addR fitR at h0
    split at h0
    · simp at h0
    · split at h0
      · simp at h0
      · rename_i q; simpa using q
  have hl := powR_len (rt k v + 1) (k : Int)
  rw [powR_fit hg1] at hl ⊢
  cases hq : greatB ((rt k v + 1) ^ k) with
  | true => rw [fitR_yes hq]; exact ⟨0, 3, rfl, Or.inl ⟨rfl, rfl⟩, by rw [words_zero]; simp⟩
  | false =>
    rw [fitR_no hq] at hl ⊢
    refine ⟨_, 0, rfl, Or.inr ⟨rfl, ?_⟩, hl⟩
    have h2 := (rt_spec k v (by omega)).2
    unfold cmpN; rw [if_neg (by omega), if_pos h2]
theorem top_bit (v : Nat) : v.testBit (blen v) = false := Nat.testBit_lt_two_pow (lt_blen v)
theorem tz_below (v : Nat) (h : v ≠ 0) : tz v < blen v := by
  rcases Nat.lt_or_ge (tz v) (blen v) with q | q
  · exact q
  · have h1 := (tz_bit v h).1
    rw [Nat.testBit_lt_two_pow (Nat.lt_of_lt_of_le (lt_blen v) (Nat.pow_le_pow_right (by decide) q))] at h1
    cases h1
end Go.Proofs.YtfmjgagajlhfoaaDoor
