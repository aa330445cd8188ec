/- TopDyads, in numbers: what sums, differences and products of a 2^-e and b come to. -/
import Derived.Test.YtmibejihmdkgaaaDoorDValT
namespace Go.Proofs.YtmibejihmdkgaaaDoor
open Go.RowKit

theorem vI_of_form (t : Bool) (N e : Nat) : vI (formD t N (-(e : Int))) (-(e : Int)) = sI t * (N : Int) := by
  rw [vI_form t N _ _ (Int.le_refl _), Int.sub_self]
  simp
theorem low_formT (t : Bool) (N e : Nat) : -(e : Int) ≤ (formD t N (-(e : Int))).2.2 := by
  by_cases h : N = 0
  · rw [h, form_zero]; show -(e : Int) ≤ 0; omega
  · rw [form_pos t h]; show -(e : Int) ≤ -(e : Int) + (tz N : Int); omega
theorem low_zeroT (N e : Nat) : -(e : Int) ≤ (formD false N 0).2.2 := by
  by_cases h : N = 0
  · rw [h, form_zero]; show -(e : Int) ≤ 0; omega
  · rw [form_pos false h]; show -(e : Int) ≤ 0 + (tz N : Int); omega
theorem vI_high (b e : Nat) : vI (formD false b 0) (-(e : Int)) = ((b * 2 ^ e : Nat) : Int) := by
  rw [vI_form false b _ _ (by omega), show ((0 : Int) - -(e : Int)).toNat = e by omega]
  unfold sI
  simp
theorem sI_false : sI false = 1 := rfl
theorem sum_canT {x y : Bool × Nat × Int} (hx : CanD x) (hy : CanD y) : CanD (sumD x y) := by
  have ha : ∀ s A t b e, CanD (addHi s A t b e) := fun s A t b e => by
    unfold addHi
    split
    · exact form_can _ _ _
    · split <;> exact form_can _ _ _
  unfold sumD
  split
  · exact hy
  · split
    · exact hx
    · split <;> exact ha _ _ _ _ _
theorem td_sum (a b e : Nat) : sumD (formD false a (-(e : Int))) (formD false b 0) = formD false (a + b * 2 ^ e) (-(e : Int)) := by
  refine vI_inj _ _ (sum_canT (form_can _ _ _) (form_can _ _ _)) (form_can _ _ _) (-(e : Int)) (sum_low _ _ _ (by omega) (low_formT _ _ _) (low_zeroT _ _)) (low_formT _ _ _) ?_
  rw [vI_sum _ _ _ (low_formT _ _ _) (low_zeroT _ _), vI_of_form, vI_of_form, vI_high, sI_false]
  omega
theorem td_mul (a b e : Nat) : mulD (formD false a (-(e : Int))) (formD false b 0) = formD false (a * b) (-(e : Int)) := by
  have h0 : (0 : Int) ≤ (formD false b 0).2.2 := low_zeroT b 0
  refine vI_inj _ _ (form_can _ _ _) (form_can _ _ _) (-(e : Int)) ?_ (low_formT _ _ _) ?_
  · have := mul_low _ _ (-(e : Int)) 0 (by omega) (low_formT false a e) h0
    omega
  · have := vI_mul _ _ (-(e : Int)) 0 (low_formT false a e) h0
    rw [Int.add_zero] at this
    rw [this, vI_of_form, vI_of_form, sI_false]
    have h2 := vI_high b 0
    simp only [Nat.pow_zero, Nat.mul_one] at h2
    rw [show (0 : Int) = -((0 : Nat) : Int) from rfl] at *
    rw [h2]
    simp
theorem td_less (a b e : Nat) : sumD (formD false a (-(e : Int))) (negD (formD false b 0)) = formD (decide (a < b * 2 ^ e)) (if a < b * 2 ^ e then b * 2 ^ e - a else a - b * 2 ^ e) (-(e : Int)) := by
  have hl : -(e : Int) ≤ (negD (formD false b 0)).2.2 := low_zeroT b e
  refine vI_inj _ _ (sum_canT (form_can _ _ _) (negD_canon (form_can _ _ _))) (form_can _ _ _) (-(e : Int)) (sum_low _ _ _ (by omega) (low_formT _ _ _) hl) (low_formT _ _ _) ?_
  rw [vI_sum _ _ _ (low_formT _ _ _) hl, vI_neg, vI_of_form, vI_of_form, vI_high, sI_false]
  by_cases h : a < b * 2 ^ e
  · rw [if_pos h, decide_eq_true h]
    unfold sI
    rw [if_pos rfl]
    omega
  · rw [if_neg h, decide_eq_false h]
    unfold sI
    rw [if_neg (by decide)]
    omega
/-- What comes of it has room, and times 2^e it is a natural. -/
theorem td_room (t : Bool) (N e : Nat) (hN : blen N ≤ 13000) (he : e ≤ 2000) : roomE (formD t N (-(e : Int))) = 0 ∧ roomP (formD t N (-(e : Int))) = formD t N (-(e : Int)) := by
  refine room_yes ((great_not _).2 (Nat.le_trans (blen_mono (form_amount_le _ _ _)) (by omega))) ?_
  by_cases h : N = 0
  · rw [h, form_zero]; rfl
  · rw [form_pos t h]
    have := tz_le_blen N
    show inB (-(e : Int) + (tz N : Int)) = true
    unfold inB
    rw [decide_eq_true_eq]
    omega
theorem td_shl (t : Bool) (N e : Nat) (hN : blen N ≤ 13000) (h : N ≠ 0) : shlR (formD t N (-(e : Int))).2.1 ((formD t N (-(e : Int))).2.2 + (e : Int)) = (N, 0) ∧ (formD t N (-(e : Int))).1 = t := by
  rw [form_pos t h]
  refine ⟨?_, rfl⟩
  obtain ⟨h1, h2⟩ := odd_part h
  show shlR (N / 2 ^ tz N) (-(e : Int) + (tz N : Int) + (e : Int)) = (N, 0)
  rw [show -(e : Int) + (tz N : Int) + (e : Int) = (tz N : Int) by omega]
  have h3 : N / 2 ^ tz N ≠ 0 := fun q => by rw [q] at h1; exact absurd h1 (by decide)
  have h4 := blen_mul (N / 2 ^ tz N) (tz N) h3
  rw [h2] at h4
  rw [shlR_fit ((great_not _).2 (by omega)) (by omega) h3 (by omega), Int.toNat_natCast, h2]
theorem td_neg0 (t : Bool) (e : Nat) : (formD t 0 (-(e : Int))) = (false, 0, 0) := form_zero _ _
theorem val_bitsk {xs : List Int} (k : Nat) (h : 64 * xs.length ≤ k) (hU : AllU xs) : blen (val xs) ≤ k := by
  refine (blen_le _ _).2 (Nat.lt_of_lt_of_le (val_lt xs hU) ?_)
  rw [two64]
  exact Nat.pow_le_pow_right (by decide) h
theorem val_bits {xs : List Int} (h : xs.length ≤ 100) (hU : AllU xs) : blen (val xs) ≤ 6400 := val_bitsk 6400 (by omega) hU
theorem add_bits {a b k : Nat} (ha : blen a ≤ k) (hb : blen b ≤ k) : blen (a + b) ≤ k + 1 := by
  rw [blen_le] at *
  rw [Nat.pow_succ]
  omega
theorem mul_bits {a b k l : Nat} (ha : blen a ≤ k) (hb : blen b ≤ l) : blen (a * b) ≤ k + l := by
  rw [blen_le] at *
  rw [Nat.pow_add]
  by_cases h : b = 0
  · rw [h, Nat.mul_zero]; exact Nat.mul_pos (Nat.two_pow_pos _) (Nat.two_pow_pos _)
  · exact Nat.mul_lt_mul'' ha hb
theorem pow_bits {b e : Nat} (hb : blen b ≤ 6400) (he : e ≤ 2000) : blen (b * 2 ^ e) ≤ 8400 := by
  by_cases h : b = 0
  · rw [h, Nat.zero_mul, blen_zero]; omega
  · rw [blen_mul _ _ h]; omega
theorem fit_small {n : Nat} (h : blen n ≤ 65536) : fitR n = (n, 0) := by
  unfold fitR
  rw [if_neg (by rw [(great_not _).2 h]; decide)]
theorem small_great {n : Nat} (h : blen n ≤ 65536) : greatB n = false := (great_not _).2 h
end Go.Proofs.YtmibejihmdkgaaaDoor
