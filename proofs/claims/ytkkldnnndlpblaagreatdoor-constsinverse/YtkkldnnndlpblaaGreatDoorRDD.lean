/- The document's dyadic numbers: Add, Sub, Mul; the program's in the same words. What a dyadic number is worth, in units of a power of 2: sums, products, order; the one form is one. What is narrow to so many bits is so to fewer (pure). Which enclosures are narrow: what the program lifts, and what the document compares, come to the same (pure). Narrow, of program and document: the same (pure). -/
import Derived.Test.YtkkldnnndlpblaaGreatDoorRD16
import Derived.Test.YtkkldnnndlpblaaGreatDoorRDB
import Derived.Test.YtkkldnnndlpblaaGreatDoorRDC
import Derived.Test.YtkkldnnndlpblaaGreatDoorIVX

namespace Go.Proofs.YtkkldnnndlpblaaGreatDoor
open Go.RowKit

theorem form_turn (t : Bool) (m : Nat) (f : Int) : formD (!t) m f = negD (formD t m f) := by
  by_cases h0 : m = 0
  · rw [h0, form_zero, form_zero]; rfl
  · rw [form_pos _ h0, form_pos _ h0]
    have h1 := (odd_part h0).1
    have h2 : ¬ m / 2 ^ tz m = 0 := fun q => by rw [q] at h1; exact absurd h1 (by decide)
    unfold negD
    simp [h2]

theorem sumlen (x y : Bool × Nat × Int) (hx : blen x.2.1 ≤ 10000000) (hy : blen y.2.1 ≤ 10000000) (ex : -20000000 ≤ x.2.2 ∧ x.2.2 ≤ 20000000) (ey : -20000000 ≤ y.2.2 ∧ y.2.2 ≤ 20000000) : (wordsOf (sumD x y).2.1).length ≤ 2000001 := by
  have kx : (wordsOf x.2.1).length ≤ 200000 := (words_len2 _ _).2 (by omega)
  have ky : (wordsOf y.2.1).length ≤ 200000 := (words_len2 _ _).2 (by omega)
  by_cases h1 : x.2.1 = 0
  · have : sumD x y = y := by unfold sumD; rw [if_pos h1]
    rw [this]; omega
  · by_cases h2 : y.2.1 = 0
    · have : sumD x y = x := by unfold sumD; rw [if_neg h1, if_pos h2]
      rw [this]; omega
    · obtain ⟨ee, hee⟩ : ∃ ee : Int, min x.2.2 y.2.2 = ee := ⟨_, rfl⟩
      obtain ⟨i, hi⟩ : ∃ i : Nat, x.2.2 - ee = (i : Int) := ⟨(x.2.2 - ee).toNat, by omega⟩
      obtain ⟨j, hj⟩ : ∃ j : Nat, y.2.2 - ee = (j : Int) := ⟨(y.2.2 - ee).toNat, by omega⟩
      have hib : i ≤ 50000000 := by omega
      have hjb : j ≤ 50000000 := by omega
      have hMb : blen (x.2.1 * 2 ^ i) ≤ 60000000 := by rw [blen_mul _ _ h1]; omega
      have hNb : blen (y.2.1 * 2 ^ j) ≤ 60000000 := by rw [blen_mul _ _ h2]; omega
      have hMl : (wordsOf (x.2.1 * 2 ^ i)).length ≤ 1000000 := (words_len2 _ _).2 (by omega)
      have hNl : (wordsOf (y.2.1 * 2 ^ j)).length ≤ 1000000 := (words_len2 _ _).2 (by omega)
      have key : (sumD x y).2.1 ≤ x.2.1 * 2 ^ i + y.2.1 * 2 ^ j := by
        rw [plus_q x y h1 h2 ee hee i hi j hj]
        split
        · exact form_amount_le _ _ _
        · split
          · exact Nat.le_trans (form_amount_le _ _ _) (by omega)
          · exact Nat.le_trans (form_amount_le _ _ _) (by omega)
      have h3 := words_len_mono key
      have h4 := sum_wordsQ (x.2.1 * 2 ^ i) (y.2.1 * 2 ^ j)
      omega


/-- The order of two amounts is that of their multiples of one unit. -/
theorem amt_scaled (mx : Nat) (ex : Int) (my : Nat) (ey : Int) (hx : mx ≠ 0) (hy : my ≠ 0) (K : Nat) (hex : -(K : Int) ≤ ex) (hey : -(K : Int) ≤ ey) : amtD mx ex my ey = cmpN (mx * 2 ^ (ex + (K : Int)).toNat) (my * 2 ^ (ey + (K : Int)).toNat) := by
  obtain ⟨i, hi⟩ : ∃ i : Nat, ex + (K : Int) = (i : Int) := ⟨(ex + (K : Int)).toNat, by omega⟩
  obtain ⟨j, hj⟩ : ∃ j : Nat, ey + (K : Int) = (j : Int) := ⟨(ey + (K : Int)).toNat, by omega⟩
  rw [hi, hj, Int.toNat_natCast, Int.toNat_natCast]
  have b1 := blen_mul mx i hx
  have b2 := blen_mul my j hy
  have nx : mx * 2 ^ i ≠ 0 := Nat.mul_ne_zero hx (Nat.pos_iff_ne_zero.1 (Nat.two_pow_pos i))
  have ny : my * 2 ^ j ≠ 0 := Nat.mul_ne_zero hy (Nat.pos_iff_ne_zero.1 (Nat.two_pow_pos j))
  unfold amtD
  by_cases ht : ex + (blen mx : Int) - 1 = ey + (blen my : Int) - 1
  · rw [if_neg (by omega)]
    by_cases hl : ex < ey
    · rw [if_pos hl]
      obtain ⟨d, hd⟩ : ∃ d : Nat, ey - ex = (d : Int) := ⟨(ey - ex).toNat, by omega⟩
      rw [hd, Int.toNat_natCast, show j = d + i by omega, Nat.pow_add, ← Nat.mul_assoc]
      unfold cmpN
      have hp := Nat.two_pow_pos i
      rcases Nat.lt_trichotomy (my * 2 ^ d) mx with q | q | q
      · have q2 := (Nat.mul_lt_mul_right hp).2 q
        rw [if_pos q, if_neg (by omega), if_pos q2]; rfl
      · rw [q]; simp
      · have q2 := (Nat.mul_lt_mul_right hp).2 q
        rw [if_neg (by omega), if_pos q, if_pos q2]
    · rw [if_neg hl]
      obtain ⟨d, hd⟩ : ∃ d : Nat, ex - ey = (d : Int) := ⟨(ex - ey).toNat, by omega⟩
      rw [hd, Int.toNat_natCast, show i = d + j by omega, Nat.pow_add, ← Nat.mul_assoc]
      unfold cmpN
      have hp := Nat.two_pow_pos j
      rcases Nat.lt_trichotomy (mx * 2 ^ d) my with q | q | q
      · have q2 := (Nat.mul_lt_mul_right hp).2 q
        rw [if_pos q, if_pos q2]
      · rw [q]; simp
      · have q2 := (Nat.mul_lt_mul_right hp).2 q
        rw [if_neg (by omega), if_pos q, if_neg (by omega), if_pos q2]
  · rw [if_pos ht]
    unfold Lib.compareInt cmpN
    have key : ∀ u v : Nat, u ≠ 0 → v ≠ 0 → blen u < blen v → u < v := fun u v hu hv hb => by
      have h1 := lt_blen u
      have h2 := blen_ge v hv
      have h3 : 2 ^ blen u ≤ 2 ^ (blen v - 1) := Nat.pow_le_pow_right (by decide) (by omega)
      omega
    rcases Int.lt_or_gt_of_ne ht with q | q
    · have := key _ _ nx ny (by omega)
      rw [if_pos q, if_pos this]
    · have := key _ _ ny nx (by omega)
      rw [if_neg (by omega), if_pos q, if_neg (by omega), if_pos this]

def sI (s : Bool) : Int := if s = true then -1 else 1

/-- A number in units of 2^E. -/
def vI (p : Bool × Nat × Int) (E : Int) : Int := sI p.1 * ((p.2.1 * 2 ^ (p.2.2 - E).toNat : Nat) : Int)

theorem vI_zero {p : Bool × Nat × Int} (h : p.2.1 = 0) (E : Int) : vI p E = 0 := by unfold vI; rw [h, Nat.zero_mul]; simp

theorem vI_form (s : Bool) (m : Nat) (e E : Int) (h : E ≤ e) : vI (formD s m e) E = sI s * ((m * 2 ^ (e - E).toNat : Nat) : Int) := by
  by_cases h0 : m = 0
  · rw [h0, form_zero, vI_zero rfl, Nat.zero_mul]; simp
  · have h2 := (odd_part h0).2
    rw [form_pos s h0]
    unfold vI
    show sI s * ((m / 2 ^ tz m * 2 ^ (e + (tz m : Int) - E).toNat : Nat) : Int) = _
    rw [show (e + (tz m : Int) - E).toNat = tz m + (e - E).toNat by omega, Nat.pow_add, ← Nat.mul_assoc, h2]

theorem vI_sum (x y : Bool × Nat × Int) (E : Int) (hx : E ≤ x.2.2) (hy : E ≤ y.2.2) : vI (sumD x y) E = vI x E + vI y E := by
  by_cases h1 : x.2.1 = 0
  · have : sumD x y = y := by unfold sumD; rw [if_pos h1]
    rw [this, vI_zero h1, Int.zero_add]
  · by_cases h2 : y.2.1 = 0
    · have : sumD x y = x := by unfold sumD; rw [if_neg h1, if_pos h2]
      rw [this, vI_zero h2, Int.add_zero]
    · obtain ⟨ee, hee⟩ : ∃ ee : Int, min x.2.2 y.2.2 = ee := ⟨_, rfl⟩
      obtain ⟨i, hi⟩ : ∃ i : Nat, x.2.2 - ee = (i : Int) := ⟨(x.2.2 - ee).toNat, by omega⟩
      obtain ⟨j, hj⟩ : ∃ j : Nat, y.2.2 - ee = (j : Int) := ⟨(y.2.2 - ee).toNat, by omega⟩
      obtain ⟨k, hk⟩ : ∃ k : Nat, ee - E = (k : Int) := ⟨(ee - E).toNat, by omega⟩
      have v1 : vI x E = sI x.1 * ((x.2.1 * 2 ^ i * 2 ^ k : Nat) : Int) := by
        unfold vI
        rw [show (x.2.2 - E).toNat = i + k by omega, Nat.pow_add, ← Nat.mul_assoc]
      have v2 : vI y E = sI y.1 * ((y.2.1 * 2 ^ j * 2 ^ k : Nat) : Int) := by
        unfold vI
        rw [show (y.2.2 - E).toNat = j + k by omega, Nat.pow_add, ← Nat.mul_assoc]
      rw [plus_q x y h1 h2 ee hee i hi j hj, v1, v2]
      generalize x.2.1 * 2 ^ i = M
      generalize y.2.1 * 2 ^ j = N
      have hkk : (ee - E).toNat = k := by omega
      by_cases hs : x.1 = y.1
      · rw [if_pos hs, vI_form _ _ _ _ (by omega), hkk, hs, ← Int.mul_add, Nat.add_mul]
        rfl
      · have hsn : sI y.1 = - sI x.1 := by unfold sI; cases hx1 : x.1 <;> cases hy1 : y.1 <;> rw [hx1, hy1] at hs <;> first | exact absurd rfl hs | rfl
        rw [if_neg hs]
        by_cases hc : N ≤ M
        · rw [if_pos hc, vI_form _ _ _ _ (by omega), hkk, hsn, Int.neg_mul, ← Int.sub_eq_add_neg, ← Int.mul_sub, Nat.sub_mul, Int.ofNat_sub (Nat.mul_le_mul_right _ hc)]
        · rw [if_neg hc, vI_form _ _ _ _ (by omega), hkk, hsn, Int.neg_mul, Int.neg_mul, Nat.sub_mul, Int.ofNat_sub (Nat.mul_le_mul_right _ (by omega)), Int.mul_sub, Int.neg_sub, Int.sub_eq_add_neg]

/-- The order of two numbers is that of what they are worth. -/
theorem vI_cmp (x y : Bool × Nat × Int) (K : Nat) (hx : -(K : Int) ≤ x.2.2) (hy : -(K : Int) ≤ y.2.2) : cmpD x y = Lib.compareInt (vI x (-(K : Int))) (vI y (-(K : Int))) := by
  have key : ∀ p : Bool × Nat × Int, p.2.1 ≠ 0 → ((p.2.1 * 2 ^ (p.2.2 - -(K : Int)).toNat : Nat) : Int) > 0 := fun p h => by
    have := Nat.mul_pos (Nat.pos_of_ne_zero h) (Nat.two_pow_pos (p.2.2 - -(K : Int)).toNat)
    omega
  by_cases h1 : x.2.1 = 0
  · rw [vI_zero h1]
    by_cases h2 : y.2.1 = 0
    · rw [vI_zero h2]
      unfold cmpD sgnD
      rw [if_pos h1, if_pos h2]
      simp [h1, Lib.compareInt]
    · have hp := key y h2
      unfold cmpD sgnD vI sI Lib.compareInt
      rw [if_pos h1, if_neg h2]
      generalize y.2.1 * 2 ^ (y.2.2 - -(K : Int)).toNat = B at *
      cases y.1 <;> simp <;> omega
  · have hp1 := key x h1
    by_cases h2 : y.2.1 = 0
    · rw [vI_zero h2]
      unfold cmpD sgnD vI sI Lib.compareInt
      rw [if_neg h1, if_pos h2]
      generalize x.2.1 * 2 ^ (x.2.2 - -(K : Int)).toNat = B at *
      cases x.1 <;> simp <;> omega
    · have hp2 := key y h2
      have ha := amt_scaled x.2.1 x.2.2 y.2.1 y.2.2 h1 h2 K hx hy
      unfold cmpD
      rw [ha]
      unfold sgnD vI sI
      rw [if_neg h1, if_neg h2, show x.2.2 - -(K : Int) = x.2.2 + (K : Int) by omega, show y.2.2 - -(K : Int) = y.2.2 + (K : Int) by omega]
      rw [show x.2.2 - -(K : Int) = x.2.2 + (K : Int) by omega] at hp1
      rw [show y.2.2 - -(K : Int) = y.2.2 + (K : Int) by omega] at hp2
      generalize x.2.1 * 2 ^ (x.2.2 + (K : Int)).toNat = A at *
      generalize y.2.1 * 2 ^ (y.2.2 + (K : Int)).toNat = B at *
      unfold Lib.compareInt cmpN
      cases x.1 <;> cases y.1 <;> simp <;> (repeat' split) <;> omega

/-- What comes of numbers is worth whole units, too. -/
theorem sum_low (x y : Bool × Nat × Int) (E : Int) (hE : E ≤ 0) (hx : E ≤ x.2.2) (hy : E ≤ y.2.2) : E ≤ (sumD x y).2.2 := by
  have hf : ∀ s m e, E ≤ e → E ≤ (formD s m e).2.2 := fun s m e h => by
    by_cases h0 : m = 0
    · rw [h0, form_zero]; exact hE
    · rw [form_pos s h0]; show E ≤ e + (tz m : Int); omega
  have ha : ∀ s A t b e, E ≤ e → E ≤ (addHi s A t b e).2.2 := fun s A t b e h => by
    unfold addHi
    split
    · exact hf _ _ _ h
    · split <;> exact hf _ _ _ h
  unfold sumD
  split
  · exact hy
  · split
    · exact hx
    · split
      · exact ha _ _ _ _ _ hx
      · exact ha _ _ _ _ _ hy


theorem form_loN (s : Bool) (m : Nat) (e K : Int) (h : K ≤ e) (h0 : K ≤ 0) : K ≤ (formD s m e).2.2 := by
  unfold formD
  split
  · exact h0
  · show K ≤ e + (tz m : Int); omega

theorem cmpI_le (a b : Int) : Lib.compareInt a b ≤ 0 ↔ a ≤ b := by
  unfold Lib.compareInt
  split
  · constructor <;> intro <;> omega
  · split
    · constructor <;> intro <;> omega
    · constructor <;> intro <;> omega


theorem sumN_can {x y : Bool × Nat × Int} (hx : CanD x) (hy : CanD y) : CanD (sumD x y) := by
  have ha : ∀ s A t b e, CanD (addHi s A t b e) := fun s A t b e => by
    unfold addHi
    split
    · exact form_can _ _ _
    · split <;> exact form_can _ _ _
  unfold sumD
  split
  · exact hy
  · split
    · exact hx
    · split <;> exact ha _ _ _ _ _

theorem pow_up (m a b : Nat) (h : m < 2 ^ a) : m * 2 ^ b < 2 ^ (a + b) := by
  rw [Nat.pow_add]
  exact Nat.mul_lt_mul_of_pos_right h (Nat.two_pow_pos b)

theorem pow_lo (m a b : Nat) (h : 2 ^ a ≤ m) : 2 ^ (a + b) ≤ m * 2 ^ b := by
  rw [Nat.pow_add]
  exact Nat.mul_le_mul_right _ h

theorem pow_mo {a b : Nat} (h : a ≤ b) : 2 ^ a ≤ 2 ^ b := Nat.pow_le_pow_right (by decide) h


def ddB (WD : Bool × Nat × Int) (m : Nat) (e p : Int) : Bool := decide (WD.2.1 = 0) || (decide (p ≤ 196608) && decide (cmpD (formD WD.1 WD.2.1 (WD.2.2 + p)) (formD false m e) ≤ 0))

/-- what the document's Narrow answers -/
def dnW (s : Bool) (m : Nat) (e : Int) (t : Bool) (n : Nat) (f : Int) : Bool × Nat × Int := sumD (formD t n f) (formD (!s) m e)

end Go.Proofs.YtkkldnnndlpblaaGreatDoor
