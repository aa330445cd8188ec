/- What a dyadic number is worth, in units of a power of 2: sums, products, order; the one form is one. -/
import Derived.Test.YtiijfnaaekmpbaaGreatDoorDCmp2
import Derived.Test.YtiijfnaaekmpbaaGreatDoorRD13
import Derived.Test.YtiijfnaaekmpbaaGreatDoorDTm1
namespace Go.Proofs.YtiijfnaaekmpbaaGreatDoor
open Go.RowKit
theorem amt_scaled (mx : Nat) (ex : Int) (my : Nat) (ey : Int) (hx : mx ≠ 0) (hy : my ≠ 0) (K : Nat) (hex : -(K : Int) ≤ ex) (hey : -(K : Int) ≤ ey) : amtD mx ex my ey = cmpN (mx * 2 ^ (ex + (K : Int)).toNat) (my * 2 ^ (ey + (K : Int)).toNat) := by
 obtain ⟨i, hi⟩ : ∃ i : Nat, ex + (K : Int) = (i : Int) := ⟨(ex + (K : Int)).toNat, by omega⟩
 obtain ⟨j, hj⟩ : ∃ j : Nat, ey + (K : Int) = (j : Int) := ⟨(ey + (K : Int)).toNat, by omega⟩
 rw [hi, hj, Int.toNat_natCast, Int.toNat_natCast]
 have b1 := blen_mul mx i hx
 have b2 := blen_mul my j hy
 have nx : mx * 2 ^ i ≠ 0 := Nat.mul_ne_zero hx (Nat.pos_iff_ne_zero.1 (Nat.two_pow_pos i))
 have ny : my * 2 ^ j ≠ 0 := Nat.mul_ne_zero hy (Nat.pos_iff_ne_zero.1 (Nat.two_pow_pos j))
 unfold amtD
 by_cases ht : ex + (blen mx : Int) - 1 = ey + (blen my : Int) - 1
 ·rw [if_neg (by omega)]
  by_cases hl : ex < ey
  ·rw [if_pos hl]
   obtain ⟨d, hd⟩ : ∃ d : Nat, ey - ex = (d : Int) := ⟨(ey - ex).toNat, by omega⟩
   rw [hd, Int.toNat_natCast, show j = d + i by omega, Nat.pow_add, ← Nat.mul_assoc]
   unfold cmpN
   have hp := Nat.two_pow_pos i
   rcases Nat.lt_trichotomy (my * 2 ^ d) mx with q | q | q
   ·have q2 := (Nat.mul_lt_mul_right hp).2 q
    rw [if_pos q, if_neg (by omega), if_pos q2]; rfl
   ·rw [q]; simp
   ·have q2 := (Nat.mul_lt_mul_right hp).2 q
    rw [if_neg (by omega), if_pos q, if_pos q2]
  ·rw [if_neg hl]
   obtain ⟨d, hd⟩ : ∃ d : Nat, ex - ey = (d : Int) := ⟨(ex - ey).toNat, by omega⟩
   rw [hd, Int.toNat_natCast, show i = d + j by omega, Nat.pow_add, ← Nat.mul_assoc]
   unfold cmpN
   have hp := Nat.two_pow_pos j
   rcases Nat.lt_trichotomy (mx * 2 ^ d) my with q | q | q
   ·have q2 := (Nat.mul_lt_mul_right hp).2 q
    rw [if_pos q, if_pos q2]
   ·rw [q]; simp
   ·have q2 := (Nat.mul_lt_mul_right hp).2 q
    rw [if_neg (by omega), if_pos q, if_neg (by omega), if_pos q2]
 ·rw [if_pos ht]
  unfold Lib.compareInt cmpN
  have key : ∀ u v : Nat, u ≠ 0 → v ≠ 0 → blen u < blen v → u < v := fun u v hu hv hb => by
   have h1 := lt_blen u
   have h2 := blen_ge v hv
   have h3 : 2 ^ blen u ≤ 2 ^ (blen v - 1) := Nat.pow_le_pow_right (by decide) (by omega)
   omega
  rcases Int.lt_or_gt_of_ne ht with q | q
  ·have := key _ _ nx ny (by omega)
   rw [if_pos q, if_pos this]
  ·have := key _ _ ny nx (by omega)
   rw [if_neg (by omega), if_pos q, if_neg (by omega), if_pos this]
def sI (s : Bool) : Int := if s = true then -1 else 1
def vI (p : Bool × Nat × Int) (E : Int) : Int := sI p.1 * ((p.2.1 * 2 ^ (p.2.2 - E).toNat : Nat) : Int)
theorem vI_zero {p : Bool × Nat × Int} (h : p.2.1 = 0) (E : Int) : vI p E = 0 := by unfold vI; rw [h, Nat.zero_mul]; simp
theorem vI_form (s : Bool) (m : Nat) (e E : Int) (h : E ≤ e) : vI (formD s m e) E = sI s * ((m * 2 ^ (e - E).toNat : Nat) : Int) := by
 by_cases h0 : m = 0
 ·rw [h0, form_zero, vI_zero rfl, Nat.zero_mul]; simp
 ·have h2 := (odd_part h0).2
  rw [form_pos s h0]
  unfold vI
  show sI s * ((m / 2 ^ tz m * 2 ^ (e + (tz m : Int) - E).toNat : Nat) : Int) = _
  rw [show (e + (tz m : Int) - E).toNat = tz m + (e - E).toNat by omega, Nat.pow_add, ← Nat.mul_assoc, h2]
theorem vI_sum (x y : Bool × Nat × Int) (E : Int) (hx : E ≤ x.2.2) (hy : E ≤ y.2.2) : vI (sumD x y) E = vI x E + vI y E := by
 by_cases h1 : x.2.1 = 0
 ·have : sumD x y = y := by unfold sumD; rw [if_pos h1]
  rw [this, vI_zero h1, Int.zero_add]
 ·by_cases h2 : y.2.1 = 0
  ·have : sumD x y = x := by unfold sumD; rw [if_neg h1, if_pos h2]
   rw [this, vI_zero h2, Int.add_zero]
  ·obtain ⟨ee, hee⟩ : ∃ ee : Int, min x.2.2 y.2.2 = ee := ⟨_, rfl⟩
   obtain ⟨i, hi⟩ : ∃ i : Nat, x.2.2 - ee = (i : Int) := ⟨(x.2.2 - ee).toNat, by omega⟩
   obtain ⟨j, hj⟩ : ∃ j : Nat, y.2.2 - ee = (j : Int) := ⟨(y.2.2 - ee).toNat, by omega⟩
   obtain ⟨k, hk⟩ : ∃ k : Nat, ee - E = (k : Int) := ⟨(ee - E).toNat, by omega⟩
   have v1 : vI x E = sI x.1 * ((x.2.1 * 2 ^ i * 2 ^ k : Nat) : Int) := by
    unfold vI
    rw [show (x.2.2 - E).toNat = i + k by omega, Nat.pow_add, ← Nat.mul_assoc]
   have v2 : vI y E = sI y.1 * ((y.2.1 * 2 ^ j * 2 ^ k : Nat) : Int) := by
    unfold vI
    rw [show (y.2.2 - E).toNat = j + k by omega, Nat.pow_add, ← Nat.mul_assoc]
   rw [plus_q x y h1 h2 ee hee i hi j hj, v1, v2]
   generalize x.2.1 * 2 ^ i = M
   generalize y.2.1 * 2 ^ j = N
   have hkk : (ee - E).toNat = k := by omega
   by_cases hs : x.1 = y.1
   ·rw [if_pos hs, vI_form _ _ _ _ (by omega), hkk, hs, ← Int.mul_add, Nat.add_mul]
    rfl
   ·have hsn : sI y.1 = - sI x.1 := by unfold sI; cases hx1 : x.1 <;> cases hy1 : y.1 <;> rw [hx1, hy1] at hs <;> first | exact absurd rfl hs | rfl
    rw [if_neg hs]
    by_cases hc : N ≤ M
    ·rw [if_pos hc, vI_form _ _ _ _ (by omega), hkk, hsn, Int.neg_mul, ← Int.sub_eq_add_neg, ← Int.mul_sub, Nat.sub_mul, Int.ofNat_sub (Nat.mul_le_mul_right _ hc)]
    ·rw [if_neg hc, vI_form _ _ _ _ (by omega), hkk, hsn, Int.neg_mul, Int.neg_mul, Nat.sub_mul, Int.ofNat_sub (Nat.mul_le_mul_right _ (by omega)), Int.mul_sub, Int.neg_sub, Int.sub_eq_add_neg]
theorem vI_cmp (x y : Bool × Nat × Int) (K : Nat) (hx : -(K : Int) ≤ x.2.2) (hy : -(K : Int) ≤ y.2.2) : cmpD x y = Lib.compareInt (vI x (-(K : Int))) (vI y (-(K : Int))) := by
 have key : ∀ p : Bool × Nat × Int, p.2.1 ≠ 0 → ((p.2.1 * 2 ^ (p.2.2 - -(K : Int)).toNat : Nat) : Int) > 0 := fun p h => by
  have := Nat.mul_pos (Nat.pos_of_ne_zero h) (Nat.two_pow_pos (p.2.2 - -(K : Int)).toNat)
  omega
 by_cases h1 : x.2.1 = 0
 ·rw [vI_zero h1]
  by_cases h2 : y.2.1 = 0
  ·rw [vI_zero h2]
   unfold cmpD sgnD
   rw [if_pos h1, if_pos h2]
   simp [h1, Lib.compareInt]
  ·have hp := key y h2
   unfold cmpD sgnD vI sI Lib.compareInt
   rw [if_pos h1, if_neg h2]
   generalize y.2.1 * 2 ^ (y.2.2 - -(K : Int)).toNat = B at *
   cases y.1 <;> simp <;> omega
 ·have hp1 := key x h1
  by_cases h2 : y.2.1 = 0
  ·rw [vI_zero h2]
   unfold cmpD sgnD vI sI Lib.compareInt
   rw [if_neg h1, if_pos h2]
   generalize x.2.1 * 2 ^ (x.2.2 - -(K : Int)).toNat = B at *
   cases x.1 <;> simp <;> omega
  ·have hp2 := key y h2
   have ha := amt_scaled x.2.1 x.2.2 y.2.1 y.2.2 h1 h2 K hx hy
   unfold cmpD
   rw [ha]
   unfold sgnD vI sI
   rw [if_neg h1, if_neg h2, show x.2.2 - -(K : Int) = x.2.2 + (K : Int) by omega, show y.2.2 - -(K : Int) = y.2.2 + (K : Int) by omega]
   rw [show x.2.2 - -(K : Int) = x.2.2 + (K : Int) by omega] at hp1
   rw [show y.2.2 - -(K : Int) = y.2.2 + (K : Int) by omega] at hp2
   generalize x.2.1 * 2 ^ (x.2.2 + (K : Int)).toNat = A at *
   generalize y.2.1 * 2 ^ (y.2.2 + (K : Int)).toNat = B at *
   unfold Lib.compareInt cmpN
   cases x.1 <;> cases y.1 <;> simp <;> (repeat' split) <;> omega
theorem vI_inj (x y : Bool × Nat × Int) (cx : CanD x) (cy : CanD y) (E : Int) (hx : E ≤ x.2.2) (hy : E ≤ y.2.2) (h : vI x E = vI y E) : x = y := by
 have pos : ∀ p : Bool × Nat × Int, p.2.1 ≠ 0 → 0 < p.2.1 * 2 ^ (p.2.2 - E).toNat := fun p q => Nat.mul_pos (Nat.pos_of_ne_zero q) (Nat.two_pow_pos _)
 by_cases h1 : x.2.1 = 0
 ·have hz : x = (false, 0, 0) := by
   rcases cx with q | q
   ·exact q
   ·rw [h1] at q; exact absurd q (by decide)
  by_cases h2 : y.2.1 = 0
  ·rcases cy with q | q
   ·rw [hz, q]
   ·rw [h2] at q; exact absurd q (by decide)
  ·rw [vI_zero h1] at h
   have := pos y h2
   unfold vI sI at h
   exfalso
   generalize y.2.1 * 2 ^ (y.2.2 - E).toNat = B at *
   cases hy1 : y.1 <;> rw [hy1] at h <;> simp at h <;> omega
 ·by_cases h2 : y.2.1 = 0
  ·rw [vI_zero h2] at h
   have := pos x h1
   unfold vI sI at h
   exfalso
   generalize x.2.1 * 2 ^ (x.2.2 - E).toNat = B at *
   cases hx1 : x.1 <;> rw [hx1] at h <;> simp at h <;> omega
  ·have o1 : x.2.1 % 2 = 1 := by
    rcases cx with q | q
    ·rw [q] at h1; exact absurd rfl h1
    ·exact q
   have o2 : y.2.1 % 2 = 1 := by
    rcases cy with q | q
    ·rw [q] at h2; exact absurd rfl h2
    ·exact q
   have p1 := pos x h1
   have p2 := pos y h2
   have hs : x.1 = y.1 ∧ x.2.1 * 2 ^ (x.2.2 - E).toNat = y.2.1 * 2 ^ (y.2.2 - E).toNat := by
    unfold vI sI at h
    generalize x.2.1 * 2 ^ (x.2.2 - E).toNat = A at *
    generalize y.2.1 * 2 ^ (y.2.2 - E).toNat = B at *
    cases hx1 : x.1 <;> cases hy1 : y.1 <;> rw [hx1, hy1] at h <;> simp at h <;> refine ⟨?_, ?_⟩ <;> first | rfl | omega
   obtain ⟨i, hi⟩ : ∃ i : Nat, x.2.2 - E = (i : Int) := ⟨(x.2.2 - E).toNat, by omega⟩
   obtain ⟨j, hj⟩ : ∃ j : Nat, y.2.2 - E = (j : Int) := ⟨(y.2.2 - E).toNat, by omega⟩
   have hm := hs.2
   rw [hi, hj, Int.toNat_natCast, Int.toNat_natCast] at hm
   have odd_eq : ∀ (u v a b : Nat), u % 2 = 1 → v % 2 = 1 → u * 2 ^ a = v * 2 ^ b → a ≤ b := fun u v a b ou ov e => by
    rcases Nat.lt_or_ge b a with q | q
    ·exfalso
     obtain ⟨d, rfl⟩ : ∃ d, a = b + 1 + d := ⟨a - b - 1, by omega⟩
     have e2 : u * 2 ^ (b + 1 + d) = 2 * (u * 2 ^ d) * 2 ^ b := by
      rw [Nat.pow_add, Nat.pow_succ, show u * (2 ^ b * 2 * 2 ^ d) = 2 * (u * 2 ^ d) * 2 ^ b by
       rw [Nat.mul_assoc (2 ^ b), ← Nat.mul_assoc u, Nat.mul_comm u (2 ^ b), Nat.mul_assoc (2 ^ b), Nat.mul_comm (2 ^ b), Nat.mul_left_comm u 2]]
     rw [e2] at e
     have := Nat.eq_of_mul_eq_mul_right (Nat.two_pow_pos b) e
     omega
    ·exact q
   have hij : i = j := Nat.le_antisymm (odd_eq _ _ _ _ o1 o2 hm) (odd_eq _ _ _ _ o2 o1 hm.symm)
   subst hij
   have := Nat.eq_of_mul_eq_mul_right (Nat.two_pow_pos i) hm
   obtain ⟨xs, xm, xe⟩ := x
   obtain ⟨ys, ym, ye⟩ := y
   have e1 : xs = ys := hs.1
   have e2 : xm = ym := this
   have e3 : xe = ye := by have a1 : xe - E = (i : Int) := hi; have a2 : ye - E = (i : Int) := hj; omega
   rw [e1, e2, e3]
theorem sum_low (x y : Bool × Nat × Int) (E : Int) (hE : E ≤ 0) (hx : E ≤ x.2.2) (hy : E ≤ y.2.2) : E ≤ (sumD x y).2.2 := by
 have hf : ∀ s m e, E ≤ e → E ≤ (formD s m e).2.2 := fun s m e h => by
  by_cases h0 : m = 0
  ·rw [h0, form_zero]; exact hE
  ·rw [form_pos s h0]; show E ≤ e + (tz m : Int); omega
 have ha : ∀ s A t b e, E ≤ e → E ≤ (addHi s A t b e).2.2 := fun s A t b e h => by
  unfold addHi
  split
  ·exact hf _ _ _ h
  ·split <;> exact hf _ _ _ h
 unfold sumD
 split
 ·exact hy
 ·split
  ·exact hx
  ·split
   ·exact ha _ _ _ _ _ hx
   ·exact ha _ _ _ _ _ hy
end Go.Proofs.YtiijfnaaekmpbaaGreatDoor
