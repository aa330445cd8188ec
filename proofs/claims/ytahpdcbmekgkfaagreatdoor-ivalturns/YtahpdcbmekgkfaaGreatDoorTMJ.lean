/- The program's dyadic numbers: times, Sub, Mul. What a dyadic number is worth, in units of a power of 2: sums, products, order; the one form is one. Cutting a number to so many bits, whatever its amount is told by: cells between neighbours of so many bits. What ival divides: the quotient of two naturals with words ahead, by what is left of both without some words. -/
import Derived.Deep.CutRange
import Derived.Deep.RegionHeld3
import Derived.Test.YtahpdcbmekgkfaaGreatDoorTMF
import Derived.Test.YtahpdcbmekgkfaaGreatDoorNMX
import Derived.Test.YtahpdcbmekgkfaaGreatDoorTMH
import Derived.Test.YtahpdcbmekgkfaaGreatDoorDCmp2
import Derived.Test.YtahpdcbmekgkfaaGreatDoorRD13

namespace Go.Proofs.YtahpdcbmekgkfaaGreatDoor
open Go.RowKit
theorem NumAt.kept {B : Nat} {w w' : World} {v : Value} {p : Bool × Nat × Int} (h : NumAt B w v p) (hb : Below w.heap.size w w') : NumAt B w' v p := by
 obtain ⟨ao, n, c, h0, h1, h2, h3, h4⟩ := h
 exact ⟨ao, n, c, h0, h1, h2, h3, h4.keep hb⟩
attribute [local go_sem ↓] Go.wp_at_zero Go.wp_at_succ
end Go.Proofs.YtahpdcbmekgkfaaGreatDoor

namespace Go.Proofs.YtahpdcbmekgkfaaGreatDoor
open Go.RowKit
theorem amt_scaled (mx : Nat) (ex : Int) (my : Nat) (ey : Int) (hx : mx ≠ 0) (hy : my ≠ 0) (K : Nat) (hex : -(K : Int) ≤ ex) (hey : -(K : Int) ≤ ey) : amtD mx ex my ey = cmpN (mx * 2 ^ (ex + (K : Int)).toNat) (my * 2 ^ (ey + (K : Int)).toNat) := by
 obtain ⟨i, hi⟩ : ∃ i : Nat, ex + (K : Int) = (i : Int) := ⟨(ex + (K : Int)).toNat, by omega⟩
 obtain ⟨j, hj⟩ : ∃ j : Nat, ey + (K : Int) = (j : Int) := ⟨(ey + (K : Int)).toNat, by omega⟩
 rw [hi, hj, Int.toNat_natCast, Int.toNat_natCast]
 have b1 := blen_mul mx i hx
 have b2 := blen_mul my j hy
 have nx : mx * 2 ^ i ≠ 0 := Nat.mul_ne_zero hx (Nat.pos_iff_ne_zero.1 (Nat.two_pow_pos i))
 have ny : my * 2 ^ j ≠ 0 := Nat.mul_ne_zero hy (Nat.pos_iff_ne_zero.1 (Nat.two_pow_pos j))
 unfold amtD
 by_cases ht : ex + (blen mx : Int) - 1 = ey + (blen my : Int) - 1
 ·rw [if_neg (by omega)]
  by_cases hl : ex < ey
  ·rw [if_pos hl]
   obtain ⟨d, hd⟩ : ∃ d : Nat, ey - ex = (d : Int) := ⟨(ey - ex).toNat, by omega⟩
   rw [hd, Int.toNat_natCast, show j = d + i by omega, Nat.pow_add, ← Nat.mul_assoc]
   unfold cmpN
   have hp := Nat.two_pow_pos i
   rcases Nat.lt_trichotomy (my * 2 ^ d) mx with q | q | q
   ·have q2 := (Nat.mul_lt_mul_right hp).2 q
    rw [if_pos q, if_neg (by omega), if_pos q2]; rfl
   ·rw [q]; simp
   ·have q2 := (Nat.mul_lt_mul_right hp).2 q
    rw [if_neg (by omega), if_pos q, if_pos q2]
  ·rw [if_neg hl]
   obtain ⟨d, hd⟩ : ∃ d : Nat, ex - ey = (d : Int) := ⟨(ex - ey).toNat, by omega⟩
   rw [hd, Int.toNat_natCast, show i = d + j by omega, Nat.pow_add, ← Nat.mul_assoc]
   unfold cmpN
   have hp := Nat.two_pow_pos j
   rcases Nat.lt_trichotomy (mx * 2 ^ d) my with q | q | q
   ·have q2 := (Nat.mul_lt_mul_right hp).2 q
    rw [if_pos q, if_pos q2]
   ·rw [q]; simp
   ·have q2 := (Nat.mul_lt_mul_right hp).2 q
    rw [if_neg (by omega), if_pos q, if_neg (by omega), if_pos q2]
 ·rw [if_pos ht]
  unfold Lib.compareInt cmpN
  have key : ∀ u v : Nat, u ≠ 0 → v ≠ 0 → blen u < blen v → u < v := fun u v hu hv hb => by
   have h1 := lt_blen u
   have h2 := blen_ge v hv
   have h3 : 2 ^ blen u ≤ 2 ^ (blen v - 1) := Nat.pow_le_pow_right (by decide) (by omega)
   omega
  rcases Int.lt_or_gt_of_ne ht with q | q
  ·have := key _ _ nx ny (by omega)
   rw [if_pos q, if_pos this]
  ·have := key _ _ ny nx (by omega)
   rw [if_neg (by omega), if_pos q, if_neg (by omega), if_pos this]
def sI (s : Bool) : Int := if s = true then -1 else 1
def vI (p : Bool × Nat × Int) (E : Int) : Int := sI p.1 * ((p.2.1 * 2 ^ (p.2.2 - E).toNat : Nat) : Int)
theorem vI_zero {p : Bool × Nat × Int} (h : p.2.1 = 0) (E : Int) : vI p E = 0 := by unfold vI; rw [h, Nat.zero_mul]; simp
theorem vI_form (s : Bool) (m : Nat) (e E : Int) (h : E ≤ e) : vI (formD s m e) E = sI s * ((m * 2 ^ (e - E).toNat : Nat) : Int) := by
 by_cases h0 : m = 0
 ·rw [h0, form_zero, vI_zero rfl, Nat.zero_mul]; simp
 ·have h2 := (odd_part h0).2
  rw [form_pos s h0]
  unfold vI
  show sI s * ((m / 2 ^ tz m * 2 ^ (e + (tz m : Int) - E).toNat : Nat) : Int) = _
  rw [show (e + (tz m : Int) - E).toNat = tz m + (e - E).toNat by omega, Nat.pow_add, ← Nat.mul_assoc, h2]
theorem vI_cmp (x y : Bool × Nat × Int) (K : Nat) (hx : -(K : Int) ≤ x.2.2) (hy : -(K : Int) ≤ y.2.2) : cmpD x y = Lib.compareInt (vI x (-(K : Int))) (vI y (-(K : Int))) := by
 have key : ∀ p : Bool × Nat × Int, p.2.1 ≠ 0 → ((p.2.1 * 2 ^ (p.2.2 - -(K : Int)).toNat : Nat) : Int) > 0 := fun p h => by
  have := Nat.mul_pos (Nat.pos_of_ne_zero h) (Nat.two_pow_pos (p.2.2 - -(K : Int)).toNat)
  omega
 by_cases h1 : x.2.1 = 0
 ·rw [vI_zero h1]
  by_cases h2 : y.2.1 = 0
  ·rw [vI_zero h2]
   unfold cmpD sgnD
   rw [if_pos h1, if_pos h2]
   simp [h1, Lib.compareInt]
  ·have hp := key y h2
   unfold cmpD sgnD vI sI Lib.compareInt
   rw [if_pos h1, if_neg h2]
   generalize y.2.1 * 2 ^ (y.2.2 - -(K : Int)).toNat = B at *
   cases y.1 <;> simp <;> omega
 ·have hp1 := key x h1
  by_cases h2 : y.2.1 = 0
  ·rw [vI_zero h2]
   unfold cmpD sgnD vI sI Lib.compareInt
   rw [if_neg h1, if_pos h2]
   generalize x.2.1 * 2 ^ (x.2.2 - -(K : Int)).toNat = B at *
   cases x.1 <;> simp <;> omega
  ·have hp2 := key y h2
   have ha := amt_scaled x.2.1 x.2.2 y.2.1 y.2.2 h1 h2 K hx hy
   unfold cmpD
   rw [ha]
   unfold sgnD vI sI
   rw [if_neg h1, if_neg h2, show x.2.2 - -(K : Int) = x.2.2 + (K : Int) by omega, show y.2.2 - -(K : Int) = y.2.2 + (K : Int) by omega]
   rw [show x.2.2 - -(K : Int) = x.2.2 + (K : Int) by omega] at hp1
   rw [show y.2.2 - -(K : Int) = y.2.2 + (K : Int) by omega] at hp2
   generalize x.2.1 * 2 ^ (x.2.2 + (K : Int)).toNat = A at *
   generalize y.2.1 * 2 ^ (y.2.2 + (K : Int)).toNat = B at *
   unfold Lib.compareInt cmpN
   cases x.1 <;> cases y.1 <;> simp <;> (repeat' split) <;> omega
end Go.Proofs.YtahpdcbmekgkfaaGreatDoor

namespace Go.Proofs.YtahpdcbmekgkfaaGreatDoor
open Go.RowKit
def mkA (m : Nat) (more : Bool) : Nat := if more = true then 2 * (m / 2) + 1 else m
end Go.Proofs.YtahpdcbmekgkfaaGreatDoor

namespace Go.Proofs.YtahpdcbmekgkfaaGreatDoor
open Go.RowKit
theorem div_spare (X B W : Nat) (hW : 0 < W) (hD : B / W ≠ 0) (h : X % (B / W) * W < X / (B / W) * (B % W) → X / (B / W) * W ≤ B) :
  (X % (B / W) * W < X / (B / W) * (B % W) → X * W / B = X / (B / W) - 1 ∧ X * W % B ≠ 0) ∧
  (¬ X % (B / W) * W < X / (B / W) * (B % W) → X * W / B = X / (B / W) ∧ (X * W % B = 0 ↔ X % (B / W) * W = X / (B / W) * (B % W))) := by
 have e1 := Nat.div_add_mod X (B / W)
 have e2 := Nat.div_add_mod B W
 have l1 : X % (B / W) < B / W := Nat.mod_lt _ (Nat.pos_of_ne_zero hD)
 have l2 : B % W < W := Nat.mod_lt _ hW
 generalize hq : X / (B / W) = q at *
 generalize hr : X % (B / W) = r at *
 generalize hDD : B / W = D at *
 generalize hL : B % W = L at *
 have hN : X * W + q * L = q * B + r * W := by
  rw [← e1, ← e2, Nat.add_mul, Nat.mul_add]
  have : D * q * W = q * (W * D) := by rw [Nat.mul_comm D q, Nat.mul_assoc, Nat.mul_comm D W]
  omega
 have hB : D * W ≤ B := by rw [← e2, Nat.mul_comm W]; omega
 have hrW : r * W + W ≤ D * W := by
  have := Nat.mul_le_mul_right W (show r + 1 ≤ D by omega)
  rw [Nat.add_mul, Nat.one_mul] at this
  exact this
 have hB0 : 0 < B := by omega
 refine ⟨fun c => ?_, fun c => ?_⟩
 ·have h2 := h c
  have q0 : 0 < q := Nat.pos_of_ne_zero (fun z => by rw [z, Nat.zero_mul] at c; omega)
  have qL : q * L < q * W := Nat.mul_lt_mul_of_pos_left l2 q0
  obtain ⟨k, rfl⟩ : ∃ k, q = k + 1 := ⟨q - 1, by omega⟩
  have e3 : X * W = (B + r * W - (k + 1) * L) + B * k := by
   rw [Nat.add_mul k 1 B, Nat.one_mul, Nat.mul_comm k B] at hN
   omega
  have lt : B + r * W - (k + 1) * L < B := by omega
  have ne : B + r * W - (k + 1) * L ≠ 0 := by omega
  rw [e3, Nat.add_mul_div_left _ _ hB0, Nat.div_eq_of_lt lt, Nat.add_mul_mod_self_left, Nat.mod_eq_of_lt lt]
  exact ⟨by omega, ne⟩
 ·have e3 : X * W = (r * W - q * L) + B * q := by
   rw [Nat.mul_comm q B] at hN
   omega
  have lt : r * W - q * L < B := by omega
  rw [e3, Nat.add_mul_div_left _ _ hB0, Nat.div_eq_of_lt lt, Nat.add_mul_mod_self_left, Nat.mod_eq_of_lt lt]
  exact ⟨by omega, by omega⟩
theorem blen_div (N B : Nat) (_hN : N ≠ 0) (hB : B ≠ 0) : blen N ≤ blen (N / B) + blen B ∧ (blen (N / B) = 0 ∨ blen (N / B) + blen B ≤ blen N + 1) := by
 have hb0 : blen B ≠ 0 := fun q => hB ((blen_nil B).1 q)
 have l1 := lt_blen N
 have g2 := blen_ge B hB
 have l2 := lt_blen B
 constructor
 ·have h : N < 2 ^ (blen (N / B) + blen B) := by
   have e := Nat.lt_mul_of_div_lt (lt_blen (N / B)) (Nat.pos_of_ne_zero hB)
   rw [Nat.pow_add]
   refine Nat.lt_of_lt_of_le e ?_
   exact Nat.mul_le_mul_left _ (by omega)
  exact (blen_le _ _).2 h
 ·by_cases q : N / B = 0
  ·left; rw [q, blen_zero]
  ·right
   have g := blen_ge (N / B) q
   have h : 2 ^ (blen (N / B) - 1) * 2 ^ (blen B - 1) ≤ N := Nat.le_trans (Nat.mul_le_mul g g2) (Nat.div_mul_le_self N B)
   rw [← Nat.pow_add] at h
   have q0 : blen (N / B) ≠ 0 := fun z => q ((blen_nil _).1 z)
   have : ¬ blen N ≤ blen (N / B) - 1 + (blen B - 1) := fun z => by
    have := (blen_le _ _).1 z
    omega
   omega
def quW (A B : Nat) (p : Int) : Nat := (((blen B : Int) + p + 1 - (blen A : Int) + 63) / 64).toNat
def quQ (A B : Nat) (p : Int) : Nat := A * 2 ^ (64 * quW A B p) / B
def quR (A B : Nat) (p : Int) : Nat := A * 2 ^ (64 * quW A B p) % B
def quA (A B : Nat) (p : Int) : Nat := mkA (quQ A B p) (decide (quR A B p ≠ 0))
theorem quo_bits (A B p : Nat) (hA : A ≠ 0) (hB : B ≠ 0) : p + 1 ≤ blen (quQ A B p) ∧ (blen (quQ A B p) ≤ blen A ∨ blen (quQ A B p) ≤ p + 65) := by
 have hb := blen_mul A (64 * quW A B p) hA
 have hd := blen_div (A * 2 ^ (64 * quW A B p)) B (Nat.mul_ne_zero hA (Nat.pos_iff_ne_zero.1 (Nat.two_pow_pos _))) hB
 have b0 : blen B ≠ 0 := fun q => hB ((blen_nil B).1 q)
 unfold quQ
 rw [hb] at hd
 unfold quW at *
 omega
def spW (A w : Nat) : Nat := (wO A).length + w - 1024
theorem len_blen (A : Nat) : 64 * (wO A).length ≤ blen A + 63 ∧ blen A ≤ 64 * (wO A).length := by
 have h1 := (words_len2 ((wO A).length) A).1 (Nat.le_refl _)
 refine ⟨?_, h1⟩
 rcases Nat.lt_or_ge (blen A + 63) (64 * (wO A).length) with q | q
 ·exfalso
  have := (words_len2 ((wO A).length - 1) A).2 (by omega)
  omega
 ·exact q
theorem spare_few (A B p : Nat) (hA : A ≠ 0) (hB : B ≠ 0) (gA : greatB A = false) (gB : greatB B = false) (hp : p ≤ 8192) :
  (wO A).length ≤ 1024 ∧ B / 2 ^ (64 * spW A (quW A B p)) ≠ 0 ∧ spW A (quW A B p) ≤ quW A B p ∧ spW A (quW A B p) ≤ 130 ∧ quW A B p ≤ 1200 ∧
  (spW A (quW A B p) ≠ 0 → A * 2 ^ (64 * (quW A B p - spW A (quW A B p))) / (B / 2 ^ (64 * spW A (quW A B p))) * 2 ^ (64 * spW A (quW A B p)) ≤ B) := by
 have lA := len_blen A
 have gA2 := (great_not A).1 gA
 have gB2 := (great_not B).1 gB
 have la := (great_len A).1 gA
 have a0 : blen A ≠ 0 := fun q => hA ((blen_nil A).1 q)
 have b0 : blen B ≠ 0 := fun q => hB ((blen_nil B).1 q)
 have hw : quW A B p ≤ 1200 := by unfold quW; omega
 have hs : spW A (quW A B p) ≤ quW A B p := by unfold spW; omega
 have hs2 : spW A (quW A B p) ≠ 0 → 64 * spW A (quW A B p) + 65536 ≤ blen B + p + 127 := fun q => by unfold spW at *; unfold quW at *; omega
 have hs3 : spW A (quW A B p) ≤ 130 := by
  by_cases q : spW A (quW A B p) = 0
  ·omega
  ·have := hs2 q; omega
 have hwq : quW A B p ≠ 0 → 64 * quW A B p + blen A ≤ blen B + p + 64 := fun q => by unfold quW at *; omega
 generalize spW A (quW A B p) = sp at *
 generalize quW A B p = ww at *
 have hD : B / 2 ^ (64 * sp) ≠ 0 := by
  have hge := blen_ge B hB
  have h2 : 2 ^ (64 * sp) ≤ B := by
   by_cases q : sp = 0
   ·rw [q]; simp; omega
   ·have := hs2 q
    exact Nat.le_trans (Nat.pow_le_pow_right (by decide) (by omega)) hge
  exact Nat.pos_iff_ne_zero.1 (Nat.div_pos h2 (Nat.two_pow_pos _))
 refine ⟨la, hD, hs, hs3, hw, fun q => ?_⟩
 have h2 := hs2 q
 have hX0 : A * 2 ^ (64 * (ww - sp)) ≠ 0 := Nat.mul_ne_zero hA (Nat.pos_iff_ne_zero.1 (Nat.two_pow_pos _))
 have hdv := (blen_div (A * 2 ^ (64 * (ww - sp))) (B / 2 ^ (64 * sp)) hX0 hD).2
 rw [blen_mul A _ hA] at hdv
 have hDb := (blen_div B (2 ^ (64 * sp)) hB (Nat.pos_iff_ne_zero.1 (Nat.two_pow_pos _))).1
 have hpw : blen (2 ^ (64 * sp)) = 64 * sp + 1 := by
  have := blen_mul 1 (64 * sp) (by decide)
  rw [Nat.one_mul] at this
  rw [this]
  rfl
 rw [hpw] at hDb
 have hww := hwq (by omega)
 generalize A * 2 ^ (64 * (ww - sp)) / (B / 2 ^ (64 * sp)) = Q at *
 have hQ : Q * 2 ^ (64 * sp) < 2 ^ (blen Q + 64 * sp) := by
  rw [Nat.pow_add]
  exact Nat.mul_lt_mul_of_pos_right (lt_blen Q) (Nat.two_pow_pos _)
 have hge := blen_ge B hB
 have : 2 ^ (blen Q + 64 * sp) ≤ 2 ^ (blen B - 1) := Nat.pow_le_pow_right (by decide) (by omega)
 omega
end Go.Proofs.YtahpdcbmekgkfaaGreatDoor
