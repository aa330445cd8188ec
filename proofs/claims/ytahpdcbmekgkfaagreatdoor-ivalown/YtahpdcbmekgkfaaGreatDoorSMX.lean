/- Sums of numbers without room, as the program reckons them: whole parts, what is left, a half for any fraction: what they are worth. Sums of numbers without room: what each part of the program's reckoning is worth; what is far above all that has room. Sums of numbers without room: what the program answers is cut as the sum is, or no cut has room. Sums of numbers without room: the program's sum is as good as the sum. -/
import Derived.Test.YtahpdcbmekgkfaaGreatDoorTMJ
import Derived.Test.YtahpdcbmekgkfaaGreatDoorDFX

namespace Go.Proofs.YtahpdcbmekgkfaaGreatDoor
open Go.RowKit
theorem sum_cn {x y : Bool × Nat × Int} (hx : CanD x) (hy : CanD y) : CanD (sumD x y) := by
 have ha : ∀ s A t b e, CanD (addHi s A t b e) := fun s A t b e => by
  unfold addHi
  split
  ·exact form_can _ _ _
  ·split <;> exact form_can _ _ _
 unfold sumD
 split
 ·exact hy
 ·split
  ·exact hx
  ·split
   ·exact ha _ _ _ _ _
   ·exact ha _ _ _ _ _
def pW (p : Bool × Nat × Int) : Bool × Nat × Int := if 0 ≤ p.2.2 then p else formD p.1 (p.2.1 / 2 ^ (-p.2.2).toNat) 0
def pR (p : Bool × Nat × Int) : Bool × Nat × Int := sumD p (negD (pW p))
def suR (x y : Bool × Nat × Int) : Bool × Nat × Int := sumD (pR x) (pR y)
def suA (x y : Bool × Nat × Int) : Bool × Nat × Int := sumD (wholeD (suR x y)) (false, 1, -1)
def suB (x y : Bool × Nat × Int) : Bool × Nat × Int := sumD (suA x y) (pW x)
def suF (x y : Bool × Nat × Int) : Bool × Nat × Int := sumD (suB x y) (pW y)
def pA (p : Bool × Nat × Int) : Int := sI p.1 * ((if 0 ≤ p.2.2 then p.2.1 * 2 ^ p.2.2.toNat else p.2.1 / 2 ^ (-p.2.2).toNat : Nat) : Int)
theorem pW_can {p : Bool × Nat × Int} (h : CanD p) : CanD (pW p) := by
 unfold pW
 split
 ·exact h
 ·exact form_can _ _ _
theorem neg_cn {p : Bool × Nat × Int} (h : CanD p) : CanD (negD p) := by
 rcases h with h | h
 ·subst h; exact Or.inl rfl
 ·exact Or.inr h
theorem form_low0 (s : Bool) (m : Nat) : 0 ≤ (formD s m 0).2.2 := by
 by_cases h : m = 0
 ·rw [h, form_zero]; exact Int.le_refl _
 ·rw [form_pos s h]; show (0 : Int) ≤ 0 + (tz m : Int); omega
theorem pW_exp (p : Bool × Nat × Int) : 0 ≤ (pW p).2.2 := by
 unfold pW
 split
 ·assumption
 ·exact form_low0 _ _
theorem wh_exp (p : Bool × Nat × Int) : 0 ≤ (wholeD p).2.2 := by
 unfold wholeD
 split
 ·assumption
 ·exact form_low0 _ _
theorem pW_val (p : Bool × Nat × Int) (K : Nat) : vI (pW p) (-(K : Int)) = pA p * ((2 ^ K : Nat) : Int) := by
 unfold pW pA
 by_cases h0 : 0 ≤ p.2.2
 ·obtain ⟨e, he⟩ : ∃ e : Nat, p.2.2 = (e : Int) := ⟨p.2.2.toNat, by omega⟩
  rw [if_pos h0, if_pos h0]
  unfold vI
  rw [he, Int.toNat_natCast, show ((e : Int) - -(K : Int)).toNat = e + K by omega, Nat.pow_add, ← Nat.mul_assoc, Int.natCast_mul (p.2.1 * 2 ^ e), Int.mul_assoc]
 ·rw [if_neg h0, if_neg h0, vI_form _ _ _ _ (by omega), show ((0 : Int) - -(K : Int)).toNat = K by omega, Int.natCast_mul, Int.mul_assoc]
theorem pW_frac (p : Bool × Nat × Int) (K : Nat) (h : -(K : Int) ≤ p.2.2) : ∃ f : Nat, f < 2 ^ K ∧ (0 ≤ p.2.2 → f = 0) ∧ vI p (-(K : Int)) = pA p * ((2 ^ K : Nat) : Int) + sI p.1 * (f : Int) := by
 by_cases h0 : 0 ≤ p.2.2
 ·refine ⟨0, Nat.two_pow_pos K, fun _ => rfl, ?_⟩
  have := pW_val p K
  unfold pW at this
  rw [if_pos h0] at this
  rw [this]; simp
 ·obtain ⟨j, hj⟩ : ∃ j : Nat, p.2.2 = -(j : Int) := ⟨(-p.2.2).toNat, by omega⟩
  obtain ⟨d, rfl⟩ : ∃ d, K = d + j := ⟨K - j, by omega⟩
  refine ⟨p.2.1 % 2 ^ j * 2 ^ d, ?_, fun q => absurd q h0, ?_⟩
  ·rw [Nat.pow_add, Nat.mul_comm]
   exact Nat.mul_lt_mul_of_pos_left (Nat.mod_lt _ (Nat.two_pow_pos j)) (Nat.two_pow_pos d)
  ·unfold vI pA
   rw [if_neg h0, hj, show (-(j : Int) - -((d + j : Nat) : Int)).toNat = d by omega, show (- -(j : Int)).toNat = j by omega, Int.mul_assoc, ← Int.mul_add, ← Int.natCast_mul, ← Int.natCast_add]
   congr 2
   conv => lhs; rw [← Nat.div_add_mod p.2.1 (2 ^ j)]
   rw [Nat.add_mul, Nat.pow_add, Nat.mul_comm (2 ^ j), Nat.mul_assoc, Nat.mul_comm (2 ^ j)]
theorem div_of {a b u f : Int} (hu : 0 < u) (h : a = b * u + f) (h0 : 0 ≤ f) (h1 : f < u) : a / u = b := by
 rw [h, Int.add_comm, Int.add_mul_ediv_right _ _ (by omega), Int.ediv_eq_zero_of_lt h0 h1, Int.zero_add]
theorem whole_val {p : Bool × Nat × Int} (K : Nat) (hc : CanD p) (h : -(K : Int) ≤ p.2.2) : vI (wholeD p) (-(K : Int)) = vI p (-(K : Int)) / ((2 ^ K : Nat) : Int) * ((2 ^ K : Nat) : Int) := by
 have hu : (0 : Int) < ((2 ^ K : Nat) : Int) := by have := Nat.two_pow_pos K; omega
 by_cases h0 : 0 ≤ p.2.2
 ·have hv := pW_val p K
  unfold pW at hv
  unfold wholeD
  rw [if_pos h0] at hv ⊢
  rw [hv, Int.mul_ediv_cancel _ (by omega)]
 ·have ho : p.2.1 % 2 = 1 := by
   rcases hc with q | q
   ·rw [q] at h0; exact absurd (Int.le_refl 0) h0
   ·exact q
  obtain ⟨j, hj⟩ : ∃ j : Nat, p.2.2 = -(j : Int) := ⟨(-p.2.2).toNat, by omega⟩
  obtain ⟨d, hd⟩ : ∃ d, K = d + j := ⟨K - j, by omega⟩
  have j1 : ∃ i, j = i + 1 := ⟨j - 1, by omega⟩
  have r0 : p.2.1 % 2 ^ j ≠ 0 := fun q => by
   obtain ⟨i, rfl⟩ := j1
   have : 2 ∣ p.2.1 := Nat.dvd_trans ⟨2 ^ i, by rw [Nat.pow_succ, Nat.mul_comm]⟩ (Nat.dvd_of_mod_eq_zero q)
   omega
  have r1 := Nat.mod_lt p.2.1 (Nat.two_pow_pos j)
  have eV : vI p (-(K : Int)) = sI p.1 * (((p.2.1 / 2 ^ j * 2 ^ K + p.2.1 % 2 ^ j * 2 ^ d : Nat)) : Int) := by
   unfold vI
   rw [hj, show (-(j : Int) - -(K : Int)).toNat = d by omega]
   congr 2
   conv => lhs; rw [← Nat.div_add_mod p.2.1 (2 ^ j)]
   rw [Nat.add_mul, hd, Nat.pow_add, Nat.mul_comm (2 ^ j), Nat.mul_assoc, Nat.mul_comm (2 ^ j)]
  have f1 : p.2.1 % 2 ^ j * 2 ^ d < 2 ^ K := by
   rw [hd, Nat.pow_add, Nat.mul_comm]
   exact Nat.mul_lt_mul_of_pos_left r1 (Nat.two_pow_pos d)
  have f0 : 0 < p.2.1 % 2 ^ j * 2 ^ d := Nat.mul_pos (Nat.pos_of_ne_zero r0) (Nat.two_pow_pos d)
  unfold wholeD
  rw [if_neg h0, vI_form _ _ _ _ (by omega), show ((0 : Int) - -(K : Int)).toNat = K by omega, eV, hj, show (- -(j : Int)).toNat = j by omega]
  generalize p.2.1 / 2 ^ j = A at *
  generalize p.2.1 % 2 ^ j * 2 ^ d = f at *
  clear eV
  generalize hU : 2 ^ K = U at *
  cases hs : p.1
  ·rw [if_neg (by decide), Nat.add_zero]
   have e1 : sI false = 1 := rfl
   rw [e1, Int.one_mul, Int.one_mul, div_of (b := (A : Int)) (f := (f : Int)) hu (by push_cast; rfl) (by omega) (by omega)]
   push_cast; rfl
  ·rw [if_pos rfl]
   have e1 : sI true = -1 := rfl
   rw [e1, div_of (b := -((A : Int) + 1)) (f := (U : Int) - (f : Int)) hu (by push_cast; rw [Int.neg_mul, Int.neg_mul, Int.add_mul, Int.one_mul]; omega) (by omega) (by omega)]
   push_cast; rw [Int.neg_mul, Int.neg_mul, Int.one_mul]
theorem vI_abs (p : Bool × Nat × Int) (E : Int) : (vI p E).natAbs = p.2.1 * 2 ^ (p.2.2 - E).toNat := by
 unfold vI
 rw [Int.natAbs_mul, Int.natAbs_natCast]
 have : (sI p.1).natAbs = 1 := by unfold sI; cases p.1 <;> rfl
 rw [this, Nat.one_mul]
theorem cn_zero {p : Bool × Nat × Int} (h : CanD p) (h0 : p.2.1 = 0) : p = (false, 0, 0) := by
 rcases h with q | q
 ·exact q
 ·omega
theorem room_zero : roomB (false, 0, 0) = true := by
 unfold roomB
 rw [(great_not 0).2 (by rw [blen_zero]; omega)]
 rfl
theorem small_room {p : Bool × Nat × Int} (K L : Nat) (hK : K = 32768) (hL : L = 65536) (hc : CanD p) (h : -(K : Int) ≤ p.2.2) (hv : (vI p (-(K : Int))).natAbs < 2 ^ L) : roomB p = true := by
 by_cases h0 : p.2.1 = 0
 ·rw [cn_zero hc h0]; exact room_zero
 ·obtain ⟨j, hj⟩ : ∃ j : Nat, p.2.2 - -(K : Int) = (j : Int) := ⟨(p.2.2 - -(K : Int)).toNat, by omega⟩
  rw [vI_abs, hj, Int.toNat_natCast] at hv
  have b1 := (blen_le _ _).2 hv
  rw [blen_mul _ _ h0] at b1
  have b0 : blen p.2.1 ≠ 0 := fun q => h0 ((blen_nil _).1 q)
  unfold roomB inB
  rw [(great_not _).2 (by omega)]
  exact decide_eq_true (by omega)
theorem half_val (K : Nat) (hK : 0 < K) : vI (false, 1, -1) (-(K : Int)) = ((2 ^ (K - 1) : Nat) : Int) := by
 unfold vI
 show 1 * ((1 * 2 ^ ((-1 : Int) - -(K : Int)).toNat : Nat) : Int) = _
 rw [Int.one_mul, Nat.one_mul, show ((-1 : Int) - -(K : Int)).toNat = K - 1 by omega]
theorem half_two (K : Nat) (hK : 0 < K) : 2 * 2 ^ (K - 1) = 2 ^ K := by
 obtain ⟨k, rfl⟩ : ∃ k, K = k + 1 := ⟨K - 1, by omega⟩
 rw [Nat.add_sub_cancel, Nat.pow_succ, Nat.mul_comm]
theorem far_cut {z : Bool × Nat × Int} (hz : z.2.1 ≠ 0) (p : Int) (hp : 1 ≤ p) (up : Bool) (h : 32768 < z.2.2 ∨ 32768 + p < (blen z.2.1 : Int) + z.2.2) : roomB (cutD z p up) = false := by
 have out : ∀ q : Bool × Nat × Int, 32768 < q.2.2 → roomB q = false := fun q hq => by
  unfold roomB inB
  rw [decide_eq_false (by omega), Bool.and_false]
 unfold cutD
 by_cases hb : (blen z.2.1 : Int) ≤ p
 ·rw [if_pos hb]
  exact out z (by omega)
 ·rw [if_neg hb]
  obtain ⟨d, hd⟩ : ∃ d : Nat, (blen z.2.1 : Int) - p = (d : Int) := ⟨((blen z.2.1 : Int) - p).toNat, by omega⟩
  rw [hd, Int.toNat_natCast]
  have h1 := blen_ge _ hz
  have h2 : 0 < z.2.1 / 2 ^ d := Nat.div_pos (Nat.le_trans (Nat.pow_le_pow_right (by decide) (by omega)) h1) (Nat.two_pow_pos d)
  have h0 : z.2.1 / 2 ^ d + (if (!(up == z.1)) = true then 1 else 0) ≠ 0 := by omega
  generalize z.2.1 / 2 ^ d + (if (!(up == z.1)) = true then 1 else 0) = m at *
  refine out _ ?_
  rw [form_pos _ h0]
  show (32768 : Int) < z.2.2 + (d : Int) + (tz m : Int)
  omega
theorem room_out {z : Bool × Nat × Int} (h : roomB z = false) (h2 : -32768 ≤ z.2.2) : 65536 < blen z.2.1 ∨ 32768 < z.2.2 := by
 by_cases q : 65536 < blen z.2.1
 ·exact Or.inl q
 ·refine Or.inr ?_
  unfold roomB inB at h
  rw [(great_not _).2 (by omega)] at h
  have := of_decide_eq_false h
  omega
theorem no_zero {z : Bool × Nat × Int} (hc : CanD z) (h : roomB z = false) : z.2.1 ≠ 0 := fun q => by
 rw [cn_zero hc q, room_zero] at h
 exact absurd h (by decide)
theorem amt_bits {z : Bool × Nat × Int} (K : Nat) (hz : z.2.1 ≠ 0) (h : -(K : Int) ≤ z.2.2) : (blen (vI z (-(K : Int))).natAbs : Int) = (blen z.2.1 : Int) + z.2.2 + (K : Int) := by
 obtain ⟨j, hj⟩ : ∃ j : Nat, z.2.2 - -(K : Int) = (j : Int) := ⟨(z.2.2 - -(K : Int)).toNat, by omega⟩
 rw [vI_abs, hj, Int.toNat_natCast, blen_mul _ _ hz]
 omega
theorem unit_whole {z : Bool × Nat × Int} (K : Nat) (hc : CanD z) (h : -(K : Int) ≤ z.2.2) (hd : 2 ^ K ∣ (vI z (-(K : Int))).natAbs) : 0 ≤ z.2.2 := by
 by_cases h0 : z.2.1 = 0
 ·rw [cn_zero hc h0]; exact Int.le_refl _
 ·have ho : z.2.1 % 2 = 1 := by
   rcases hc with q | q
   ·rw [q] at h0; exact absurd rfl h0
   ·exact q
  obtain ⟨j, hj⟩ : ∃ j : Nat, z.2.2 - -(K : Int) = (j : Int) := ⟨(z.2.2 - -(K : Int)).toNat, by omega⟩
  rw [vI_abs, hj, Int.toNat_natCast] at hd
  by_cases q : j < K
  ·exfalso
   obtain ⟨d, rfl⟩ : ∃ d, K = j + (d + 1) := ⟨K - j - 1, by omega⟩
   rw [Nat.pow_add, Nat.mul_comm z.2.1] at hd
   have q3 : 2 ^ (d + 1) ∣ z.2.1 := Nat.dvd_of_mul_dvd_mul_left (Nat.two_pow_pos j) hd
   have : 2 ∣ z.2.1 := Nat.dvd_trans ⟨2 ^ d, by rw [Nat.pow_succ, Nat.mul_comm]⟩ q3
   omega
  ·omega
theorem half_form {z : Bool × Nat × Int} (K : Nat) (hK : 0 < K) (hc : CanD z) (h : -(K : Int) ≤ z.2.2) (q : Int) (hv : vI z (-(K : Int)) = q * ((2 ^ K : Nat) : Int) + ((2 ^ (K - 1) : Nat) : Int)) : z = (decide (2 * q + 1 < 0), (2 * q + 1).natAbs, -1) := by
 refine vI_inj z _ hc (Or.inr (by show (2 * q + 1).natAbs % 2 = 1; omega)) (-(K : Int)) h (by show -(K : Int) ≤ -1; omega) ?_
 rw [hv, ← half_two K hK]
 unfold vI
 show _ = sI (decide (2 * q + 1 < 0)) * (((2 * q + 1).natAbs * 2 ^ ((-1 : Int) - -(K : Int)).toNat : Nat) : Int)
 rw [show ((-1 : Int) - -(K : Int)).toNat = K - 1 by omega]
 generalize 2 ^ (K - 1) = H
 have e : sI (decide (2 * q + 1 < 0)) * (((2 * q + 1).natAbs : Nat) : Int) = 2 * q + 1 := by
  unfold sI
  by_cases hq : 2 * q + 1 < 0
  ·rw [if_pos (decide_eq_true hq)]; omega
  ·rw [if_neg (by rw [decide_eq_false hq]; decide)]; omega
 rw [Int.natCast_mul (2 * q + 1).natAbs H, ← Int.mul_assoc, e, Int.add_mul, Int.one_mul, Int.natCast_mul 2 H, Int.mul_comm 2 q, Int.mul_assoc]
 rfl
theorem half_out {q : Int} (s : Bool) (h : roomB (s, (2 * q + 1).natAbs, -1) = false) (L : Nat) (hL : L = 65536) : 2 ^ L ≤ (2 * q + 1).natAbs := by
 have := room_out h (by show (-32768 : Int) ≤ -1; omega)
 rcases this with b | b
 ·rcases Nat.lt_or_ge (2 * q + 1).natAbs (2 ^ L) with k | k
  ·have := (blen_le _ _).2 k
   have b2 : 65536 < blen (2 * q + 1).natAbs := b
   omega
  ·exact k
 ·have b2 : (32768 : Int) < -1 := b
  omega
theorem pR_can {x : Bool × Nat × Int} (cx : CanD x) : CanD (pR x) := sum_cn cx (neg_cn (pW_can cx))
theorem pR_exp {x : Bool × Nat × Int} (K : Nat) (hx : -(K : Int) ≤ x.2.2) : -(K : Int) ≤ (pR x).2.2 := sum_low _ _ _ (by omega) hx (by have := pW_exp x; show -(K : Int) ≤ (pW x).2.2; omega)
theorem pR_val {x : Bool × Nat × Int} (K : Nat) (hx : -(K : Int) ≤ x.2.2) : vI (pR x) (-(K : Int)) = vI x (-(K : Int)) - pA x * ((2 ^ K : Nat) : Int) := by
 unfold pR
 rw [vI_sum _ _ _ hx (by have := pW_exp x; show -(K : Int) ≤ (pW x).2.2; omega), vI_neg, pW_val]
 omega
structure SuV (x y : Bool × Nat × Int) (K : Nat) (V u h : Int) : Prop where
 eR : -(K : Int) ≤ (suR x y).2.2
 eT : -(K : Int) ≤ (restD (suR x y)).2.2
 eA : -(K : Int) ≤ (suA x y).2.2
 eB : -(K : Int) ≤ (suB x y).2.2
 eF : -(K : Int) ≤ (suF x y).2.2
 cR : CanD (suR x y)
 cU : CanD (wholeD (suR x y))
 cT : CanD (restD (suR x y))
 cA : CanD (suA x y)
 cB : CanD (suB x y)
 cF : CanD (suF x y)
 vR : vI (suR x y) (-(K : Int)) = V - (pA x + pA y) * u
 vU : vI (wholeD (suR x y)) (-(K : Int)) = (V / u - (pA x + pA y)) * u
 vT : vI (restD (suR x y)) (-(K : Int)) = V - V / u * u
 vA : vI (suA x y) (-(K : Int)) = (V / u - (pA x + pA y)) * u + h
 vB : vI (suB x y) (-(K : Int)) = (V / u - pA y) * u + h
 vF : vI (suF x y) (-(K : Int)) = V / u * u + h
theorem su_vals {x y : Bool × Nat × Int} (K : Nat) (hK : 0 < K) (cx : CanD x) (cy : CanD y) (hx : -(K : Int) ≤ x.2.2) (hy : -(K : Int) ≤ y.2.2) : SuV x y K (vI (sumD x y) (-(K : Int))) ((2 ^ K : Nat) : Int) ((2 ^ (K - 1) : Nat) : Int) := by
 have hu : (0 : Int) < ((2 ^ K : Nat) : Int) := by have := Nat.two_pow_pos K; omega
 have E0 : -(K : Int) ≤ 0 := by omega
 have eR : -(K : Int) ≤ (suR x y).2.2 := sum_low _ _ _ E0 (pR_exp K hx) (pR_exp K hy)
 have wh := wh_exp (suR x y)
 have wx := pW_exp x
 have wy := pW_exp y
 have eU : -(K : Int) ≤ (wholeD (suR x y)).2.2 := by omega
 have eT : -(K : Int) ≤ (restD (suR x y)).2.2 := sum_low _ _ _ E0 eR eU
 have eA : -(K : Int) ≤ (suA x y).2.2 := sum_low _ _ _ E0 eU (by show -(K : Int) ≤ -1; omega)
 have eB : -(K : Int) ≤ (suB x y).2.2 := sum_low _ _ _ E0 eA (by omega)
 have eF : -(K : Int) ≤ (suF x y).2.2 := sum_low _ _ _ E0 eB (by omega)
 have cR : CanD (suR x y) := sum_cn (pR_can cx) (pR_can cy)
 have cU : CanD (wholeD (suR x y)) := whole_can cR
 have cT : CanD (restD (suR x y)) := sum_cn cR (neg_cn cU)
 have cA : CanD (suA x y) := sum_cn cU (Or.inr rfl)
 have cB : CanD (suB x y) := sum_cn cA (pW_can cx)
 have cF : CanD (suF x y) := sum_cn cB (pW_can cy)
 have sV := vI_sum x y _ hx hy
 have vR : vI (suR x y) (-(K : Int)) = vI (sumD x y) (-(K : Int)) - (pA x + pA y) * ((2 ^ K : Nat) : Int) := by
  unfold suR
  rw [vI_sum _ _ _ (pR_exp K hx) (pR_exp K hy), pR_val K hx, pR_val K hy, sV, Int.add_mul]
  omega
 have vU : vI (wholeD (suR x y)) (-(K : Int)) = (vI (sumD x y) (-(K : Int)) / ((2 ^ K : Nat) : Int) - (pA x + pA y)) * ((2 ^ K : Nat) : Int) := by
  rw [whole_val K cR eR, vR]
  congr 1
  have d1 := Int.emod_nonneg (vI (sumD x y) (-(K : Int))) (show ((2 ^ K : Nat) : Int) ≠ 0 by omega)
  have d2 := Int.emod_lt_of_pos (vI (sumD x y) (-(K : Int))) hu
  have d3 := Int.mul_ediv_add_emod (vI (sumD x y) (-(K : Int))) ((2 ^ K : Nat) : Int)
  refine div_of hu (f := vI (sumD x y) (-(K : Int)) % ((2 ^ K : Nat) : Int)) ?_ d1 d2
  rw [Int.sub_mul, Int.mul_comm (_ / _)]
  omega
 have vA : vI (suA x y) (-(K : Int)) = (vI (sumD x y) (-(K : Int)) / ((2 ^ K : Nat) : Int) - (pA x + pA y)) * ((2 ^ K : Nat) : Int) + ((2 ^ (K - 1) : Nat) : Int) := by
  unfold suA
  rw [vI_sum _ _ _ eU (by show -(K : Int) ≤ -1; omega), vU, half_val K hK]
 have vB : vI (suB x y) (-(K : Int)) = (vI (sumD x y) (-(K : Int)) / ((2 ^ K : Nat) : Int) - pA y) * ((2 ^ K : Nat) : Int) + ((2 ^ (K - 1) : Nat) : Int) := by
  unfold suB
  rw [vI_sum _ _ _ eA (by omega), vA, pW_val]
  simp only [Int.sub_mul, Int.add_mul]
  omega
 refine ⟨eR, eT, eA, eB, eF, cR, cU, cT, cA, cB, cF, vR, vU, ?_, vA, vB, ?_⟩
 ·unfold restD
  rw [vI_sum _ (negD (wholeD (suR x y))) _ eR eU, vI_neg, vR, vU]
  simp only [Int.sub_mul, Int.add_mul]
  omega
 ·unfold suF
  rw [vI_sum _ _ _ eB (by omega), vB, pW_val]
  simp only [Int.sub_mul]
  omega
def suO (x y : Bool × Nat × Int) : Bool := roomB (suB x y) && roomB (suF x y)
def suE (x y : Bool × Nat × Int) : Int := if roomB (sumD x y) = true then 0 else if (restD (suR x y)).2.1 = 0 then 3 else if suO x y = true then 0 else 3
def suP (x y : Bool × Nat × Int) : Bool × Nat × Int := if roomB (sumD x y) = true then sumD x y else if (restD (suR x y)).2.1 = 0 then (false, 0, 0) else if suO x y = true then suF x y else (false, 0, 0)
structure Rg (x : Bool × Nat × Int) : Prop where
 can : CanD x
 few : blen x.2.1 ≤ 65536
 low : -32768 ≤ x.2.2
theorem Rg.lt {x : Bool × Nat × Int} (r : Rg x) (L : Nat) (hL : L = 65536) : x.2.1 < 2 ^ L := (blen_le _ _).1 (by have := r.few; omega)
theorem pA_sign (x : Bool × Nat × Int) : (x.1 = false → 0 ≤ pA x) ∧ (x.1 = true → pA x ≤ 0) := by
 unfold pA sI
 generalize (if 0 ≤ x.2.2 then x.2.1 * 2 ^ x.2.2.toNat else x.2.1 / 2 ^ (-x.2.2).toNat : Nat) = m
 constructor <;> intro h <;> rw [h]
 ·rw [if_neg (by decide)]; omega
 ·rw [if_pos rfl]; omega
theorem pA_few {x : Bool × Nat × Int} (P : Nat) (j : Nat) (hj : x.2.2 ≤ -(j : Int)) (h0 : x.2.2 < 0) (hm : x.2.1 < P * 2 ^ j) : -((P : Int) - 1) ≤ pA x ∧ pA x ≤ (P : Int) - 1 := by
 have k : x.2.1 / 2 ^ (-x.2.2).toNat < P := by
  obtain ⟨d, hd⟩ : ∃ d, (-x.2.2).toNat = j + d := ⟨(-x.2.2).toNat - j, by omega⟩
  rw [hd, Nat.pow_add, ← Nat.div_div_eq_div_mul]
  refine Nat.lt_of_le_of_lt (Nat.div_le_self _ _) ?_
  exact (Nat.div_lt_iff_lt_mul (Nat.two_pow_pos j)).2 hm
 unfold pA
 rw [if_neg (by omega)]
 unfold sI
 generalize x.2.1 / 2 ^ (-x.2.2).toNat = m at *
 cases x.1
 ·rw [if_neg (by decide)]; omega
 ·rw [if_pos rfl]; omega
theorem q_big {V q u P : Int} (hu : 0 < u) (h1 : q * u ≤ V) (h2 : V < (q + 1) * u) (hP : 1 ≤ P) (hq : 2 * P ≤ q ∨ q ≤ -(2 * P)) : P * u ≤ V ∨ P * u ≤ -V := by
 rcases hq with h | h
 ·have := Int.mul_le_mul_of_nonneg_right (show P ≤ q by omega) (Int.le_of_lt hu)
  exact Or.inl (by omega)
 ·have := Int.mul_le_mul_of_nonneg_right (show P ≤ -(q + 1) by omega) (Int.le_of_lt hu)
  rw [Int.neg_mul] at this
  exact Or.inr (by omega)
theorem big_far {z : Bool × Nat × Int} (K L : Nat) (hK : K = 32768) (hL : L = 65536) (h : -(K : Int) ≤ z.2.2) (hv : ((2 ^ (L - 3) : Nat) : Int) * ((2 ^ K : Nat) : Int) ≤ vI z (-(K : Int)) ∨ ((2 ^ (L - 3) : Nat) : Int) * ((2 ^ K : Nat) : Int) ≤ -vI z (-(K : Int))) (p : Int) (hp : 1 ≤ p ∧ p ≤ 8192) (up : Bool) : roomB (cutD z p up) = false := by
 have hn : 2 ^ (L - 3 + K) ≤ (vI z (-(K : Int))).natAbs := by
  rw [Nat.pow_add]
  rw [← Int.natCast_mul] at hv
  omega
 have hz : z.2.1 ≠ 0 := fun q => by
  rw [vI_zero q] at hn
  have := Nat.two_pow_pos (L - 3 + K)
  have e : (0 : Int).natAbs = 0 := rfl
  omega
 have b := amt_bits K hz h
 have b2 : ¬ blen (vI z (-(K : Int))).natAbs ≤ L - 3 + K := fun q => by
  have := (blen_le _ _).1 q
  omega
 exact far_cut hz p hp.1 up (Or.inr (by omega))
theorem half_cut (s : Bool) (V q u h : Int) (K : Nat) (hu : u = ((2 ^ K : Nat) : Int)) (hh : 2 * h = u) (h1 : q * u < V) (h2 : V < (q + 1) * u) (p : Nat) (hp : 0 < p) (T : Nat) (hT : p ≤ T) (hb : 2 ^ T * 2 ^ K ≤ V.natAbs) (e : Int) (up : Bool) :
  cutD (formD s V.natAbs e) (p : Int) up = cutD (formD s (q * u + h).natAbs e) (p : Int) up := by
 have hK := Nat.two_pow_pos K
 have hT2 := Nat.two_pow_pos T
 rw [Int.add_mul, Int.one_mul] at h2
 have key : ∀ M : Nat, M * 2 ^ K < V.natAbs → V.natAbs < (M + 1) * 2 ^ K → p ≤ blen M := fun M a b => by
  have c : 2 ^ T < M + 1 := Nat.lt_of_mul_lt_mul_right (Nat.lt_of_le_of_lt hb b)
  by_cases z : p ≤ blen M
  ·exact z
  ·exfalso
   have z1 := (blen_le M T).1 (by omega)
   omega
 by_cases hq : 0 ≤ q
 ·obtain ⟨M, rfl⟩ : ∃ M : Nat, q = (M : Int) := ⟨q.toNat, by omega⟩
  have m0 : (0 : Int) ≤ (M : Int) * u := by rw [hu, ← Int.natCast_mul]; omega
  have e0 : (((M * 2 ^ K : Nat)) : Int) = (M : Int) * u := by rw [hu, Int.natCast_mul]
  have a1 : M * 2 ^ K < V.natAbs := by omega
  have a2 : V.natAbs < (M + 1) * 2 ^ K := by rw [Nat.add_mul, Nat.one_mul]; omega
  exact cut_cell s _ _ M K e p up hp (key M a1 a2) a1 a2 (by omega) (by rw [Nat.add_mul, Nat.one_mul]; omega)
 ·obtain ⟨M, hM⟩ : ∃ M : Nat, q = -(M : Int) - 1 := ⟨(-q - 1).toNat, by omega⟩
  subst hM
  have e0 : (((M * 2 ^ K : Nat)) : Int) = (M : Int) * u := by rw [hu, Int.natCast_mul]
  have m0 : (0 : Int) ≤ (M : Int) * u := by omega
  rw [show (-(M : Int) - 1) * u = -((M : Int) * u) - u by rw [Int.sub_mul, Int.one_mul, Int.neg_mul]] at *
  have a1 : M * 2 ^ K < V.natAbs := by omega
  have a2 : V.natAbs < (M + 1) * 2 ^ K := by rw [Nat.add_mul, Nat.one_mul]; omega
  exact cut_cell s _ _ M K e p up hp (key M a1 a2) a1 a2 (by omega) (by rw [Nat.add_mul, Nat.one_mul]; omega)
theorem unit_form {z : Bool × Nat × Int} (K : Nat) (hc : CanD z) (h : -(K : Int) ≤ z.2.2) : z = formD (decide (vI z (-(K : Int)) < 0)) (vI z (-(K : Int))).natAbs (-(K : Int)) := by
 by_cases h0 : z.2.1 = 0
 ·rw [vI_zero h0]
  show z = formD _ 0 _
  rw [form_zero]
  exact cn_zero hc h0
 ·obtain ⟨j, hj⟩ : ∃ j : Nat, z.2.2 - -(K : Int) = (j : Int) := ⟨(z.2.2 - -(K : Int)).toNat, by omega⟩
  have hs : decide (vI z (-(K : Int)) < 0) = z.1 := by
   unfold vI sI
   have := Nat.mul_pos (Nat.pos_of_ne_zero h0) (Nat.two_pow_pos (z.2.2 - -(K : Int)).toNat)
   generalize z.2.1 * 2 ^ (z.2.2 - -(K : Int)).toNat = A at *
   cases z.1
   ·rw [if_neg (by decide)]; exact decide_eq_false (by omega)
   ·rw [if_pos rfl]; exact decide_eq_true (by omega)
  rw [hs, vI_abs, hj, Int.toNat_natCast, form_shift, show -(K : Int) + (j : Int) = z.2.2 by omega, form_of_can hc]
theorem su_flat {z : Bool × Nat × Int} (K : Nat) (h : 0 ≤ z.2.2) : vI z (-(K : Int)) = pA z * ((2 ^ K : Nat) : Int) := by
 have := pW_val z K
 unfold pW at this
 rw [if_pos h] at this
 exact this
theorem sI_abs (s : Bool) (f : Nat) : (s = false → sI s * (f : Int) = f) ∧ (s = true → sI s * (f : Int) = -f) := by
 constructor <;> intro h <;> rw [h]
 ·show 1 * (f : Int) = f; omega
 ·show -1 * (f : Int) = -f; omega
theorem su_out (a b q u P V f g : Int) (hu : 0 < u) (d1 : q * u < V) (d2 : V < (q + 1) * u) (hV : V = a * u + f + (b * u + g)) (hf : -u < f ∧ f < u) (hg : g = 0 ∨ (0 < g ∧ 0 ≤ b) ∨ (g < 0 ∧ b ≤ 0)) (ha : -(4 * P - 1) ≤ a ∧ a ≤ 4 * P - 1) (ho : 8 * P ≤ 2 * (q - b) + 1 ∨ 2 * (q - b) + 1 ≤ -(8 * P)) : 2 * P ≤ q ∨ q ≤ -(2 * P) := by
 rcases ho with h | h
 ·have c : a + b + 1 ≤ q := by omega
  have := Int.mul_le_mul_of_nonneg_right c (Int.le_of_lt hu)
  rw [Int.add_mul, Int.add_mul, Int.one_mul] at this
  refine Or.inl ?_
  omega
 ·have c : q + 1 ≤ a + b - 1 := by omega
  have := Int.mul_le_mul_of_nonneg_right c (Int.le_of_lt hu)
  rw [Int.sub_mul, Int.add_mul a, Int.one_mul] at this
  refine Or.inr ?_
  omega
theorem su_ok {x y : Bool × Nat × Int} (rx : Rg x) (ry : Rg y) :
  (suE x y = 0 → roomB (suP x y) = true ∧ CanD (suP x y) ∧ ∀ (p : Int) (up : Bool), 1 ≤ p ∧ p ≤ 8192 → cutD (suP x y) p up = cutD (sumD x y) p up) ∧
  (suE x y ≠ 0 → suE x y = 3 ∧ suP x y = (false, 0, 0) ∧ ∀ (p : Int) (up : Bool), 1 ≤ p ∧ p ≤ 8192 → roomB (cutD (sumD x y) p up) = false) := by
 have cz : CanD (sumD x y) := sum_cn rx.can ry.can
 by_cases r : roomB (sumD x y) = true
 ·have e1 : suE x y = 0 := by unfold suE; rw [if_pos r]
  have e2 : suP x y = sumD x y := by unfold suP; rw [if_pos r]
  rw [e1, e2]
  exact ⟨fun _ => ⟨r, cz, fun _ _ _ => rfl⟩, fun q => absurd rfl q⟩
 ·obtain ⟨K, hK⟩ : ∃ K : Nat, K = 32768 := ⟨_, rfl⟩
  obtain ⟨L, hL⟩ : ∃ L : Nat, L = 65536 := ⟨_, rfl⟩
  have hx : -(K : Int) ≤ x.2.2 := by have := rx.low; omega
  have hy : -(K : Int) ≤ y.2.2 := by have := ry.low; omega
  have hz : -(K : Int) ≤ (sumD x y).2.2 := sum_low _ _ _ (by omega) hx hy
  have rf : roomB (sumD x y) = false := by cases h : roomB (sumD x y) with | true => exact absurd h r | false => rfl
  have z0 := no_zero cz rf
  have sv := su_vals K (by omega) rx.can ry.can hx hy
  obtain ⟨eR, eT, eA, eB, eF, cR, cU, cT, cA, cB, cF, vR, vU, wT, vA, vB, vF⟩ := sv
  have sV := vI_sum x y _ hx hy
  obtain ⟨f, f1, f2, fx⟩ := pW_frac x K hx
  obtain ⟨g, g1, g2, gy⟩ := pW_frac y K hy
  have bz := amt_bits K z0 hz
  have big := fun p hp up h => big_far K L hK hL hz h p hp up
  have un := unit_whole K cz hz
  have fl : 0 ≤ (sumD x y).2.2 → _ := su_flat (z := sumD x y) K
  have uz := unit_form K cz hz
  have h2 := half_two K (by omega)
  have hu0 := Nat.two_pow_pos K
  have P8 : 2 ^ L = 8 * 2 ^ (L - 3) := by
   have e : 2 ^ L = 2 ^ (L - 3 + 1 + 1 + 1) := by rw [show L - 3 + 1 + 1 + 1 = L by omega]
   rw [e, Nat.pow_succ, Nat.pow_succ, Nat.pow_succ]
   omega
  have P1 := Nat.two_pow_pos (L - 3)
  have LK : 2 ^ (L - K) * 2 ^ K = 2 ^ L := by rw [← Nat.pow_add, show L - K + K = L by omega]
  have xl := rx.lt L hL
  have yl := ry.lt L hL
  generalize hV : vI (sumD x y) (-(K : Int)) = V at *
  generalize hq : V / ((2 ^ K : Nat) : Int) = q at *
  have hu : (0 : Int) < ((2 ^ K : Nat) : Int) := by omega
  have d0 := Int.emod_nonneg V (show ((2 ^ K : Nat) : Int) ≠ 0 by omega)
  have d1 := Int.emod_lt_of_pos V hu
  have d2 := Int.mul_ediv_add_emod V ((2 ^ K : Nat) : Int)
  rw [hq, Int.mul_comm] at d2
  have dq : (q + 1) * ((2 ^ K : Nat) : Int) = q * ((2 ^ K : Nat) : Int) + ((2 ^ K : Nat) : Int) := by rw [Int.add_mul, Int.one_mul]
  have room3 : ∀ {R : Prop}, (restD (suR x y)).2.1 = 0 ∨ suO x y = false → ((∀ (p : Int) (up : Bool), 1 ≤ p ∧ p ≤ 8192 → roomB (cutD (sumD x y) p up) = false)) → (suE x y = 0 → R) ∧ (suE x y ≠ 0 → suE x y = 3 ∧ suP x y = (false, 0, 0) ∧ ∀ (p : Int) (up : Bool), 1 ≤ p ∧ p ≤ 8192 → roomB (cutD (sumD x y) p up) = false) := fun {R} h k => by
   have e1 : suE x y = 3 := by
    unfold suE
    rw [if_neg r]
    rcases h with h | h
    ·rw [if_pos h]
    ·split
     ·rfl
     ·rw [if_neg (by rw [h]; decide)]
   have e2 : suP x y = (false, 0, 0) := by
    unfold suP
    rw [if_neg r]
    rcases h with h | h
    ·rw [if_pos h]
    ·split
     ·rfl
     ·rw [if_neg (by rw [h]; decide)]
   rw [e1, e2]
   exact ⟨fun q => absurd q (by decide), fun _ => ⟨rfl, rfl, k⟩⟩
  by_cases hT : (restD (suR x y)).2.1 = 0
  ·refine room3 (Or.inl hT) (fun p up hp => ?_)
   have vT := wT
   rw [vI_zero hT] at vT
   have e : V = q * ((2 ^ K : Nat) : Int) := by omega
   have w := un ⟨q.natAbs, by rw [e, Int.natAbs_mul, Int.natAbs_natCast, Nat.mul_comm]⟩
   have ro := room_out rf (by omega)
   exact far_cut z0 p hp.1 up (by omega)
  ·have hr : q * ((2 ^ K : Nat) : Int) < V := by
    rcases Int.lt_or_le (q * ((2 ^ K : Nat) : Int)) V with k | k
    ·exact k
    ·exfalso
     refine hT ?_
     have vT := wT
     have a := vI_abs (restD (suR x y)) (-(K : Int))
     rw [vT, show V - q * ((2 ^ K : Nat) : Int) = 0 by omega] at a
     have : (restD (suR x y)).2.1 * 2 ^ ((restD (suR x y)).2.2 - -(K : Int)).toNat = 0 := a.symm
     rcases Nat.mul_eq_zero.1 this with k | k
     ·exact k
     ·have := Nat.two_pow_pos ((restD (suR x y)).2.2 - -(K : Int)).toNat
      omega
   have ez : (sumD x y).2.2 < 0 := by
    rcases Int.lt_or_le (sumD x y).2.2 0 with k | k
    ·exact k
    ·exfalso
     have w := fl k
     have : q = pA (sumD x y) := by rw [← hq, w, Int.mul_ediv_cancel _ (by omega)]
     rw [this] at hr
     omega
   have gz : 65536 < blen (sumD x y).2.1 := by have := room_out rf (by omega); omega
   have bigq : (2 * ((2 ^ (L - 3) : Nat) : Int) ≤ q ∨ q ≤ -(2 * ((2 ^ (L - 3) : Nat) : Int))) → ∀ (p : Int) (up : Bool), 1 ≤ p ∧ p ≤ 8192 → roomB (cutD (sumD x y) p up) = false := fun h p up hp => big p hp up (q_big hu (by omega) (by omega) (by omega) h)
   by_cases ro : suO x y = true
   ·obtain ⟨rb, rF⟩ := Bool.and_eq_true_iff.1 ro
    have e1 : suE x y = 0 := by unfold suE; rw [if_neg r, if_neg hT, if_pos ro]
    have e2 : suP x y = suF x y := by unfold suP; rw [if_neg r, if_neg hT, if_pos ro]
    rw [e1, e2]
    refine ⟨fun _ => ⟨rF, cF, fun p up hp => ?_⟩, fun k => absurd rfl k⟩
    have uF := unit_form K cF eF
    rw [vF] at uF
    obtain ⟨n, rfl⟩ : ∃ n : Nat, p = (n : Int) := ⟨p.toNat, by omega⟩
    have hs : decide (q * ((2 ^ K : Nat) : Int) + ((2 ^ (K - 1) : Nat) : Int) < 0) = decide (V < 0) := by
     refine decide_eq_decide.2 ?_
     rcases Int.lt_or_le q 0 with j | j
     ·have := Int.mul_le_mul_of_nonneg_right (show q + 1 ≤ 0 by omega) (Int.le_of_lt hu)
      omega
     ·have := Int.mul_nonneg j (Int.le_of_lt hu)
      omega
    rw [uF, uz, hs]
    refine (half_cut _ V q _ ((2 ^ (K - 1) : Nat) : Int) K rfl (by omega) hr (by omega) n (by omega) (L - K) (by omega) ?_ _ up).symm
    rw [LK]
    rcases Nat.lt_or_ge V.natAbs (2 ^ L) with k | k
    ·have := (blen_le _ _).2 k
     omega
    ·exact k
   ·have ro' : suO x y = false := by cases h : suO x y with | true => exact absurd h ro | false => rfl
    refine room3 (Or.inr ro') ?_
    by_cases rF : roomB (suF x y) = false
    ·rw [half_form K (by omega) cF eF q vF] at rF
     have := half_out _ rF L hL
     exact bigq (by omega)
    ·have rB : roomB (suB x y) = false := by
      cases hb : roomB (suB x y) with
      | true =>
       exfalso
       refine ro ?_
       unfold suO
       rw [hb]
       cases hf : roomB (suF x y) with
       | true => rfl
       | false => exact absurd hf rF
      | false => rfl
     rw [half_form K (by omega) cB eB (q - pA y) vB] at rB
     have ho := half_out _ rB L hL
     have py := pA_sign y
     have sg := sI_abs y.1 g
     have sf := sI_abs x.1 f
     have hVV : V = pA x * ((2 ^ K : Nat) : Int) + sI x.1 * (f : Int) + (pA y * ((2 ^ K : Nat) : Int) + sI y.1 * (g : Int)) := by rw [sV, fx, gy]
     have hf : -((2 ^ K : Nat) : Int) < sI x.1 * (f : Int) ∧ sI x.1 * (f : Int) < ((2 ^ K : Nat) : Int) := by
      cases hx1 : x.1
      ·rw [hx1] at sf; have := sf.1 rfl; omega
      ·rw [hx1] at sf; have := sf.2 rfl; omega
     have hg : sI y.1 * (g : Int) = 0 ∨ (0 < sI y.1 * (g : Int) ∧ 0 ≤ pA y) ∨ (sI y.1 * (g : Int) < 0 ∧ pA y ≤ 0) := by
      cases hy1 : y.1
      ·rw [hy1] at sg; have := sg.1 rfl; have := py.1 hy1; omega
      ·rw [hy1] at sg; have := sg.2 rfl; have := py.2 hy1; omega
     by_cases h0 : x.2.2 < 0
     ·have ha := pA_few (x := x) (4 * 2 ^ (L - 3)) 1 (by omega) h0 (by omega)
      exact bigq (su_out (pA x) (pA y) q _ _ V _ _ hu hr (by omega) hVV hf hg (by omega) (by omega))
     ·have f0 := f2 (by omega)
      rw [f0, show sI x.1 * ((0 : Nat) : Int) = 0 by simp] at hVV
      by_cases h1 : 0 ≤ y.2.2
      ·exfalso
       rw [g2 h1, show sI y.1 * ((0 : Nat) : Int) = 0 by simp] at hVV
       have : V = (pA x + pA y) * ((2 ^ K : Nat) : Int) := by rw [Int.add_mul]; omega
       have : q = pA x + pA y := by rw [← hq, this, Int.mul_ediv_cancel _ (by omega)]
       rw [this, Int.add_mul] at hr
       omega
      ·by_cases h3 : y.2.2 = -1
       ·have lz : -1 ≤ (sumD x y).2.2 := sum_low _ _ _ (by omega) (by omega) (by omega)
        refine fun p up hp => big p hp up ?_
        have k : 2 ^ (L - 3 + K) ≤ V.natAbs := by
         rcases Nat.lt_or_ge V.natAbs (2 ^ (L - 3 + K)) with k | k
         ·have := (blen_le _ _).2 k
          omega
         ·exact k
        rw [Nat.pow_add] at k
        rw [← Int.natCast_mul]
        omega
       ·have hb := pA_few (x := y) (2 * 2 ^ (L - 3)) 2 (by omega) (by omega) (by omega)
        exact bigq (by omega)
end Go.Proofs.YtahpdcbmekgkfaaGreatDoor
