/- What a dyadic number is worth, in units of a power of 2: sums, products; the one form is one (where the seat has no order of dyadic numbers). -/
import Derived.Test.YtmhddjacjomnbaaGreatDoorDGA
import Derived.Test.YtmhddjacjomnbaaGreatDoorDCan2
namespace Go.Proofs.YtmhddjacjomnbaaGreatDoor
open Go.RowKit

theorem plus_q (x y : Bool × Nat × Int) (hx : x.2.1 ≠ 0) (hy : y.2.1 ≠ 0) (ee : Int) (he : min x.2.2 y.2.2 = ee) (i : Nat) (hi : x.2.2 - ee = (i : Int)) (j : Nat) (hj : y.2.2 - ee = (j : Int)) :
    sumD x y = if x.1 = y.1 then formD x.1 (x.2.1 * 2 ^ i + y.2.1 * 2 ^ j) ee else if y.2.1 * 2 ^ j ≤ x.2.1 * 2 ^ i then formD x.1 (x.2.1 * 2 ^ i - y.2.1 * 2 ^ j) ee else formD y.1 (y.2.1 * 2 ^ j - x.2.1 * 2 ^ i) ee := by
  unfold sumD addHi
  rw [if_neg hx, if_neg hy]
  by_cases h : x.2.2 < y.2.2
  · have e1 : ee = x.2.2 := by omega
    have e2 : i = 0 := by omega
    have e3 : (y.2.2 - x.2.2).toNat = j := by omega
    rw [if_pos h, e3, e1, e2, Nat.pow_zero, Nat.mul_one]
    by_cases hs : x.1 = y.1
    · rw [if_pos hs.symm, if_pos hs, hs, Nat.add_comm]
    · rw [if_neg (fun q => hs q.symm), if_neg hs]
      by_cases hc : x.2.1 ≤ y.2.1 * 2 ^ j
      · by_cases hd : y.2.1 * 2 ^ j ≤ x.2.1
        · have : x.2.1 = y.2.1 * 2 ^ j := by omega
          rw [if_pos hc, if_pos hd, ← this, Nat.sub_self, form_zero, form_zero]
        · rw [if_pos hc, if_neg hd]
      · rw [if_neg hc, if_pos (by omega)]
  · have e1 : ee = y.2.2 := by omega
    have e2 : j = 0 := by omega
    have e3 : (x.2.2 - y.2.2).toNat = i := by omega
    rw [if_neg h, e3, e1, e2, Nat.pow_zero, Nat.mul_one]
def sI (s : Bool) : Int := if s = true then -1 else 1
/-- A number in units of 2^E. -/
def vI (p : Bool × Nat × Int) (E : Int) : Int := sI p.1 * ((p.2.1 * 2 ^ (p.2.2 - E).toNat : Nat) : Int)
theorem vI_zero {p : Bool × Nat × Int} (h : p.2.1 = 0) (E : Int) : vI p E = 0 := by unfold vI; rw [h, Nat.zero_mul]; simp
theorem vI_form (s : Bool) (m : Nat) (e E : Int) (h : E ≤ e) : vI (formD s m e) E = sI s * ((m * 2 ^ (e - E).toNat : Nat) : Int) := by
  by_cases h0 : m = 0
  · rw [h0, form_zero, vI_zero rfl, Nat.zero_mul]; simp
  · have h2 := (odd_part h0).2
    rw [form_pos s h0]
    unfold vI
    show sI s * ((m / 2 ^ tz m * 2 ^ (e + (tz m : Int) - E).toNat : Nat) : Int) = _
    rw [show (e + (tz m : Int) - E).toNat = tz m + (e - E).toNat by omega, Nat.pow_add, ← Nat.mul_assoc, h2]
theorem vI_neg (p : Bool × Nat × Int) (E : Int) : vI (negD p) E = - vI p E := by
  by_cases h0 : p.2.1 = 0
  · rw [vI_zero (p := negD p) h0, vI_zero h0]; rfl
  · have hn1 : (negD p).1 = !p.1 := by unfold negD; rw [decide_eq_false h0]; simp
    unfold vI
    rw [hn1]
    show sI (!p.1) * ((p.2.1 * 2 ^ (p.2.2 - E).toNat : Nat) : Int) = _
    have : sI (!p.1) = - sI p.1 := by unfold sI; cases p.1 <;> rfl
    rw [this, Int.neg_mul]
theorem vI_sum (x y : Bool × Nat × Int) (E : Int) (hx : E ≤ x.2.2) (hy : E ≤ y.2.2) : vI (sumD x y) E = vI x E + vI y E := by
  by_cases h1 : x.2.1 = 0
  · have : sumD x y = y := by unfold sumD; rw [if_pos h1]
    rw [this, vI_zero h1, Int.zero_add]
  · by_cases h2 : y.2.1 = 0
    · have : sumD x y = x := by unfold sumD; rw [if_neg h1, if_pos h2]
      rw [this, vI_zero h2, Int.add_zero]
    · obtain ⟨ee, hee⟩ : ∃ ee : Int, min x.2.2 y.2.2 = ee := ⟨_, rfl⟩
      obtain ⟨i, hi⟩ : ∃ i : Nat, x.2.2 - ee = (i : Int) := ⟨(x.2.2 - ee).toNat, by omega⟩
      obtain ⟨j, hj⟩ : ∃ j : Nat, y.2.2 - ee = (j : Int) := ⟨(y.2.2 - ee).toNat, by omega⟩
      obtain ⟨k, hk⟩ : ∃ k : Nat, ee - E = (k : Int) := ⟨(ee - E).toNat, by omega⟩
      have v1 : vI x E = sI x.1 * ((x.2.1 * 2 ^ i * 2 ^ k : Nat) : Int) := by
        unfold vI
        rw [show (x.2.2 - E).toNat = i + k by omega, Nat.pow_add, ← Nat.mul_assoc]
      have v2 : vI y E = sI y.1 * ((y.2.1 * 2 ^ j * 2 ^ k : Nat) : Int) := by
        unfold vI
        rw [show (y.2.2 - E).toNat = j + k by omega, Nat.pow_add, ← Nat.mul_assoc]
      rw [plus_q x y h1 h2 ee hee i hi j hj, v1, v2]
      generalize x.2.1 * 2 ^ i = M
      generalize y.2.1 * 2 ^ j = N
      have hkk : (ee - E).toNat = k := by omega
      by_cases hs : x.1 = y.1
      · rw [if_pos hs, vI_form _ _ _ _ (by omega), hkk, hs, ← Int.mul_add, Nat.add_mul]
        rfl
      · have hsn : sI y.1 = - sI x.1 := by unfold sI; cases hx1 : x.1 <;> cases hy1 : y.1 <;> rw [hx1, hy1] at hs <;> first | exact absurd rfl hs | rfl
        rw [if_neg hs]
        by_cases hc : N ≤ M
        · rw [if_pos hc, vI_form _ _ _ _ (by omega), hkk, hsn, Int.neg_mul, ← Int.sub_eq_add_neg, ← Int.mul_sub, Nat.sub_mul, Int.ofNat_sub (Nat.mul_le_mul_right _ hc)]
        · rw [if_neg hc, vI_form _ _ _ _ (by omega), hkk, hsn, Int.neg_mul, Int.neg_mul, Nat.sub_mul, Int.ofNat_sub (Nat.mul_le_mul_right _ (by omega)), Int.mul_sub, Int.neg_sub, Int.sub_eq_add_neg]
/-- A number other than 0 in its one form is told by what it is worth. -/
theorem vI_inj (x y : Bool × Nat × Int) (cx : CanD x) (cy : CanD y) (E : Int) (hx : E ≤ x.2.2) (hy : E ≤ y.2.2) (h : vI x E = vI y E) : x = y := by
  have pos : ∀ p : Bool × Nat × Int, p.2.1 ≠ 0 → 0 < p.2.1 * 2 ^ (p.2.2 - E).toNat := fun p q => Nat.mul_pos (Nat.pos_of_ne_zero q) (Nat.two_pow_pos _)
  by_cases h1 : x.2.1 = 0
  · have hz : x = (false, 0, 0) := by
      rcases cx with q | q
      · exact q
      · rw [h1] at q; exact absurd q (by decide)
    by_cases h2 : y.2.1 = 0
    · rcases cy with q | q
      · rw [hz, q]
      · rw [h2] at q; exact absurd q (by decide)
    · rw [vI_zero h1] at h
      have := pos y h2
      unfold vI sI at h
      exfalso
      generalize y.2.1 * 2 ^ (y.2.2 - E).toNat = B at *
      cases hy1 : y.1 <;> rw [hy1] at h <;> simp at h <;> omega
  · by_cases h2 : y.2.1 = 0
    · rw [vI_zero h2] at h
      have := pos x h1
      unfold vI sI at h
      exfalso
      generalize x.2.1 * 2 ^ (x.2.2 - E).toNat = B at *
      cases hx1 : x.1 <;> rw [hx1] at h <;> simp at h <;> omega
    · have o1 : x.2.1 % 2 = 1 := by
        rcases cx with q | q
        · rw [q] at h1; exact absurd rfl h1
        · exact q
      have o2 : y.2.1 % 2 = 1 := by
        rcases cy with q | q
        · rw [q] at h2; exact absurd rfl h2
        · exact q
      have p1 := pos x h1
      have p2 := pos y h2
      have hs : x.1 = y.1 ∧ x.2.1 * 2 ^ (x.2.2 - E).toNat = y.2.1 * 2 ^ (y.2.2 - E).toNat := by
        unfold vI sI at h
        generalize x.2.1 * 2 ^ (x.2.2 - E).toNat = A at *
        generalize y.2.1 * 2 ^ (y.2.2 - E).toNat = B at *
        cases hx1 : x.1 <;> cases hy1 : y.1 <;> rw [hx1, hy1] at h <;> simp at h <;> refine ⟨?_, ?_⟩ <;> first | rfl | omega
      obtain ⟨i, hi⟩ : ∃ i : Nat, x.2.2 - E = (i : Int) := ⟨(x.2.2 - E).toNat, by omega⟩
      obtain ⟨j, hj⟩ : ∃ j : Nat, y.2.2 - E = (j : Int) := ⟨(y.2.2 - E).toNat, by omega⟩
      have hm := hs.2
      rw [hi, hj, Int.toNat_natCast, Int.toNat_natCast] at hm
      have odd_eq : ∀ (u v a b : Nat), u % 2 = 1 → v % 2 = 1 → u * 2 ^ a = v * 2 ^ b → a ≤ b := fun u v a b ou ov e => by
        rcases Nat.lt_or_ge b a with q | q
        · exfalso
          obtain ⟨d, rfl⟩ : ∃ d, a = b + 1 + d := ⟨a - b - 1, by omega⟩
          have e2 : u * 2 ^ (b + 1 + d) = 2 * (u * 2 ^ d) * 2 ^ b := by
            rw [Nat.pow_add, Nat.pow_succ, show u * (2 ^ b * 2 * 2 ^ d) = 2 * (u * 2 ^ d) * 2 ^ b by
              rw [Nat.mul_assoc (2 ^ b), ← Nat.mul_assoc u, Nat.mul_comm u (2 ^ b), Nat.mul_assoc (2 ^ b), Nat.mul_comm (2 ^ b), Nat.mul_left_comm u 2]]
          rw [e2] at e
          have := Nat.eq_of_mul_eq_mul_right (Nat.two_pow_pos b) e
          omega
        · exact q
      have hij : i = j := Nat.le_antisymm (odd_eq _ _ _ _ o1 o2 hm) (odd_eq _ _ _ _ o2 o1 hm.symm)
      subst hij
      have := Nat.eq_of_mul_eq_mul_right (Nat.two_pow_pos i) hm
      obtain ⟨xs, xm, xe⟩ := x
      obtain ⟨ys, ym, ye⟩ := y
      have e1 : xs = ys := hs.1
      have e2 : xm = ym := this
      have e3 : xe = ye := by have a1 : xe - E = (i : Int) := hi; have a2 : ye - E = (i : Int) := hj; omega
      rw [e1, e2, e3]
/-- What comes of numbers is worth whole units, too. -/
theorem sum_low (x y : Bool × Nat × Int) (E : Int) (hE : E ≤ 0) (hx : E ≤ x.2.2) (hy : E ≤ y.2.2) : E ≤ (sumD x y).2.2 := by
  have hf : ∀ s m e, E ≤ e → E ≤ (formD s m e).2.2 := fun s m e h => by
    by_cases h0 : m = 0
    · rw [h0, form_zero]; exact hE
    · rw [form_pos s h0]; show E ≤ e + (tz m : Int); omega
  have ha : ∀ s A t b e, E ≤ e → E ≤ (addHi s A t b e).2.2 := fun s A t b e h => by
    unfold addHi
    split
    · exact hf _ _ _ h
    · split <;> exact hf _ _ _ h
  unfold sumD
  split
  · exact hy
  · split
    · exact hx
    · split
      · exact ha _ _ _ _ _ hx
      · exact ha _ _ _ _ _ hy
end Go.Proofs.YtmhddjacjomnbaaGreatDoor
