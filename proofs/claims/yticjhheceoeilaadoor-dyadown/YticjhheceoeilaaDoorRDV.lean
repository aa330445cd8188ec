/- What a dyadic number is worth, in units of a power of 2: sums, products, order; the one form is one. DyadRing, in numbers: sums and products are a ring's. The statements' calc: what put, add, sub, mul answer, and what the calc then holds. The statement DyadRing. -/
import Derived.Test.YticjhheceoeilaaDoorDCmp2
import Derived.Test.YticjhheceoeilaaDoorRDE
import Derived.Test.YticjhheceoeilaaDoorRDG
import Derived.Test.YticjhheceoeilaaDoorRDA
import Derived.Test.YticjhheceoeilaaDoorDBeg
import Derived.Deep.RegionHeld3
import Derived.Deep.CutRange

namespace Go.Proofs.YticjhheceoeilaaDoor
open Go.RowKit

/-- The order of two amounts is that of their multiples of one unit. -/
theorem amt_scaled (mx : Nat) (ex : Int) (my : Nat) (ey : Int) (hx : mx ≠ 0) (hy : my ≠ 0) (K : Nat) (hex : -(K : Int) ≤ ex) (hey : -(K : Int) ≤ ey) : amtD mx ex my ey = cmpN (mx * 2 ^ (ex + (K : Int)).toNat) (my * 2 ^ (ey + (K : Int)).toNat) := by
  obtain ⟨i, hi⟩ : ∃ i : Nat, ex + (K : Int) = (i : Int) := ⟨(ex + (K : Int)).toNat, by omega⟩
  obtain ⟨j, hj⟩ : ∃ j : Nat, ey + (K : Int) = (j : Int) := ⟨(ey + (K : Int)).toNat, by omega⟩
  rw [hi, hj, Int.toNat_natCast, Int.toNat_natCast]
  have b1 := blen_mul mx i hx
  have b2 := blen_mul my j hy
  have nx : mx * 2 ^ i ≠ 0 := Nat.mul_ne_zero hx (Nat.pos_iff_ne_zero.1 (Nat.two_pow_pos i))
  have ny : my * 2 ^ j ≠ 0 := Nat.mul_ne_zero hy (Nat.pos_iff_ne_zero.1 (Nat.two_pow_pos j))
  unfold amtD
  by_cases ht : ex + (blen mx : Int) - 1 = ey + (blen my : Int) - 1
  · rw [if_neg (by omega)]
    by_cases hl : ex < ey
    · rw [if_pos hl]
      obtain ⟨d, hd⟩ : ∃ d : Nat, ey - ex = (d : Int) := ⟨(ey - ex).toNat, by omega⟩
      rw [hd, Int.toNat_natCast, show j = d + i by omega, Nat.pow_add, ← Nat.mul_assoc]
      unfold cmpN
      have hp := Nat.two_pow_pos i
      rcases Nat.lt_trichotomy (my * 2 ^ d) mx with q | q | q
      · have q2 := (Nat.mul_lt_mul_right hp).2 q
        rw [if_pos q, if_neg (by omega), if_pos q2]; rfl
      · rw [q]; simp
      · have q2 := (Nat.mul_lt_mul_right hp).2 q
        rw [if_neg (by omega), if_pos q, if_pos q2]
    · rw [if_neg hl]
      obtain ⟨d, hd⟩ : ∃ d : Nat, ex - ey = (d : Int) := ⟨(ex - ey).toNat, by omega⟩
      rw [hd, Int.toNat_natCast, show i = d + j by omega, Nat.pow_add, ← Nat.mul_assoc]
      unfold cmpN
      have hp := Nat.two_pow_pos j
      rcases Nat.lt_trichotomy (mx * 2 ^ d) my with q | q | q
      · have q2 := (Nat.mul_lt_mul_right hp).2 q
        rw [if_pos q, if_pos q2]
      · rw [q]; simp
      · have q2 := (Nat.mul_lt_mul_right hp).2 q
        rw [if_neg (by omega), if_pos q, if_neg (by omega), if_pos q2]
  · rw [if_pos ht]
    unfold Lib.compareInt cmpN
    have key : ∀ u v : Nat, u ≠ 0 → v ≠ 0 → blen u < blen v → u < v := fun u v hu hv hb => by
      have h1 := lt_blen u
      have h2 := blen_ge v hv
      have h3 : 2 ^ blen u ≤ 2 ^ (blen v - 1) := Nat.pow_le_pow_right (by decide) (by omega)
      omega
    rcases Int.lt_or_gt_of_ne ht with q | q
    · have := key _ _ nx ny (by omega)
      rw [if_pos q, if_pos this]
    · have := key _ _ ny nx (by omega)
      rw [if_neg (by omega), if_pos q, if_neg (by omega), if_pos this]
def sI (s : Bool) : Int := if s = true then -1 else 1
/-- A number in units of 2^E. -/
def vI (p : Bool × Nat × Int) (E : Int) : Int := sI p.1 * ((p.2.1 * 2 ^ (p.2.2 - E).toNat : Nat) : Int)
theorem vI_zero {p : Bool × Nat × Int} (h : p.2.1 = 0) (E : Int) : vI p E = 0 := by unfold vI; rw [h, Nat.zero_mul]; simp
theorem vI_form (s : Bool) (m : Nat) (e E : Int) (h : E ≤ e) : vI (formD s m e) E = sI s * ((m * 2 ^ (e - E).toNat : Nat) : Int) := by
  by_cases h0 : m = 0
  · rw [h0, form_zero, vI_zero rfl, Nat.zero_mul]; simp
  · have h2 := (odd_part h0).2
    rw [form_pos s h0]
    unfold vI
    show sI s * ((m / 2 ^ tz m * 2 ^ (e + (tz m : Int) - E).toNat : Nat) : Int) = _
    rw [show (e + (tz m : Int) - E).toNat = tz m + (e - E).toNat by omega, Nat.pow_add, ← Nat.mul_assoc, h2]
theorem vI_neg (p : Bool × Nat × Int) (E : Int) : vI (negD p) E = - vI p E := by
  by_cases h0 : p.2.1 = 0
  · rw [vI_zero (p := negD p) h0, vI_zero h0]; rfl
  · have hn1 : (negD p).1 = !p.1 := by unfold negD; rw [decide_eq_false h0]; simp
    unfold vI
    rw [hn1]
    show sI (!p.1) * ((p.2.1 * 2 ^ (p.2.2 - E).toNat : Nat) : Int) = _
    have : sI (!p.1) = - sI p.1 := by unfold sI; cases p.1 <;> rfl
    rw [this, Int.neg_mul]
theorem vI_sum (x y : Bool × Nat × Int) (E : Int) (hx : E ≤ x.2.2) (hy : E ≤ y.2.2) : vI (sumD x y) E = vI x E + vI y E := by
  by_cases h1 : x.2.1 = 0
  · have : sumD x y = y := by unfold sumD; rw [if_pos h1]
    rw [this, vI_zero h1, Int.zero_add]
  · by_cases h2 : y.2.1 = 0
    · have : sumD x y = x := by unfold sumD; rw [if_neg h1, if_pos h2]
      rw [this, vI_zero h2, Int.add_zero]
    · obtain ⟨ee, hee⟩ : ∃ ee : Int, min x.2.2 y.2.2 = ee := ⟨_, rfl⟩
      obtain ⟨i, hi⟩ : ∃ i : Nat, x.2.2 - ee = (i : Int) := ⟨(x.2.2 - ee).toNat, by omega⟩
      obtain ⟨j, hj⟩ : ∃ j : Nat, y.2.2 - ee = (j : Int) := ⟨(y.2.2 - ee).toNat, by omega⟩
      obtain ⟨k, hk⟩ : ∃ k : Nat, ee - E = (k : Int) := ⟨(ee - E).toNat, by omega⟩
      have v1 : vI x E = sI x.1 * ((x.2.1 * 2 ^ i * 2 ^ k : Nat) : Int) := by
        unfold vI
        rw [show (x.2.2 - E).toNat = i + k by omega, Nat.pow_add, ← Nat.mul_assoc]
      have v2 : vI y E = sI y.1 * ((y.2.1 * 2 ^ j * 2 ^ k : Nat) : Int) := by
        unfold vI
        rw [show (y.2.2 - E).toNat = j + k by omega, Nat.pow_add, ← Nat.mul_assoc]
      rw [plus_q x y h1 h2 ee hee i hi j hj, v1, v2]
      generalize x.2.1 * 2 ^ i = M
      generalize y.2.1 * 2 ^ j = N
      have hkk : (ee - E).toNat = k := by omega
      by_cases hs : x.1 = y.1
      · rw [if_pos hs, vI_form _ _ _ _ (by omega), hkk, hs, ← Int.mul_add, Nat.add_mul]
        rfl
      · have hsn : sI y.1 = - sI x.1 := by unfold sI; cases hx1 : x.1 <;> cases hy1 : y.1 <;> rw [hx1, hy1] at hs <;> first | exact absurd rfl hs | rfl
        rw [if_neg hs]
        by_cases hc : N ≤ M
        · rw [if_pos hc, vI_form _ _ _ _ (by omega), hkk, hsn, Int.neg_mul, ← Int.sub_eq_add_neg, ← Int.mul_sub, Nat.sub_mul, Int.ofNat_sub (Nat.mul_le_mul_right _ hc)]
        · rw [if_neg hc, vI_form _ _ _ _ (by omega), hkk, hsn, Int.neg_mul, Int.neg_mul, Nat.sub_mul, Int.ofNat_sub (Nat.mul_le_mul_right _ (by omega)), Int.mul_sub, Int.neg_sub, Int.sub_eq_add_neg]
theorem vI_mul (x y : Bool × Nat × Int) (E F : Int) (hx : E ≤ x.2.2) (hy : F ≤ y.2.2) : vI (mulD x y) (E + F) = vI x E * vI y F := by
  unfold mulD
  rw [vI_form _ _ _ _ (by omega)]
  unfold vI
  rw [show (x.2.2 + y.2.2 - (E + F)).toNat = (x.2.2 - E).toNat + (y.2.2 - F).toNat by omega, Nat.pow_add]
  have hs : sI (!(x.1 == y.1)) = sI x.1 * sI y.1 := by unfold sI; cases x.1 <;> cases y.1 <;> rfl
  rw [hs, show x.2.1 * y.2.1 * (2 ^ (x.2.2 - E).toNat * 2 ^ (y.2.2 - F).toNat) = x.2.1 * 2 ^ (x.2.2 - E).toNat * (y.2.1 * 2 ^ (y.2.2 - F).toNat) by rw [Nat.mul_assoc, Nat.mul_assoc, ← Nat.mul_assoc y.2.1, ← Nat.mul_assoc (2 ^ (x.2.2 - E).toNat), Nat.mul_comm y.2.1], Int.natCast_mul, Int.mul_assoc, Int.mul_assoc]
  congr 1
  rw [← Int.mul_assoc, Int.mul_comm (sI y.1), Int.mul_assoc]
/-- The order of two numbers is that of what they are worth. -/
theorem vI_cmp (x y : Bool × Nat × Int) (K : Nat) (hx : -(K : Int) ≤ x.2.2) (hy : -(K : Int) ≤ y.2.2) : cmpD x y = Lib.compareInt (vI x (-(K : Int))) (vI y (-(K : Int))) := by
  have key : ∀ p : Bool × Nat × Int, p.2.1 ≠ 0 → ((p.2.1 * 2 ^ (p.2.2 - -(K : Int)).toNat : Nat) : Int) > 0 := fun p h => by
    have := Nat.mul_pos (Nat.pos_of_ne_zero h) (Nat.two_pow_pos (p.2.2 - -(K : Int)).toNat)
    omega
  by_cases h1 : x.2.1 = 0
  · rw [vI_zero h1]
    by_cases h2 : y.2.1 = 0
    · rw [vI_zero h2]
      unfold cmpD sgnD
      rw [if_pos h1, if_pos h2]
      simp [h1, Lib.compareInt]
    · have hp := key y h2
      unfold cmpD sgnD vI sI Lib.compareInt
      rw [if_pos h1, if_neg h2]
      generalize y.2.1 * 2 ^ (y.2.2 - -(K : Int)).toNat = B at *
      cases y.1 <;> simp <;> omega
  · have hp1 := key x h1
    by_cases h2 : y.2.1 = 0
    · rw [vI_zero h2]
      unfold cmpD sgnD vI sI Lib.compareInt
      rw [if_neg h1, if_pos h2]
      generalize x.2.1 * 2 ^ (x.2.2 - -(K : Int)).toNat = B at *
      cases x.1 <;> simp <;> omega
    · have hp2 := key y h2
      have ha := amt_scaled x.2.1 x.2.2 y.2.1 y.2.2 h1 h2 K hx hy
      unfold cmpD
      rw [ha]
      unfold sgnD vI sI
      rw [if_neg h1, if_neg h2, show x.2.2 - -(K : Int) = x.2.2 + (K : Int) by omega, show y.2.2 - -(K : Int) = y.2.2 + (K : Int) by omega]
      rw [show x.2.2 - -(K : Int) = x.2.2 + (K : Int) by omega] at hp1
      rw [show y.2.2 - -(K : Int) = y.2.2 + (K : Int) by omega] at hp2
      generalize x.2.1 * 2 ^ (x.2.2 + (K : Int)).toNat = A at *
      generalize y.2.1 * 2 ^ (y.2.2 + (K : Int)).toNat = B at *
      unfold Lib.compareInt cmpN
      cases x.1 <;> cases y.1 <;> simp <;> (repeat' split) <;> omega
/-- A number other than 0 in its one form is told by what it is worth. -/
theorem vI_inj (x y : Bool × Nat × Int) (cx : CanD x) (cy : CanD y) (E : Int) (hx : E ≤ x.2.2) (hy : E ≤ y.2.2) (h : vI x E = vI y E) : x = y := by
  have pos : ∀ p : Bool × Nat × Int, p.2.1 ≠ 0 → 0 < p.2.1 * 2 ^ (p.2.2 - E).toNat := fun p q => Nat.mul_pos (Nat.pos_of_ne_zero q) (Nat.two_pow_pos _)
  by_cases h1 : x.2.1 = 0
  · have hz : x = (false, 0, 0) := by
      rcases cx with q | q
      · exact q
      · rw [h1] at q; exact absurd q (by decide)
    by_cases h2 : y.2.1 = 0
    · rcases cy with q | q
      · rw [hz, q]
      · rw [h2] at q; exact absurd q (by decide)
    · rw [vI_zero h1] at h
      have := pos y h2
      unfold vI sI at h
      exfalso
      generalize y.2.1 * 2 ^ (y.2.2 - E).toNat = B at *
      cases hy1 : y.1 <;> rw [hy1] at h <;> simp at h <;> omega
  · by_cases h2 : y.2.1 = 0
    · rw [vI_zero h2] at h
      have := pos x h1
      unfold vI sI at h
      exfalso
      generalize x.2.1 * 2 ^ (x.2.2 - E).toNat = B at *
      cases hx1 : x.1 <;> rw [hx1] at h <;> simp at h <;> omega
    · have o1 : x.2.1 % 2 = 1 := by
        rcases cx with q | q
        · rw [q] at h1; exact absurd rfl h1
        · exact q
      have o2 : y.2.1 % 2 = 1 := by
        rcases cy with q | q
        · rw [q] at h2; exact absurd rfl h2
        · exact q
      have p1 := pos x h1
      have p2 := pos y h2
      have hs : x.1 = y.1 ∧ x.2.1 * 2 ^ (x.2.2 - E).toNat = y.2.1 * 2 ^ (y.2.2 - E).toNat := by
        unfold vI sI at h
        generalize x.2.1 * 2 ^ (x.2.2 - E).toNat = A at *
        generalize y.2.1 * 2 ^ (y.2.2 - E).toNat = B at *
        cases hx1 : x.1 <;> cases hy1 : y.1 <;> rw [hx1, hy1] at h <;> simp at h <;> refine ⟨?_, ?_⟩ <;> first | rfl | omega
      obtain ⟨i, hi⟩ : ∃ i : Nat, x.2.2 - E = (i : Int) := ⟨(x.2.2 - E).toNat, by omega⟩
      obtain ⟨j, hj⟩ : ∃ j : Nat, y.2.2 - E = (j : Int) := ⟨(y.2.2 - E).toNat, by omega⟩
      have hm := hs.2
      rw [hi, hj, Int.toNat_natCast, Int.toNat_natCast] at hm
      have odd_eq : ∀ (u v a b : Nat), u % 2 = 1 → v % 2 = 1 → u * 2 ^ a = v * 2 ^ b → a ≤ b := fun u v a b ou ov e => by
        rcases Nat.lt_or_ge b a with q | q
        · exfalso
          obtain ⟨d, rfl⟩ : ∃ d, a = b + 1 + d := ⟨a - b - 1, by omega⟩
          have e2 : u * 2 ^ (b + 1 + d) = 2 * (u * 2 ^ d) * 2 ^ b := by
            rw [Nat.pow_add, Nat.pow_succ, show u * (2 ^ b * 2 * 2 ^ d) = 2 * (u * 2 ^ d) * 2 ^ b by
              rw [Nat.mul_assoc (2 ^ b), ← Nat.mul_assoc u, Nat.mul_comm u (2 ^ b), Nat.mul_assoc (2 ^ b), Nat.mul_comm (2 ^ b), Nat.mul_left_comm u 2]]
          rw [e2] at e
          have := Nat.eq_of_mul_eq_mul_right (Nat.two_pow_pos b) e
          omega
        · exact q
      have hij : i = j := Nat.le_antisymm (odd_eq _ _ _ _ o1 o2 hm) (odd_eq _ _ _ _ o2 o1 hm.symm)
      subst hij
      have := Nat.eq_of_mul_eq_mul_right (Nat.two_pow_pos i) hm
      obtain ⟨xs, xm, xe⟩ := x
      obtain ⟨ys, ym, ye⟩ := y
      have e1 : xs = ys := hs.1
      have e2 : xm = ym := this
      have e3 : xe = ye := by have a1 : xe - E = (i : Int) := hi; have a2 : ye - E = (i : Int) := hj; omega
      rw [e1, e2, e3]
/-- What comes of numbers is worth whole units, too. -/
theorem sum_low (x y : Bool × Nat × Int) (E : Int) (hE : E ≤ 0) (hx : E ≤ x.2.2) (hy : E ≤ y.2.2) : E ≤ (sumD x y).2.2 := by
  have hf : ∀ s m e, E ≤ e → E ≤ (formD s m e).2.2 := fun s m e h => by
    by_cases h0 : m = 0
    · rw [h0, form_zero]; exact hE
    · rw [form_pos s h0]; show E ≤ e + (tz m : Int); omega
  have ha : ∀ s A t b e, E ≤ e → E ≤ (addHi s A t b e).2.2 := fun s A t b e h => by
    unfold addHi
    split
    · exact hf _ _ _ h
    · split <;> exact hf _ _ _ h
  unfold sumD
  split
  · exact hy
  · split
    · exact hx
    · split
      · exact ha _ _ _ _ _ hx
      · exact ha _ _ _ _ _ hy
theorem mul_low (x y : Bool × Nat × Int) (E F : Int) (hE : E + F ≤ 0) (hx : E ≤ x.2.2) (hy : F ≤ y.2.2) : E + F ≤ (mulD x y).2.2 := by
  unfold mulD
  by_cases h0 : x.2.1 * y.2.1 = 0
  · rw [h0, form_zero]; exact hE
  · rw [form_pos _ h0]; show E + F ≤ x.2.2 + y.2.2 + (tz (x.2.1 * y.2.1) : Int); omega
end Go.Proofs.YticjhheceoeilaaDoor

namespace Go.Proofs.YticjhheceoeilaaDoor

section
open Go.RowKit

abbrev Tri := Bool × Nat × Int
theorem sum_canR {x y : Tri} (hx : CanD x) (hy : CanD y) : CanD (sumD x y) := by
  have ha : ∀ s A t b e, CanD (addHi s A t b e) := fun s A t b e => by
    unfold addHi
    split
    · exact form_can _ _ _
    · split <;> exact form_can _ _ _
  unfold sumD
  split
  · exact hy
  · split
    · exact hx
    · split <;> exact ha _ _ _ _ _
theorem mul_canR (x y : Tri) : CanD (mulD x y) := form_can _ _ _
theorem low_of (x y z : Tri) : ∃ E : Int, E ≤ 0 ∧ E ≤ x.2.2 ∧ E ≤ y.2.2 ∧ E ≤ z.2.2 := ⟨-((x.2.2.natAbs + y.2.2.natAbs + z.2.2.natAbs : Nat) : Int), by omega, by omega, by omega, by omega⟩

theorem sum_assocR (x y z : Tri) (cx : CanD x) (cy : CanD y) (cz : CanD z) : sumD x (sumD y z) = sumD (sumD x y) z := by
  obtain ⟨E, h0, hx, hy, hz⟩ := low_of x y z
  have l1 := sum_low y z E h0 hy hz
  have l2 := sum_low x y E h0 hx hy
  refine vI_inj _ _ (sum_canR cx (sum_canR cy cz)) (sum_canR (sum_canR cx cy) cz) E (sum_low _ _ E h0 hx l1) (sum_low _ _ E h0 l2 hz) ?_
  rw [vI_sum _ _ E hx l1, vI_sum _ _ E hy hz, vI_sum _ _ E l2 hz, vI_sum _ _ E hx hy, Int.add_assoc]
theorem sum_commR (x y : Tri) (cx : CanD x) (cy : CanD y) : sumD x y = sumD y x := by
  obtain ⟨E, h0, hx, hy, -⟩ := low_of x y x
  refine vI_inj _ _ (sum_canR cx cy) (sum_canR cy cx) E (sum_low _ _ E h0 hx hy) (sum_low _ _ E h0 hy hx) ?_
  rw [vI_sum _ _ E hx hy, vI_sum _ _ E hy hx, Int.add_comm]
theorem mul_assocR (x y z : Tri) : mulD x (mulD y z) = mulD (mulD x y) z := by
  obtain ⟨E, h0, hx, hy, hz⟩ := low_of x y z
  have l1 := mul_low y z E E (by omega) hy hz
  have l2 := mul_low x y E E (by omega) hx hy
  refine vI_inj _ _ (mul_canR _ _) (mul_canR _ _) (E + (E + E)) (mul_low _ _ E (E + E) (by omega) hx l1) ?_ ?_
  · have := mul_low _ _ (E + E) E (by omega) l2 hz
    omega
  · rw [vI_mul _ _ E (E + E) hx l1, vI_mul _ _ E E hy hz, show E + (E + E) = E + E + E by omega, vI_mul _ _ (E + E) E l2 hz, vI_mul _ _ E E hx hy, Int.mul_assoc]
theorem mul_commR (x y : Tri) : mulD x y = mulD y x := by
  unfold mulD
  rw [Nat.mul_comm, Int.add_comm]
  congr 2
  cases x.1 <;> cases y.1 <;> rfl
theorem mul_sumR (x y z : Tri) : mulD x (sumD y z) = sumD (mulD x y) (mulD x z) := by
  obtain ⟨E, h0, hx, hy, hz⟩ := low_of x y z
  have l1 := sum_low y z E h0 hy hz
  have l2 := mul_low x y E E (by omega) hx hy
  have l3 := mul_low x z E E (by omega) hx hz
  refine vI_inj _ _ (mul_canR _ _) (sum_canR (mul_canR _ _) (mul_canR _ _)) (E + E) (mul_low _ _ E E (by omega) hx l1) (sum_low _ _ (E + E) (by omega) l2 l3) ?_
  rw [vI_mul _ _ E E hx l1, vI_sum _ _ E hy hz, vI_sum _ _ (E + E) l2 l3, vI_mul _ _ E E hx hy, vI_mul _ _ E E hx hz, Int.mul_add]
theorem neg_low {y : Tri} {E : Int} (h : E ≤ y.2.2) : E ≤ (negD y).2.2 := h
theorem sub_backR (x y : Tri) (cx : CanD x) (cy : CanD y) : sumD (sumD x (negD y)) y = x := by
  obtain ⟨E, h0, hx, hy, -⟩ := low_of x y x
  have l1 := sum_low x (negD y) E h0 hx (neg_low hy)
  refine vI_inj _ _ (sum_canR (sum_canR cx (negD_canon cy)) cy) cx E (sum_low _ _ E h0 l1 hy) hx ?_
  rw [vI_sum _ _ E l1 hy, vI_sum _ _ E hx (neg_low hy), vI_neg]
  omega
theorem sgn_vI (x : Tri) (E : Int) : sgnQ x.1 x.2.1 = Lib.compareInt (vI x E) 0 := by
  by_cases h : x.2.1 = 0
  · rw [vI_zero h, h]; rfl
  · have hp : ((x.2.1 * 2 ^ (x.2.2 - E).toNat : Nat) : Int) > 0 := by
      have := Nat.mul_pos (Nat.pos_of_ne_zero h) (Nat.two_pow_pos (x.2.2 - E).toNat)
      omega
    unfold sgnQ vI sI Lib.compareInt
    rw [if_neg h]
    generalize x.2.1 * 2 ^ (x.2.2 - E).toNat = B at *
    cases x.1 <;> simp <;> omega
theorem cmp_subR (x y : Tri) : cmpD x y = sgnQ (sumD x (negD y)).1 (sumD x (negD y)).2.1 := by
  have hx : -((x.2.2.natAbs + y.2.2.natAbs : Nat) : Int) ≤ x.2.2 := by omega
  have hy : -((x.2.2.natAbs + y.2.2.natAbs : Nat) : Int) ≤ y.2.2 := by omega
  rw [vI_cmp x y _ hx hy, sgn_vI _ (-((x.2.2.natAbs + y.2.2.natAbs : Nat) : Int)), vI_sum _ _ _ hx (neg_low hy), vI_neg]
  generalize vI x _ = A
  generalize vI y _ = B
  unfold Lib.compareInt
  (repeat' split) <;> omega

/-- What an asker of two numbers gets: any numbers, right or not. -/
def fm (x : Tri) : Tri := formD x.1 x.2.1 x.2.2
def rt (x : Tri) : Bool := rightB x.2.1 x.2.2
def subD (x y : Tri) : Tri := sumD x (negD y)
def opE (F : Tri → Tri → Tri) (x y : Tri) : Int := twE (rt x && rt y) (F (fm x) (fm y))
def opP (F : Tri → Tri → Tri) (x y : Tri) : Tri := twP (rt x && rt y) (F (fm x) (fm y))
def cnE (x : Tri) : Int := canE x.1 x.2.1 x.2.2
def cnP (x : Tri) : Tri := canP x.1 x.2.1 x.2.2
def smB (p q : Tri) : Bool := sameB p.1 p.2.2 (wordsOf p.2.1) q.1 q.2.2 (wordsOf q.2.1)
def stk (k e : Int) : Int := if k = 0 then e else k
theorem smB_self (p : Tri) : smB p p = true := sameB_self _ _ _
theorem smB_of {p q : Tri} (h : p = q) : smB p q = true := h ▸ smB_self p
theorem stk_zero {k e : Int} (h : stk k e = 0) : k = 0 ∧ e = 0 := by
  unfold stk at h
  split at h
  · exact ⟨by assumption, h⟩
  · exact absurd h (by assumption)
theorem op_ok {F : Tri → Tri → Tri} {x y : Tri} (h : opE F x y = 0) : rt x = true ∧ rt y = true ∧ opP F x y = F (fm x) (fm y) := by
  unfold opE at h
  unfold opP
  cases h1 : (rt x && rt y) with
  | false => rw [h1] at h; exact absurd (show (2 : Int) = 0 from h) (by decide)
  | true =>
    rw [h1] at h
    obtain ⟨r1, r2⟩ := Bool.and_eq_true_iff.1 h1
    refine ⟨r1, r2, ?_⟩
    have h2 : roomE (F (fm x) (fm y)) = 0 := h
    show roomP (F (fm x) (fm y)) = _
    unfold roomE at h2
    unfold roomP
    split at h2
    · rw [if_pos (by assumption)]
    · exact absurd h2 (by decide)
theorem fm_of {x : Tri} (h : CanD x) : fm x = x := form_of_can h
theorem fm_can (x : Tri) : CanD (fm x) := form_can _ _ _
theorem cn_ok {x : Tri} (h : cnE x = 0) : rt x = true ∧ cnP x = fm x := by
  unfold cnE canE at h
  unfold cnP canP
  split at h
  · rename_i hr
    refine ⟨hr, ?_⟩
    rw [if_pos hr]
    have h2 : roomE (fm x) = 0 := h
    show roomP (fm x) = _
    unfold roomE at h2
    unfold roomP
    split at h2
    · rw [if_pos (by assumption)]
    · exact absurd h2 (by decide)
  · exact absurd h (by decide)

/-- a + (b + d) and (a + b) + d. -/
theorem ring_sum {a b d : Tri} (e1 : opE sumD b d = 0) (e2 : opE sumD a (opP sumD b d) = 0) (e3 : opE sumD a b = 0) (e4 : opE sumD (opP sumD a b) d = 0) : smB (opP sumD a (opP sumD b d)) (opP sumD (opP sumD a b) d) = true := by
  refine smB_of ?_
  rw [(op_ok e2).2.2, (op_ok e4).2.2, (op_ok e1).2.2, (op_ok e3).2.2, fm_of (sum_canR (fm_can _) (fm_can _)), fm_of (sum_canR (fm_can _) (fm_can _))]
  exact sum_assocR _ _ _ (fm_can _) (fm_can _) (fm_can _)
theorem ring_sum2 {a b : Tri} (e1 : opE sumD a b = 0) (e2 : opE sumD b a = 0) : smB (opP sumD a b) (opP sumD b a) = true := by
  refine smB_of ?_
  rw [(op_ok e1).2.2, (op_ok e2).2.2]
  exact sum_commR _ _ (fm_can _) (fm_can _)
theorem ring_mul {a b d : Tri} (e1 : opE mulD b d = 0) (e2 : opE mulD a (opP mulD b d) = 0) (e3 : opE mulD a b = 0) (e4 : opE mulD (opP mulD a b) d = 0) : smB (opP mulD a (opP mulD b d)) (opP mulD (opP mulD a b) d) = true := by
  refine smB_of ?_
  rw [(op_ok e2).2.2, (op_ok e4).2.2, (op_ok e1).2.2, (op_ok e3).2.2, fm_of (mul_canR _ _), fm_of (mul_canR _ _)]
  exact mul_assocR _ _ _
theorem ring_mul2 {a b : Tri} (e1 : opE mulD a b = 0) (e2 : opE mulD b a = 0) : smB (opP mulD a b) (opP mulD b a) = true := by
  refine smB_of ?_
  rw [(op_ok e1).2.2, (op_ok e2).2.2]
  exact mul_commR _ _
theorem ring_over {a b d : Tri} (e1 : opE sumD b d = 0) (e2 : opE mulD a (opP sumD b d) = 0) (e3 : opE mulD a b = 0) (e4 : opE mulD a d = 0) (e5 : opE sumD (opP mulD a b) (opP mulD a d) = 0) : smB (opP mulD a (opP sumD b d)) (opP sumD (opP mulD a b) (opP mulD a d)) = true := by
  refine smB_of ?_
  rw [(op_ok e2).2.2, (op_ok e5).2.2, (op_ok e1).2.2, (op_ok e3).2.2, (op_ok e4).2.2, fm_of (sum_canR (fm_can _) (fm_can _)), fm_of (mul_canR _ _), fm_of (mul_canR _ _)]
  exact mul_sumR _ _ _
theorem ring_back {a b : Tri} (e1 : opE subD a b = 0) (e2 : opE sumD (opP subD a b) b = 0) (e3 : cnE a = 0) : smB (opP sumD (opP subD a b) b) (cnP a) = true := by
  refine smB_of ?_
  rw [(op_ok e2).2.2, (op_ok e1).2.2, (cn_ok e3).2, fm_of (show CanD (subD (fm a) (fm b)) from sum_canR (fm_can _) (negD_canon (fm_can _)))]
  exact sub_backR _ _ (fm_can _) (fm_can _)
theorem ring_cmp {a b : Tri} (e1 : opE subD a b = 0) : cmE (rt a && rt b) = 0 ∧ cmV (rt a && rt b) (fm a) (fm b) = sgnQ (opP subD a b).1 (opP subD a b).2.1 := by
  obtain ⟨h1, h2, h3⟩ := op_ok e1
  rw [h1, h2, h3]
  exact ⟨rfl, cmp_subR _ _⟩

end

section
open Go.RowKit

/-- Of what was there nothing has turned but block c. -/
def Rn (c : Nat) (w w' : World) : Prop := w'.os = w.os ∧ w'.tape = w.tape ∧ w'.output = w.output ∧ w.heap.size ≤ w'.heap.size ∧ ∀ k, k < w.heap.size → k ≠ c → w'.heap[k]? = w.heap[k]?
theorem Rn.refl (c : Nat) (w : World) : Rn c w w := ⟨rfl, rfl, rfl, Nat.le_refl _, fun _ _ _ => rfl⟩
theorem Rn.of_below {c : Nat} {w w' : World} (h : Below w.heap.size w w') : Rn c w w' := ⟨h.os, h.tape, h.output, h.size, fun k hk _ => h.block k hk⟩
theorem Rn.trans {c : Nat} {x y z : World} (h : Rn c x y) (k : Rn c y z) : Rn c x z :=
  ⟨k.1.trans h.1, k.2.1.trans h.2.1, k.2.2.1.trans h.2.2.1, Nat.le_trans h.2.2.2.1 k.2.2.2.1, fun i hi hc => (k.2.2.2.2 i (Nat.lt_of_lt_of_le hi h.2.2.2.1) hc).trans (h.2.2.2.2 i hi hc)⟩
theorem Rn.drew {c : Nat} {x w : World} (h : Rn c x w) : Rn c x w.drew := h
theorem Rn.alloc {c : Nat} {x w : World} (h : Rn c x w) (o : Obj) : Rn c x (w.alloc o) := h.trans (Rn.of_below ((Below.refl _ _).alloc (Nat.le_refl _) o))
theorem Rn.set {c : Nat} {x w : World} (h : Rn c x w) {p : Addr} (hp : x.heap.size ≤ p.block ∨ p.block = c) (u : Value) : Rn c x (w.setCell p u) := by
  refine ⟨h.1, h.2.1, h.2.2.1, ?_, fun k hk hc => ?_⟩
  · have := h.2.2.2.1
    simpa [World.setCell] using this
  · rw [Below.heap_setCell _ _ _ _ (by rcases hp with q | q <;> omega)]
    exact h.2.2.2.2 k hk hc
theorem Rn.below {c B : Nat} {w w' : World} (h : Rn c w w') (hB : B ≤ c) (hs : B ≤ w.heap.size) : Below B w w' := ⟨h.1, h.2.1, h.2.2.1, h.2.2.2.1, fun k hk => h.2.2.2.2 k (by omega) (by omega)⟩
theorem Rn.cell {c : Nat} {w w' : World} (h : Rn c w w') {p : Addr} {v : Value} (hp : w.cell? p = some v) (hc : p.block ≠ c) : w'.cell? p = some v :=
  (World.cell?_of_block (w := w) (h.2.2.2.2 p.block (World.block_lt_of_cell? _ _ hp) hc)).trans hp
/-- A list of words does not lie in block c. -/
def NoC (c : Nat) (a : Option Addr) (n : Nat) : Prop := ∀ b off, a = some ⟨b, off, none⟩ → 0 < n → b ≠ c
theorem IsW.keepR {c : Nat} {w w' : World} {a : Option Addr} {n cap : Nat} {xs : List Int} (h : IsW w a n cap xs) (hc : NoC c a n) (r : Rn c w w') : IsW w' a n cap xs := by
  obtain ⟨h1, h2, h4, h3⟩ := h
  refine ⟨h1, h2, h4, fun i hi => ?_⟩
  obtain ⟨b, off, e1, e2, e3⟩ := h3 i hi
  exact ⟨b, off, e1, Nat.lt_of_lt_of_le e2 r.2.2.2.1, r.cell e3 (hc b off e1 (by omega))⟩
theorem IsW.noC {c : Nat} {w : World} {a : Option Addr} {n cap : Nat} {xs : List Int} (h : IsW w a n cap xs) (hc : w.heap.size ≤ c) : NoC c a n := fun b off e hn => by
  obtain ⟨b', off', e1, e2, -⟩ := h.2.2.2 0 hn
  rw [e] at e1
  simp only [Option.some.injEq, Addr.mk.injEq, and_true] at e1
  omega
theorem OwnW.noC {B c : Nat} {w : World} {a : Option Addr} {n cap : Nat} {xs : List Int} (h : OwnW B w a n cap xs) (hc : c < B) : NoC c a n := fun b off e hn => by
  have := (h.2 b off 0 e hn).1
  omega
/-- A number as the calc hands it out. -/
def DyC (c : Nat) (w : World) (v : Value) (p : Tri) : Prop := ∃ (ao : Option Addr) (n cc : Nat), v = dyV p.1 ao n cc p.2.2 ∧ n ≤ 1024 ∧ IsW w ao n cc (wordsOf p.2.1) ∧ NoC c ao n
/-- The calc at block c holds k. -/
def CAt (c : Nat) (w : World) (k : Int) : Prop := w.cell? ⟨c, 0, none⟩ = some (.int .i64 k) ∧ w.frozen? ⟨c, 0, none⟩ = false
theorem CAt.keep {c : Nat} {w w' : World} {k : Int} (h : CAt c w k) (hb : Below w.heap.size w w') : CAt c w' k := ⟨dcarry_cell hb h.1, dcarry_frozen hb h.1 h.2⟩

theorem stk_pos {k : Int} (h : k = 0) (y : Int) : stk k y = y := if_pos h
theorem stk_neg {k : Int} (h : k ≠ 0) (y : Int) : stk k y = k := if_neg h

set_option maxRecDepth 100000 in
set_option maxHeartbeats 1000000 in
theorem cput_calls (c : Nat) (k : Int) (s : Bool) (a : Option Addr) (n cc : Nat) (e y : Int) (w : World) (h : CAt c w k) :
    Calls Tryd.prog 10 #[.pointer (some ⟨c, 0, none⟩), dyV s a n cc e, .int .i64 y] w fun r w' => r = .returned (dyV s a n cc e) ∧ CAt c w' (stk k y) ∧ Rn c w w' := by
  have hlt : c < w.heap.size := World.block_lt_of_cell? _ _ h.1
  obtain ⟨hc, hf⟩ := h
  have hn := World.new_ne w ⟨c, 0, none⟩ hc
  unfold CAt
  by_cases hk : k = 0
  · rw [stk_pos hk]
    subst hk
    go_enter Tryd.func10, Tryd.ntmps10
    go_wp2
    refine bodyPost_ret (v := dyV s a n cc e) (by simp [results, Tryd.results10, go_sem]) rfl ⟨rfl, ⟨?_, ?_⟩, ?_⟩
    · go_simp
    · go_simp
    · repeat (first | exact Rn.refl _ _ | refine Rn.drew ?_ | refine Rn.alloc ?_ _ | refine Rn.set ?_ (by simp) _)
  · rw [stk_neg hk]
    have hk' : (k == 0) = false := by simp [hk]
    go_enter Tryd.func10, Tryd.ntmps10
    go_wp2
    refine bodyPost_ret (v := dyV s a n cc e) (by simp [results, Tryd.results10, go_sem]) rfl ⟨rfl, ⟨?_, ?_⟩, ?_⟩
    · go_simp
    · go_simp
    · repeat (first | exact Rn.refl _ _ | refine Rn.drew ?_ | refine Rn.alloc ?_ _ | refine Rn.set ?_ (by simp) _)
-- OPS
theorem Rn.frozen {c : Nat} {w w' : World} (h : Rn c w w') {p : Addr} {v : Value} (hp : w.cell? p = some v) (hc : p.block ≠ c) (hf : w.frozen? p = false) : w'.frozen? p = false :=
  (World.frozen?_of_block (w := w) (h.2.2.2.2 p.block (World.block_lt_of_cell? _ _ hp) hc)).trans hf
theorem CAt.keepR {c d : Nat} {w w' : World} {k : Int} (h : CAt c w k) (r : Rn d w w') (hd : c ≠ d) : CAt c w' k := ⟨r.cell h.1 hd, r.frozen h.1 hd h.2⟩

set_option maxRecDepth 100000 in
set_option maxHeartbeats 2000000 in
theorem cadd_calls (c : Nat) (k : Int) (s : Bool) (a : Option Addr) (len cap : Nat) (xs : List Int) (e : Int) (t : Bool) (b : Option Addr) (len' cap' : Nat) (ys : List Int) (f : Int) (w : World) (h : IsW w a len cap xs) (hm : len ≤ 17592186044000) (h' : IsW w b len' cap' ys) (hm' : len' ≤ 17592186044000) (hT : Tab w) (hC : CAt c w k) :
    Calls Tryd.prog 7 #[.pointer (some ⟨c, 0, none⟩), dyV s a len cap e, dyV t b len' cap' f] w fun r w' => ∃ v', r = .returned v' ∧ DyC c w' v' (opP sumD (s, val xs, e) (t, val ys, f)) ∧ CAt c w' (stk k (opE sumD (s, val xs, e) (t, val ys, f))) ∧ Rn c w w' := by
  have hlt : c < w.heap.size := World.block_lt_of_cell? _ _ hC.1
  have b0 : Below w.heap.size w (((w.alloc (.cells #[.bool s, .slice a len cap, .int .i64 e] 25)).alloc (.cells #[.bool t, .slice b len' cap', .int .i64 f] 25)).alloc (.cells #[.bool false, .slice none 0 0, .int .i64 0] 25)) := nbelow_trans (nbelow_trans (below_one _ _) (below_one _ _)) (below_one _ _)
  have HA : Hid _ := pAdd_calls s a len cap xs e t b len' cap' ys f _ (h.keep b0) hm (h'.keep b0) hm' (hT.kept b0)
  have HE : Hid (opE sumD (s, val xs, e) (t, val ys, f) = _) := rfl
  have HP : Hid (opP sumD (s, val xs, e) (t, val ys, f) = _) := rfl
  change Hid (Calls _ _ _ _ fun r w' => ∃ v', r = .returned (.tuple #[v', .int .i64 (opE sumD (s, val xs, e) (t, val ys, f))]) ∧ DyAt _ w' v' (opP sumD (s, val xs, e) (t, val ys, f)) ∧ Below _ _ w') at HA
  clear HE HP
  generalize opE sumD (s, val xs, e) (t, val ys, f) = E at *
  generalize opP sumD (s, val xs, e) (t, val ys, f) = p at *
  have C1 := hC.keep b0
  have Z0 : (((w.alloc (.cells #[.bool s, .slice a len cap, .int .i64 e] 25)).alloc (.cells #[.bool t, .slice b len' cap', .int .i64 f] 25)).alloc (.cells #[.bool false, .slice none 0 0, .int .i64 0] 25)).cell? ⟨w.heap.size + 2, 0, none⟩ = some (.bool false) := by go_simp
  have Z1 : (((w.alloc (.cells #[.bool s, .slice a len cap, .int .i64 e] 25)).alloc (.cells #[.bool t, .slice b len' cap', .int .i64 f] 25)).alloc (.cells #[.bool false, .slice none 0 0, .int .i64 0] 25)).cell? ⟨w.heap.size + 2, 1, none⟩ = some (.slice none 0 0) := by go_simp
  have Z2 : (((w.alloc (.cells #[.bool s, .slice a len cap, .int .i64 e] 25)).alloc (.cells #[.bool t, .slice b len' cap', .int .i64 f] 25)).alloc (.cells #[.bool false, .slice none 0 0, .int .i64 0] 25)).cell? ⟨w.heap.size + 2, 2, none⟩ = some (.int .i64 0) := by go_simp
  have F0 : (((w.alloc (.cells #[.bool s, .slice a len cap, .int .i64 e] 25)).alloc (.cells #[.bool t, .slice b len' cap', .int .i64 f] 25)).alloc (.cells #[.bool false, .slice none 0 0, .int .i64 0] 25)).frozen? ⟨w.heap.size + 2, 0, none⟩ = false := by go_simp
  have F1 : (((w.alloc (.cells #[.bool s, .slice a len cap, .int .i64 e] 25)).alloc (.cells #[.bool t, .slice b len' cap', .int .i64 f] 25)).alloc (.cells #[.bool false, .slice none 0 0, .int .i64 0] 25)).frozen? ⟨w.heap.size + 2, 1, none⟩ = false := by go_simp
  have F2 : (((w.alloc (.cells #[.bool s, .slice a len cap, .int .i64 e] 25)).alloc (.cells #[.bool t, .slice b len' cap', .int .i64 f] 25)).alloc (.cells #[.bool false, .slice none 0 0, .int .i64 0] 25)).frozen? ⟨w.heap.size + 2, 2, none⟩ = false := by go_simp
  have hz : (((w.alloc (.cells #[.bool s, .slice a len cap, .int .i64 e] 25)).alloc (.cells #[.bool t, .slice b len' cap', .int .i64 f] 25)).alloc (.cells #[.bool false, .slice none 0 0, .int .i64 0] 25)).heap.size = w.heap.size + 3 := by simp
  have hne : c ≠ w.heap.size + 2 := by omega
  clear h h' hm hm' hT hC
  go_enter Tryd.func7, Tryd.ntmps7
  go_wp2_with fail
  generalize (((w.alloc (.cells #[.bool s, .slice a len cap, .int .i64 e] 25)).alloc (.cells #[.bool t, .slice b len' cap', .int .i64 f] 25)).alloc (.cells #[.bool false, .slice none 0 0, .int .i64 0] 25)) = w1 at *
  refine Calls.mono HA.out ?_
  clear HA
  rintro r w2 ⟨_, rfl, ⟨ao, n, cc, rfl, HN, hn, hO⟩, b2⟩
  have hO' := hO.noC (c := c) (by omega)
  have hO'' := hO.noC (c := w.heap.size + 2) (by omega)
  have HI : Hid (IsW w2 ao n cc (wordsOf p.2.1)) := hO.1
  clear hO HN
  have bA := below_one w2 (.cells #[.bool p.1, .slice ao n cc, .int .i64 p.2.2] 25)
  have b12 := nbelow_trans b2 bA
  have C2 := C1.keep b12
  have Y0 := dcarry_cell b12 Z0
  have Y1 := dcarry_cell b12 Z1
  have Y2 := dcarry_cell b12 Z2
  have G0 := dcarry_frozen b12 Z0 F0
  have G1 := dcarry_frozen b12 Z1 F1
  have G2 := dcarry_frozen b12 Z2 F2
  have r0 : Rn c w (w2.alloc (.cells #[.bool p.1, .slice ao n cc, .int .i64 p.2.2] 25)) := (Rn.of_below b0).trans (Rn.of_below b12)
  replace HI : Hid (IsW (w2.alloc (.cells #[.bool p.1, .slice ao n cc, .int .i64 p.2.2] 25)) ao n cc (wordsOf p.2.1)) := HI.out.keep bA
  have K0 : (w2.alloc (.cells #[.bool p.1, .slice ao n cc, .int .i64 p.2.2] 25)).cell? ⟨w2.heap.size, 0, none⟩ = some (.bool p.1) := by go_simp
  have K1 : (w2.alloc (.cells #[.bool p.1, .slice ao n cc, .int .i64 p.2.2] 25)).cell? ⟨w2.heap.size, 1, none⟩ = some (.slice ao n cc) := by go_simp
  have K2 : (w2.alloc (.cells #[.bool p.1, .slice ao n cc, .int .i64 p.2.2] 25)).cell? ⟨w2.heap.size, 2, none⟩ = some (.int .i64 p.2.2) := by go_simp
  clear Z0 Z1 Z2 F0 F1 F2 b0 b2 bA b12 C1
  go_wp2_with fail
  generalize (w2.alloc (.cells #[.bool p.1, .slice ao n cc, .int .i64 p.2.2] 25)) = w3 at *
  refine Calls.mono (cput_calls c k p.1 ao n cc p.2.2 E w3 C2) ?_
  rintro r w4 ⟨rfl, C4, r4⟩
  have X0 := r4.cell Y0 (fun q => hne q.symm)
  have X1 := r4.cell Y1 (fun q => hne q.symm)
  have X2 := r4.cell Y2 (fun q => hne q.symm)
  have H0 := r4.frozen Y0 (fun q => hne q.symm) G0
  have H1 := r4.frozen Y1 (fun q => hne q.symm) G1
  have H2 := r4.frozen Y2 (fun q => hne q.symm) G2
  have HI4 : Hid (IsW w4 ao n cc (wordsOf p.2.1)) := HI.out.keepR hO' r4
  have r5 := r0.trans r4
  clear r0 r4 HI Y0 Y1 Y2 G0 G1 G2 K0 K1 K2 C2
  go_wp2_with fail
  refine bodyPost_ret (v := dyV p.1 ao n cc p.2.2) (by simp [results, Tryd.results7, go_sem, X0, X1, X2]) rfl ⟨_, rfl, ⟨ao, n, cc, rfl, hn, ?_, hO'⟩, ?_, ?_⟩
  · exact HI4.out.keepR hO'' (by repeat (first | exact Rn.refl _ _ | refine Rn.set ?_ (Or.inr rfl) _))
  · exact C4.keepR (d := w.heap.size + 2) (by repeat (first | exact Rn.refl _ _ | refine Rn.set ?_ (Or.inr rfl) _)) hne
  · repeat (first | exact r5 | refine Rn.set ?_ (Or.inl (by simp; omega)) _)

set_option maxRecDepth 100000 in
set_option maxHeartbeats 2000000 in
theorem csub_calls (c : Nat) (k : Int) (s : Bool) (a : Option Addr) (len cap : Nat) (xs : List Int) (e : Int) (t : Bool) (b : Option Addr) (len' cap' : Nat) (ys : List Int) (f : Int) (w : World) (h : IsW w a len cap xs) (hm : len ≤ 17592186044000) (h' : IsW w b len' cap' ys) (hm' : len' ≤ 17592186044000) (hT : Tab w) (hC : CAt c w k) :
    Calls Tryd.prog 11 #[.pointer (some ⟨c, 0, none⟩), dyV s a len cap e, dyV t b len' cap' f] w fun r w' => ∃ v', r = .returned v' ∧ DyC c w' v' (opP subD (s, val xs, e) (t, val ys, f)) ∧ CAt c w' (stk k (opE subD (s, val xs, e) (t, val ys, f))) ∧ Rn c w w' := by
  have hlt : c < w.heap.size := World.block_lt_of_cell? _ _ hC.1
  have b0 : Below w.heap.size w (((w.alloc (.cells #[.bool s, .slice a len cap, .int .i64 e] 25)).alloc (.cells #[.bool t, .slice b len' cap', .int .i64 f] 25)).alloc (.cells #[.bool false, .slice none 0 0, .int .i64 0] 25)) := nbelow_trans (nbelow_trans (below_one _ _) (below_one _ _)) (below_one _ _)
  have HA : Hid _ := pSub_calls s a len cap xs e t b len' cap' ys f _ (h.keep b0) hm (h'.keep b0) hm' (hT.kept b0)
  have HE : Hid (opE subD (s, val xs, e) (t, val ys, f) = _) := rfl
  have HP : Hid (opP subD (s, val xs, e) (t, val ys, f) = _) := rfl
  change Hid (Calls _ _ _ _ fun r w' => ∃ v', r = .returned (.tuple #[v', .int .i64 (opE subD (s, val xs, e) (t, val ys, f))]) ∧ DyAt _ w' v' (opP subD (s, val xs, e) (t, val ys, f)) ∧ Below _ _ w') at HA
  clear HE HP
  generalize opE subD (s, val xs, e) (t, val ys, f) = E at *
  generalize opP subD (s, val xs, e) (t, val ys, f) = p at *
  have C1 := hC.keep b0
  have Z0 : (((w.alloc (.cells #[.bool s, .slice a len cap, .int .i64 e] 25)).alloc (.cells #[.bool t, .slice b len' cap', .int .i64 f] 25)).alloc (.cells #[.bool false, .slice none 0 0, .int .i64 0] 25)).cell? ⟨w.heap.size + 2, 0, none⟩ = some (.bool false) := by go_simp
  have Z1 : (((w.alloc (.cells #[.bool s, .slice a len cap, .int .i64 e] 25)).alloc (.cells #[.bool t, .slice b len' cap', .int .i64 f] 25)).alloc (.cells #[.bool false, .slice none 0 0, .int .i64 0] 25)).cell? ⟨w.heap.size + 2, 1, none⟩ = some (.slice none 0 0) := by go_simp
  have Z2 : (((w.alloc (.cells #[.bool s, .slice a len cap, .int .i64 e] 25)).alloc (.cells #[.bool t, .slice b len' cap', .int .i64 f] 25)).alloc (.cells #[.bool false, .slice none 0 0, .int .i64 0] 25)).cell? ⟨w.heap.size + 2, 2, none⟩ = some (.int .i64 0) := by go_simp
  have F0 : (((w.alloc (.cells #[.bool s, .slice a len cap, .int .i64 e] 25)).alloc (.cells #[.bool t, .slice b len' cap', .int .i64 f] 25)).alloc (.cells #[.bool false, .slice none 0 0, .int .i64 0] 25)).frozen? ⟨w.heap.size + 2, 0, none⟩ = false := by go_simp
  have F1 : (((w.alloc (.cells #[.bool s, .slice a len cap, .int .i64 e] 25)).alloc (.cells #[.bool t, .slice b len' cap', .int .i64 f] 25)).alloc (.cells #[.bool false, .slice none 0 0, .int .i64 0] 25)).frozen? ⟨w.heap.size + 2, 1, none⟩ = false := by go_simp
  have F2 : (((w.alloc (.cells #[.bool s, .slice a len cap, .int .i64 e] 25)).alloc (.cells #[.bool t, .slice b len' cap', .int .i64 f] 25)).alloc (.cells #[.bool false, .slice none 0 0, .int .i64 0] 25)).frozen? ⟨w.heap.size + 2, 2, none⟩ = false := by go_simp
  have hz : (((w.alloc (.cells #[.bool s, .slice a len cap, .int .i64 e] 25)).alloc (.cells #[.bool t, .slice b len' cap', .int .i64 f] 25)).alloc (.cells #[.bool false, .slice none 0 0, .int .i64 0] 25)).heap.size = w.heap.size + 3 := by simp
  have hne : c ≠ w.heap.size + 2 := by omega
  clear h h' hm hm' hT hC
  go_enter Tryd.func11, Tryd.ntmps11
  go_wp2_with fail
  generalize (((w.alloc (.cells #[.bool s, .slice a len cap, .int .i64 e] 25)).alloc (.cells #[.bool t, .slice b len' cap', .int .i64 f] 25)).alloc (.cells #[.bool false, .slice none 0 0, .int .i64 0] 25)) = w1 at *
  refine Calls.mono HA.out ?_
  clear HA
  rintro r w2 ⟨_, rfl, ⟨ao, n, cc, rfl, HN, hn, hO⟩, b2⟩
  have hO' := hO.noC (c := c) (by omega)
  have hO'' := hO.noC (c := w.heap.size + 2) (by omega)
  have HI : Hid (IsW w2 ao n cc (wordsOf p.2.1)) := hO.1
  clear hO HN
  have bA := below_one w2 (.cells #[.bool p.1, .slice ao n cc, .int .i64 p.2.2] 25)
  have b12 := nbelow_trans b2 bA
  have C2 := C1.keep b12
  have Y0 := dcarry_cell b12 Z0
  have Y1 := dcarry_cell b12 Z1
  have Y2 := dcarry_cell b12 Z2
  have G0 := dcarry_frozen b12 Z0 F0
  have G1 := dcarry_frozen b12 Z1 F1
  have G2 := dcarry_frozen b12 Z2 F2
  have r0 : Rn c w (w2.alloc (.cells #[.bool p.1, .slice ao n cc, .int .i64 p.2.2] 25)) := (Rn.of_below b0).trans (Rn.of_below b12)
  replace HI : Hid (IsW (w2.alloc (.cells #[.bool p.1, .slice ao n cc, .int .i64 p.2.2] 25)) ao n cc (wordsOf p.2.1)) := HI.out.keep bA
  have K0 : (w2.alloc (.cells #[.bool p.1, .slice ao n cc, .int .i64 p.2.2] 25)).cell? ⟨w2.heap.size, 0, none⟩ = some (.bool p.1) := by go_simp
  have K1 : (w2.alloc (.cells #[.bool p.1, .slice ao n cc, .int .i64 p.2.2] 25)).cell? ⟨w2.heap.size, 1, none⟩ = some (.slice ao n cc) := by go_simp
  have K2 : (w2.alloc (.cells #[.bool p.1, .slice ao n cc, .int .i64 p.2.2] 25)).cell? ⟨w2.heap.size, 2, none⟩ = some (.int .i64 p.2.2) := by go_simp
  clear Z0 Z1 Z2 F0 F1 F2 b0 b2 bA b12 C1
  go_wp2_with fail
  generalize (w2.alloc (.cells #[.bool p.1, .slice ao n cc, .int .i64 p.2.2] 25)) = w3 at *
  refine Calls.mono (cput_calls c k p.1 ao n cc p.2.2 E w3 C2) ?_
  rintro r w4 ⟨rfl, C4, r4⟩
  have X0 := r4.cell Y0 (fun q => hne q.symm)
  have X1 := r4.cell Y1 (fun q => hne q.symm)
  have X2 := r4.cell Y2 (fun q => hne q.symm)
  have H0 := r4.frozen Y0 (fun q => hne q.symm) G0
  have H1 := r4.frozen Y1 (fun q => hne q.symm) G1
  have H2 := r4.frozen Y2 (fun q => hne q.symm) G2
  have HI4 : Hid (IsW w4 ao n cc (wordsOf p.2.1)) := HI.out.keepR hO' r4
  have r5 := r0.trans r4
  clear r0 r4 HI Y0 Y1 Y2 G0 G1 G2 K0 K1 K2 C2
  go_wp2_with fail
  refine bodyPost_ret (v := dyV p.1 ao n cc p.2.2) (by simp [results, Tryd.results11, go_sem, X0, X1, X2]) rfl ⟨_, rfl, ⟨ao, n, cc, rfl, hn, ?_, hO'⟩, ?_, ?_⟩
  · exact HI4.out.keepR hO'' (by repeat (first | exact Rn.refl _ _ | refine Rn.set ?_ (Or.inr rfl) _))
  · exact C4.keepR (d := w.heap.size + 2) (by repeat (first | exact Rn.refl _ _ | refine Rn.set ?_ (Or.inr rfl) _)) hne
  · repeat (first | exact r5 | refine Rn.set ?_ (Or.inl (by simp; omega)) _)

set_option maxRecDepth 100000 in
set_option maxHeartbeats 2000000 in
theorem cmul_calls (c : Nat) (k : Int) (s : Bool) (a : Option Addr) (len cap : Nat) (xs : List Int) (e : Int) (t : Bool) (b : Option Addr) (len' cap' : Nat) (ys : List Int) (f : Int) (w : World) (h : IsW w a len cap xs) (hm : len ≤ 17592186044000) (h' : IsW w b len' cap' ys) (hm' : len' ≤ 17592186044000) (hT : Tab w) (hC : CAt c w k) :
    Calls Tryd.prog 8 #[.pointer (some ⟨c, 0, none⟩), dyV s a len cap e, dyV t b len' cap' f] w fun r w' => ∃ v', r = .returned v' ∧ DyC c w' v' (opP mulD (s, val xs, e) (t, val ys, f)) ∧ CAt c w' (stk k (opE mulD (s, val xs, e) (t, val ys, f))) ∧ Rn c w w' := by
  have hlt : c < w.heap.size := World.block_lt_of_cell? _ _ hC.1
  have b0 : Below w.heap.size w (((w.alloc (.cells #[.bool s, .slice a len cap, .int .i64 e] 25)).alloc (.cells #[.bool t, .slice b len' cap', .int .i64 f] 25)).alloc (.cells #[.bool false, .slice none 0 0, .int .i64 0] 25)) := nbelow_trans (nbelow_trans (below_one _ _) (below_one _ _)) (below_one _ _)
  have HA : Hid _ := pMul_calls s a len cap xs e t b len' cap' ys f _ (h.keep b0) hm (h'.keep b0) hm' (hT.kept b0)
  have HE : Hid (opE mulD (s, val xs, e) (t, val ys, f) = _) := rfl
  have HP : Hid (opP mulD (s, val xs, e) (t, val ys, f) = _) := rfl
  change Hid (Calls _ _ _ _ fun r w' => ∃ v', r = .returned (.tuple #[v', .int .i64 (opE mulD (s, val xs, e) (t, val ys, f))]) ∧ DyAt _ w' v' (opP mulD (s, val xs, e) (t, val ys, f)) ∧ Below _ _ w') at HA
  clear HE HP
  generalize opE mulD (s, val xs, e) (t, val ys, f) = E at *
  generalize opP mulD (s, val xs, e) (t, val ys, f) = p at *
  have C1 := hC.keep b0
  have Z0 : (((w.alloc (.cells #[.bool s, .slice a len cap, .int .i64 e] 25)).alloc (.cells #[.bool t, .slice b len' cap', .int .i64 f] 25)).alloc (.cells #[.bool false, .slice none 0 0, .int .i64 0] 25)).cell? ⟨w.heap.size + 2, 0, none⟩ = some (.bool false) := by go_simp
  have Z1 : (((w.alloc (.cells #[.bool s, .slice a len cap, .int .i64 e] 25)).alloc (.cells #[.bool t, .slice b len' cap', .int .i64 f] 25)).alloc (.cells #[.bool false, .slice none 0 0, .int .i64 0] 25)).cell? ⟨w.heap.size + 2, 1, none⟩ = some (.slice none 0 0) := by go_simp
  have Z2 : (((w.alloc (.cells #[.bool s, .slice a len cap, .int .i64 e] 25)).alloc (.cells #[.bool t, .slice b len' cap', .int .i64 f] 25)).alloc (.cells #[.bool false, .slice none 0 0, .int .i64 0] 25)).cell? ⟨w.heap.size + 2, 2, none⟩ = some (.int .i64 0) := by go_simp
  have F0 : (((w.alloc (.cells #[.bool s, .slice a len cap, .int .i64 e] 25)).alloc (.cells #[.bool t, .slice b len' cap', .int .i64 f] 25)).alloc (.cells #[.bool false, .slice none 0 0, .int .i64 0] 25)).frozen? ⟨w.heap.size + 2, 0, none⟩ = false := by go_simp
  have F1 : (((w.alloc (.cells #[.bool s, .slice a len cap, .int .i64 e] 25)).alloc (.cells #[.bool t, .slice b len' cap', .int .i64 f] 25)).alloc (.cells #[.bool false, .slice none 0 0, .int .i64 0] 25)).frozen? ⟨w.heap.size + 2, 1, none⟩ = false := by go_simp
  have F2 : (((w.alloc (.cells #[.bool s, .slice a len cap, .int .i64 e] 25)).alloc (.cells #[.bool t, .slice b len' cap', .int .i64 f] 25)).alloc (.cells #[.bool false, .slice none 0 0, .int .i64 0] 25)).frozen? ⟨w.heap.size + 2, 2, none⟩ = false := by go_simp
  have hz : (((w.alloc (.cells #[.bool s, .slice a len cap, .int .i64 e] 25)).alloc (.cells #[.bool t, .slice b len' cap', .int .i64 f] 25)).alloc (.cells #[.bool false, .slice none 0 0, .int .i64 0] 25)).heap.size = w.heap.size + 3 := by simp
  have hne : c ≠ w.heap.size + 2 := by omega
  clear h h' hm hm' hT hC
  go_enter Tryd.func8, Tryd.ntmps8
  go_wp2_with fail
  generalize (((w.alloc (.cells #[.bool s, .slice a len cap, .int .i64 e] 25)).alloc (.cells #[.bool t, .slice b len' cap', .int .i64 f] 25)).alloc (.cells #[.bool false, .slice none 0 0, .int .i64 0] 25)) = w1 at *
  refine Calls.mono HA.out ?_
  clear HA
  rintro r w2 ⟨_, rfl, ⟨ao, n, cc, rfl, HN, hn, hO⟩, b2⟩
  have hO' := hO.noC (c := c) (by omega)
  have hO'' := hO.noC (c := w.heap.size + 2) (by omega)
  have HI : Hid (IsW w2 ao n cc (wordsOf p.2.1)) := hO.1
  clear hO HN
  have bA := below_one w2 (.cells #[.bool p.1, .slice ao n cc, .int .i64 p.2.2] 25)
  have b12 := nbelow_trans b2 bA
  have C2 := C1.keep b12
  have Y0 := dcarry_cell b12 Z0
  have Y1 := dcarry_cell b12 Z1
  have Y2 := dcarry_cell b12 Z2
  have G0 := dcarry_frozen b12 Z0 F0
  have G1 := dcarry_frozen b12 Z1 F1
  have G2 := dcarry_frozen b12 Z2 F2
  have r0 : Rn c w (w2.alloc (.cells #[.bool p.1, .slice ao n cc, .int .i64 p.2.2] 25)) := (Rn.of_below b0).trans (Rn.of_below b12)
  replace HI : Hid (IsW (w2.alloc (.cells #[.bool p.1, .slice ao n cc, .int .i64 p.2.2] 25)) ao n cc (wordsOf p.2.1)) := HI.out.keep bA
  have K0 : (w2.alloc (.cells #[.bool p.1, .slice ao n cc, .int .i64 p.2.2] 25)).cell? ⟨w2.heap.size, 0, none⟩ = some (.bool p.1) := by go_simp
  have K1 : (w2.alloc (.cells #[.bool p.1, .slice ao n cc, .int .i64 p.2.2] 25)).cell? ⟨w2.heap.size, 1, none⟩ = some (.slice ao n cc) := by go_simp
  have K2 : (w2.alloc (.cells #[.bool p.1, .slice ao n cc, .int .i64 p.2.2] 25)).cell? ⟨w2.heap.size, 2, none⟩ = some (.int .i64 p.2.2) := by go_simp
  clear Z0 Z1 Z2 F0 F1 F2 b0 b2 bA b12 C1
  go_wp2_with fail
  generalize (w2.alloc (.cells #[.bool p.1, .slice ao n cc, .int .i64 p.2.2] 25)) = w3 at *
  refine Calls.mono (cput_calls c k p.1 ao n cc p.2.2 E w3 C2) ?_
  rintro r w4 ⟨rfl, C4, r4⟩
  have X0 := r4.cell Y0 (fun q => hne q.symm)
  have X1 := r4.cell Y1 (fun q => hne q.symm)
  have X2 := r4.cell Y2 (fun q => hne q.symm)
  have H0 := r4.frozen Y0 (fun q => hne q.symm) G0
  have H1 := r4.frozen Y1 (fun q => hne q.symm) G1
  have H2 := r4.frozen Y2 (fun q => hne q.symm) G2
  have HI4 : Hid (IsW w4 ao n cc (wordsOf p.2.1)) := HI.out.keepR hO' r4
  have r5 := r0.trans r4
  clear r0 r4 HI Y0 Y1 Y2 G0 G1 G2 K0 K1 K2 C2
  go_wp2_with fail
  refine bodyPost_ret (v := dyV p.1 ao n cc p.2.2) (by simp [results, Tryd.results8, go_sem, X0, X1, X2]) rfl ⟨_, rfl, ⟨ao, n, cc, rfl, hn, ?_, hO'⟩, ?_, ?_⟩
  · exact HI4.out.keepR hO'' (by repeat (first | exact Rn.refl _ _ | refine Rn.set ?_ (Or.inr rfl) _))
  · exact C4.keepR (d := w.heap.size + 2) (by repeat (first | exact Rn.refl _ _ | refine Rn.set ?_ (Or.inr rfl) _)) hne
  · repeat (first | exact r5 | refine Rn.set ?_ (Or.inl (by simp; omega)) _)

theorem DyC.keepR {c : Nat} {w w' : World} {v : Value} {p : Tri} (h : DyC c w v p) (r : Rn c w w') : DyC c w' v p := by
  obtain ⟨ao, n, cc, h1, h2, h3, h4⟩ := h
  exact ⟨ao, n, cc, h1, h2, h3.keepR h4 r, h4⟩
/-- A number that came in, or one that the calc handed out. -/
def NmC (c : Nat) (w : World) (v : Value) (x : Tri) : Prop := ∃ (ao : Option Addr) (n cc : Nat) (xs : List Int), v = dyV x.1 ao n cc x.2.2 ∧ n ≤ 17592186044000 ∧ IsW w ao n cc xs ∧ val xs = x.2.1 ∧ NoC c ao n
theorem NmC.keepR {c : Nat} {w w' : World} {v : Value} {p : Tri} (h : NmC c w v p) (r : Rn c w w') : NmC c w' v p := by
  obtain ⟨ao, n, cc, xs, h1, h2, h3, h5, h4⟩ := h
  exact ⟨ao, n, cc, xs, h1, h2, h3.keepR h4 r, h5, h4⟩
theorem DyC.nm {c : Nat} {w : World} {v : Value} {p : Tri} (h : DyC c w v p) : NmC c w v p := by
  obtain ⟨ao, n, cc, h1, h2, h3, h4⟩ := h
  exact ⟨ao, n, cc, _, h1, by omega, h3, val_words _, h4⟩
theorem csame_calls (c : Nat) {p q : Tri} {v u : Value} {w : World} (h : DyC c w v p) (h' : DyC c w u q) :
    Calls Tryd.prog 6 #[v, u] w fun r w' => r = .returned (.bool (smB p q)) ∧ Below w.heap.size w w' := by
  obtain ⟨ao, n, cc, rfl, h2, h3, h4⟩ := h
  obtain ⟨ao', n', cc', rfl, h2', h3', h4'⟩ := h'
  refine Calls.mono (qSame_calls p.1 ao n cc _ p.2.2 q.1 ao' n' cc' _ q.2.2 w h3 (by omega) h3' (by omega)) ?_
  rintro r w' ⟨rfl, hb⟩
  exact ⟨rfl, hb⟩
theorem cadd_nm (c : Nat) (k : Int) {x y : Tri} {v u : Value} {w : World} (h : NmC c w v x) (h' : NmC c w u y) (hT : Tab w) (hC : CAt c w k) :
    Calls Tryd.prog 7 #[.pointer (some ⟨c, 0, none⟩), v, u] w fun r w' => ∃ v', r = .returned v' ∧ DyC c w' v' (opP sumD x y) ∧ CAt c w' (stk k (opE sumD x y)) ∧ Rn c w w' := by
  obtain ⟨ao, n, cc, xs, rfl, h2, h3, h5, h4⟩ := h
  obtain ⟨ao', n', cc', ys, rfl, h2', h3', h5', h4'⟩ := h'
  have := cadd_calls c k x.1 ao n cc xs x.2.2 y.1 ao' n' cc' ys y.2.2 w h3 h2 h3' h2' hT hC
  rw [h5, h5'] at this
  exact this
theorem csub_nm (c : Nat) (k : Int) {x y : Tri} {v u : Value} {w : World} (h : NmC c w v x) (h' : NmC c w u y) (hT : Tab w) (hC : CAt c w k) :
    Calls Tryd.prog 11 #[.pointer (some ⟨c, 0, none⟩), v, u] w fun r w' => ∃ v', r = .returned v' ∧ DyC c w' v' (opP subD x y) ∧ CAt c w' (stk k (opE subD x y)) ∧ Rn c w w' := by
  obtain ⟨ao, n, cc, xs, rfl, h2, h3, h5, h4⟩ := h
  obtain ⟨ao', n', cc', ys, rfl, h2', h3', h5', h4'⟩ := h'
  have := csub_calls c k x.1 ao n cc xs x.2.2 y.1 ao' n' cc' ys y.2.2 w h3 h2 h3' h2' hT hC
  rw [h5, h5'] at this
  exact this
theorem cmul_nm (c : Nat) (k : Int) {x y : Tri} {v u : Value} {w : World} (h : NmC c w v x) (h' : NmC c w u y) (hT : Tab w) (hC : CAt c w k) :
    Calls Tryd.prog 8 #[.pointer (some ⟨c, 0, none⟩), v, u] w fun r w' => ∃ v', r = .returned v' ∧ DyC c w' v' (opP mulD x y) ∧ CAt c w' (stk k (opE mulD x y)) ∧ Rn c w w' := by
  obtain ⟨ao, n, cc, xs, rfl, h2, h3, h5, h4⟩ := h
  obtain ⟨ao', n', cc', ys, rfl, h2', h3', h5', h4'⟩ := h'
  have := cmul_calls c k x.1 ao n cc xs x.2.2 y.1 ao' n' cc' ys y.2.2 w h3 h2 h3' h2' hT hC
  rw [h5, h5'] at this
  exact this

end

section
open Go.RowKit
attribute [local go_sem ↓] Go.wp_at_zero Go.wp_at_succ

set_option maxRecDepth 100000 in
set_option maxHeartbeats 8000000 in
theorem dyadRing_walk (s : Bool) (a : Option Addr) (len cap : Nat) (xs : List Int) (e : Int) (t : Bool) (b : Option Addr) (len' cap' : Nat) (ys : List Int) (f : Int) (u : Bool) (d : Option Addr) (len'' cap'' : Nat) (zs : List Int) (g : Int) (w : World) (h : IsW w a len cap xs) (hm : len ≤ 17592186044000) (_he : -9223372036854775808 ≤ e ∧ e ≤ 9223372036854775807) (h' : IsW w b len' cap' ys) (hm' : len' ≤ 17592186044000) (_hf : -9223372036854775808 ≤ f ∧ f ≤ 9223372036854775807) (h'' : IsW w d len'' cap'' zs) (hm'' : len'' ≤ 17592186044000) (_hg : -9223372036854775808 ≤ g ∧ g ≤ 9223372036854775807) (hT : Tab w) :
    Calls Tryd.prog 3 #[dyV s a len cap e, dyV t b len' cap' f, dyV u d len'' cap'' g] w fun r w' => r = .returned (.bool true) ∧ Below w.heap.size w w' := by
  have bw : Below w.heap.size w (((w.alloc (.cells #[.bool s, .slice a len cap, .int .i64 e] 25)).alloc (.cells #[.bool t, .slice b len' cap', .int .i64 f] 25)).alloc (.cells #[.bool u, .slice d len'' cap'', .int .i64 g] 25)) := nbelow_trans (nbelow_trans (below_one _ _) (below_one _ _)) (below_one _ _)
  have k0 : (((w.alloc (.cells #[.bool s, .slice a len cap, .int .i64 e] 25)).alloc (.cells #[.bool t, .slice b len' cap', .int .i64 f] 25)).alloc (.cells #[.bool u, .slice d len'' cap'', .int .i64 g] 25)).cell? ⟨w.heap.size, 0, none⟩ = some (.bool s) := by go_simp
  have k1 : (((w.alloc (.cells #[.bool s, .slice a len cap, .int .i64 e] 25)).alloc (.cells #[.bool t, .slice b len' cap', .int .i64 f] 25)).alloc (.cells #[.bool u, .slice d len'' cap'', .int .i64 g] 25)).cell? ⟨w.heap.size, 1, none⟩ = some (.slice a len cap) := by go_simp
  have k2 : (((w.alloc (.cells #[.bool s, .slice a len cap, .int .i64 e] 25)).alloc (.cells #[.bool t, .slice b len' cap', .int .i64 f] 25)).alloc (.cells #[.bool u, .slice d len'' cap'', .int .i64 g] 25)).cell? ⟨w.heap.size, 2, none⟩ = some (.int .i64 e) := by go_simp
  have k3 : (((w.alloc (.cells #[.bool s, .slice a len cap, .int .i64 e] 25)).alloc (.cells #[.bool t, .slice b len' cap', .int .i64 f] 25)).alloc (.cells #[.bool u, .slice d len'' cap'', .int .i64 g] 25)).cell? ⟨w.heap.size + 1, 0, none⟩ = some (.bool t) := by go_simp
  have k4 : (((w.alloc (.cells #[.bool s, .slice a len cap, .int .i64 e] 25)).alloc (.cells #[.bool t, .slice b len' cap', .int .i64 f] 25)).alloc (.cells #[.bool u, .slice d len'' cap'', .int .i64 g] 25)).cell? ⟨w.heap.size + 1, 1, none⟩ = some (.slice b len' cap') := by go_simp
  have k5 : (((w.alloc (.cells #[.bool s, .slice a len cap, .int .i64 e] 25)).alloc (.cells #[.bool t, .slice b len' cap', .int .i64 f] 25)).alloc (.cells #[.bool u, .slice d len'' cap'', .int .i64 g] 25)).cell? ⟨w.heap.size + 1, 2, none⟩ = some (.int .i64 f) := by go_simp
  have k6 : (((w.alloc (.cells #[.bool s, .slice a len cap, .int .i64 e] 25)).alloc (.cells #[.bool t, .slice b len' cap', .int .i64 f] 25)).alloc (.cells #[.bool u, .slice d len'' cap'', .int .i64 g] 25)).cell? ⟨w.heap.size + 1 + 1, 0, none⟩ = some (.bool u) := by go_simp
  have k7 : (((w.alloc (.cells #[.bool s, .slice a len cap, .int .i64 e] 25)).alloc (.cells #[.bool t, .slice b len' cap', .int .i64 f] 25)).alloc (.cells #[.bool u, .slice d len'' cap'', .int .i64 g] 25)).cell? ⟨w.heap.size + 1 + 1, 1, none⟩ = some (.slice d len'' cap'') := by go_simp
  have k8 : (((w.alloc (.cells #[.bool s, .slice a len cap, .int .i64 e] 25)).alloc (.cells #[.bool t, .slice b len' cap', .int .i64 f] 25)).alloc (.cells #[.bool u, .slice d len'' cap'', .int .i64 g] 25)).cell? ⟨w.heap.size + 1 + 1, 2, none⟩ = some (.int .i64 g) := by go_simp
  have hs3 : (((w.alloc (.cells #[.bool s, .slice a len cap, .int .i64 e] 25)).alloc (.cells #[.bool t, .slice b len' cap', .int .i64 f] 25)).alloc (.cells #[.bool u, .slice d len'' cap'', .int .i64 g] 25)).heap.size = w.heap.size + 1 + 1 + 1 := by simp
  have HT : Hid (∀ w', Below w.heap.size w w' → Tab w') := fun w' hb => hT.kept hb
  have HA : Hid (∀ c w', w.heap.size ≤ c → Below w.heap.size w w' → NmC c w' (dyV s a len cap e) (s, val xs, e)) := fun c w' hc hb => ⟨a, len, cap, xs, rfl, hm, h.keep hb, rfl, h.noC hc⟩
  have HB : Hid (∀ c w', w.heap.size ≤ c → Below w.heap.size w w' → NmC c w' (dyV t b len' cap' f) (t, val ys, f)) := fun c w' hc hb => ⟨b, len', cap', ys, rfl, hm', h'.keep hb, rfl, h'.noC hc⟩
  have HD : Hid (∀ c w', w.heap.size ≤ c → Below w.heap.size w w' → NmC c w' (dyV u d len'' cap'' g) (u, val zs, g)) := fun c w' hc hb => ⟨d, len'', cap'', zs, rfl, hm'', h''.keep hb, rfl, h''.noC hc⟩
  have HCan : Hid _ := fun W q T => pCanon_calls s a len cap xs e W q (by omega) T
  have HCmp : Hid _ := fun W q q' T => pCmp_calls s a len cap xs e t b len' cap' ys f W q hm q' hm' T
  have H1 : Hid (IsW w a len cap xs) := h
  have H2 : Hid (IsW w b len' cap' ys) := h'
  change Hid (∀ W q T, Calls _ _ _ _ fun r w' => ∃ v', r = .returned (.tuple #[v', .int .i64 (cnE (s, val xs, e))]) ∧ DyAt W.heap.size w' v' (cnP (s, val xs, e)) ∧ Below W.heap.size W w') at HCan
  change Hid (∀ W q q' T, Calls _ _ _ _ fun r w' => r = .returned (.tuple #[.int .i64 (cmV (rt (s, val xs, e) && rt (t, val ys, f)) (fm (s, val xs, e)) (fm (t, val ys, f))), .int .i64 (cmE (rt (s, val xs, e) && rt (t, val ys, f)))]) ∧ Below W.heap.size W w') at HCmp
  generalize hx : (s, val xs, e) = x at *
  generalize hy : (t, val ys, f) = y at *
  generalize hz : (u, val zs, g) = z at *
  clear hx hy hz h h' h'' hm hm' hm'' hT _he _hf _hg
  go_enter Tryd.func3, Tryd.ntmps3
  go_wp2_with fail
  generalize (((w.alloc (.cells #[.bool s, .slice a len cap, .int .i64 e] 25)).alloc (.cells #[.bool t, .slice b len' cap', .int .i64 f] 25)).alloc (.cells #[.bool u, .slice d len'' cap'', .int .i64 g] 25)) = w0 at *
  refine Calls.mono (dyBegins_calls _ (HT.out _ bw)) ?_
  rintro r w1 ⟨rfl, bN⟩
  replace k0 := dcarry_cell bN k0
  replace k1 := dcarry_cell bN k1
  replace k2 := dcarry_cell bN k2
  replace k3 := dcarry_cell bN k3
  replace k4 := dcarry_cell bN k4
  replace k5 := dcarry_cell bN k5
  replace k6 := dcarry_cell bN k6
  replace k7 := dcarry_cell bN k7
  replace k8 := dcarry_cell bN k8
  have hs1 := bN.size
  replace bw := nbelow_trans bw bN
  clear bN
  have bA := below_one w1 (.cells #[.int .i64 0] 30)
  replace k0 := dcarry_cell bA k0
  replace k1 := dcarry_cell bA k1
  replace k2 := dcarry_cell bA k2
  replace k3 := dcarry_cell bA k3
  replace k4 := dcarry_cell bA k4
  replace k5 := dcarry_cell bA k5
  replace k6 := dcarry_cell bA k6
  replace k7 := dcarry_cell bA k7
  replace k8 := dcarry_cell bA k8
  replace bw := nbelow_trans bw bA
  clear bA
  have C : CAt w1.heap.size (w1.alloc (.cells #[.int .i64 0] 30)) 0 := ⟨by go_simp, by go_simp⟩
  have n0 : w.heap.size ≠ w1.heap.size := by omega
  have n1 : w.heap.size + 1 ≠ w1.heap.size := by omega
  have n2 : w.heap.size + 1 + 1 ≠ w1.heap.size := by omega
  have hXc : Hid (w.heap.size ≤ w1.heap.size) := by show w.heap.size ≤ w1.heap.size; omega
  clear hs1 hs3
  go_upto_region 4 with fail
  generalize hcc : w1.heap.size = c at *
  generalize (w1.alloc (.cells #[.int .i64 0] 30)) = W4 at *
  clear hcc w0 w1
  go_cut [8] from 20 to 45 (fun vv wx => ∃ (bb : Bool) (kk : Int), vv = .bool bb ∧ CAt c wx kk ∧ Rn c W4 wx ∧ Hid (kk = 0 → (0 : Int) = 0 ∧ bb = true))
  case first =>
    have HG : Hid (stk (stk (stk (stk ((0 : Int)) (opE sumD y z)) (opE sumD x (opP sumD y z))) (opE sumD x y)) (opE sumD (opP sumD x y) z) = 0 → smB (opP sumD x (opP sumD y z)) (opP sumD (opP sumD x y) z) = true) := fun hk => by
      obtain ⟨hk, e4⟩ := stk_zero hk
      obtain ⟨hk, e3⟩ := stk_zero hk
      obtain ⟨hk, e2⟩ := stk_zero hk
      obtain ⟨hk, e1⟩ := stk_zero hk
      exact ring_sum e1 e2 e3 e4
    have HK0 : Hid (stk (stk (stk (stk ((0 : Int)) (opE sumD y z)) (opE sumD x (opP sumD y z))) (opE sumD x y)) (opE sumD (opP sumD x y) z) = 0 → (0 : Int) = 0) := fun hk => (stk_zero (stk_zero (stk_zero (stk_zero hk).1).1).1).1
    have HK2 : Hid (stk (stk (stk (stk (stk (stk ((0 : Int)) (opE sumD y z)) (opE sumD x (opP sumD y z))) (opE sumD x y)) (opE sumD (opP sumD x y) z)) (opE sumD x y)) (opE sumD y x) = 0 → stk (stk (stk (stk ((0 : Int)) (opE sumD y z)) (opE sumD x (opP sumD y z))) (opE sumD x y)) (opE sumD (opP sumD x y) z) = 0 ∧ smB (opP sumD x y) (opP sumD y x) = true) := fun hk => ⟨(stk_zero (stk_zero hk).1).1, ring_sum2 (stk_zero (stk_zero hk).1).2 (stk_zero hk).2⟩
    have R : Rn c W4 (World.drew W4) := (Rn.refl _ _).drew
    have bD : Below W4.heap.size W4 (World.drew W4) := (Below.refl _ _).drew
    have HW : Hid (∀ w', Rn c W4 w' → Below w.heap.size w w') := fun w' r => bw.trans (r.below hXc.out bw.size)
    replace C := C.keep bD
    clear bD
    refine wp_region_held (S := fun w' => Rn c W4 w') (by kernel_rfl) ?_
    change wpAnyH _ _ _ _ _ _ _ _ (World.drew W4)
    generalize World.drew W4 = wd at R C ⊢
    refine wpAnyH_take (i := 0) (oi := { dst := some 20, op := Op.move (Operand.tmp 7), type := 27, pos := "own.go:43", after := #[], guard := none }) (v := (.pointer (some ⟨c, 0, none⟩))) rfl (by kernel_rfl) (by kernel_rfl) (by kernel_rfl) (fun _ _ _ h => h) (Or.inl ⟨by rfl, ?y1⟩) R ?r1
    case y1 => (intro ww hS; clear hS; go_simp; try with_reducible rfl)
    try simp only [Act.put, List.setIfInBounds_toArray, List.set_cons_zero, List.set_cons_succ]
    refine wpAnyH_take (i := 1) (oi := { dst := some 21, op := Op.load 25 (Operand.tmp 3), type := 25, pos := "own.go:43", after := #[], guard := none }) (v := .agg #[.bool s, .slice a len cap, .int .i64 e]) rfl (by kernel_rfl) (by kernel_rfl) (by kernel_rfl) (fun _ _ _ h => h) (Or.inl ⟨by rfl, ?y2⟩) R ?r2
    case y2 => (intro ww hS; have q0 := hS.cell k0 n0; have q1 := hS.cell k1 n0; have q2 := hS.cell k2 n0; clear hS; go_simp; try with_reducible rfl)
    try simp only [Act.put, List.setIfInBounds_toArray, List.set_cons_zero, List.set_cons_succ]
    refine wpAnyH_take (i := 2) (oi := { dst := some 22, op := Op.move (Operand.tmp 7), type := 27, pos := "own.go:43", after := #[], guard := none }) (v := (.pointer (some ⟨c, 0, none⟩))) rfl (by kernel_rfl) (by kernel_rfl) (by kernel_rfl) (fun _ _ _ h => h) (Or.inl ⟨by rfl, ?y3⟩) R ?r3
    case y3 => (intro ww hS; clear hS; go_simp; try with_reducible rfl)
    try simp only [Act.put, List.setIfInBounds_toArray, List.set_cons_zero, List.set_cons_succ]
    refine wpAnyH_take (i := 3) (oi := { dst := some 23, op := Op.load 25 (Operand.tmp 4), type := 25, pos := "own.go:43", after := #[], guard := none }) (v := .agg #[.bool t, .slice b len' cap', .int .i64 f]) rfl (by kernel_rfl) (by kernel_rfl) (by kernel_rfl) (fun _ _ _ h => h) (Or.inl ⟨by rfl, ?y4⟩) R ?r4
    case y4 => (intro ww hS; have q3 := hS.cell k3 n1; have q4 := hS.cell k4 n1; have q5 := hS.cell k5 n1; clear hS; go_simp; try with_reducible rfl)
    try simp only [Act.put, List.setIfInBounds_toArray, List.set_cons_zero, List.set_cons_succ]
    refine wpAnyH_take (i := 4) (oi := { dst := some 24, op := Op.load 25 (Operand.tmp 5), type := 25, pos := "own.go:43", after := #[], guard := none }) (v := .agg #[.bool u, .slice d len'' cap'', .int .i64 g]) rfl (by kernel_rfl) (by kernel_rfl) (by kernel_rfl) (fun _ _ _ h => h) (Or.inl ⟨by rfl, ?y5⟩) R ?r5
    case y5 => (intro ww hS; have q6 := hS.cell k6 n2; have q7 := hS.cell k7 n2; have q8 := hS.cell k8 n2; clear hS; go_simp; try with_reducible rfl)
    try simp only [Act.put, List.setIfInBounds_toArray, List.set_cons_zero, List.set_cons_succ]
    refine wpAnyH_take (i := 7) (oi := { dst := some 27, op := Op.move (Operand.tmp 7), type := 27, pos := "own.go:43", after := #[], guard := none }) (v := (.pointer (some ⟨c, 0, none⟩))) rfl (by kernel_rfl) (by kernel_rfl) (by kernel_rfl) (fun _ _ _ h => h) (Or.inl ⟨by rfl, ?y6⟩) R ?r6
    case y6 => (intro ww hS; clear hS; go_simp; try with_reducible rfl)
    try simp only [Act.put, List.setIfInBounds_toArray, List.set_cons_zero, List.set_cons_succ]
    refine wpAnyH_take (i := 8) (oi := { dst := some 28, op := Op.move (Operand.tmp 7), type := 27, pos := "own.go:43", after := #[], guard := none }) (v := (.pointer (some ⟨c, 0, none⟩))) rfl (by kernel_rfl) (by kernel_rfl) (by kernel_rfl) (fun _ _ _ h => h) (Or.inl ⟨by rfl, ?y7⟩) R ?r7
    case y7 => (intro ww hS; clear hS; go_simp; try with_reducible rfl)
    try simp only [Act.put, List.setIfInBounds_toArray, List.set_cons_zero, List.set_cons_succ]
    refine wpAnyH_take (i := 9) (oi := { dst := some 29, op := Op.load 25 (Operand.tmp 3), type := 25, pos := "own.go:43", after := #[], guard := none }) (v := .agg #[.bool s, .slice a len cap, .int .i64 e]) rfl (by kernel_rfl) (by kernel_rfl) (by kernel_rfl) (fun _ _ _ h => h) (Or.inl ⟨by rfl, ?y8⟩) R ?r8
    case y8 => (intro ww hS; have q0 := hS.cell k0 n0; have q1 := hS.cell k1 n0; have q2 := hS.cell k2 n0; clear hS; go_simp; try with_reducible rfl)
    try simp only [Act.put, List.setIfInBounds_toArray, List.set_cons_zero, List.set_cons_succ]
    refine wpAnyH_take (i := 10) (oi := { dst := some 30, op := Op.load 25 (Operand.tmp 4), type := 25, pos := "own.go:43", after := #[], guard := none }) (v := .agg #[.bool t, .slice b len' cap', .int .i64 f]) rfl (by kernel_rfl) (by kernel_rfl) (by kernel_rfl) (fun _ _ _ h => h) (Or.inl ⟨by rfl, ?y9⟩) R ?r9
    case y9 => (intro ww hS; have q3 := hS.cell k3 n1; have q4 := hS.cell k4 n1; have q5 := hS.cell k5 n1; clear hS; go_simp; try with_reducible rfl)
    try simp only [Act.put, List.setIfInBounds_toArray, List.set_cons_zero, List.set_cons_succ]
    refine wpAnyH_take (i := 12) (oi := { dst := some 32, op := Op.load 25 (Operand.tmp 5), type := 25, pos := "own.go:43", after := #[], guard := none }) (v := .agg #[.bool u, .slice d len'' cap'', .int .i64 g]) rfl (by kernel_rfl) (by kernel_rfl) (by kernel_rfl) (fun _ _ _ h => h) (Or.inl ⟨by rfl, ?y10⟩) R ?r10
    case y10 => (intro ww hS; have q6 := hS.cell k6 n2; have q7 := hS.cell k7 n2; have q8 := hS.cell k8 n2; clear hS; go_simp; try with_reducible rfl)
    try simp only [Act.put, List.setIfInBounds_toArray, List.set_cons_zero, List.set_cons_succ]
    refine wpAnyH_ready (rs := [5]) (by kernel_rfl) (by simp) ?_
    refine AllReadyH.cons rfl (fun K hK => ?_) AllReadyH.nil
    go_simp
    refine Calls.mono (cadd_nm c _ (HB.out c _ hXc.out (HW.out _ R)) (HD.out c _ hXc.out (HW.out _ R)) (HT.out _ (HW.out _ R)) C) ?_
    rintro r w1 ⟨v1, rfl, D1, Cn, rn⟩
    clear C
    have C := Cn
    clear Cn
    replace R := R.trans rn
    clear rn
    refine hK.out _ _ R (fun _ => ?_)
    clear hK K
    try simp only [Act.put, List.setIfInBounds_toArray, List.set_cons_zero, List.set_cons_succ]
    refine wpAnyH_ready (rs := [6]) (by kernel_rfl) (by simp) ?_
    refine AllReadyH.cons rfl (fun K hK => ?_) AllReadyH.nil
    go_simp
    refine Calls.mono (cadd_nm c _ (HA.out c _ hXc.out (HW.out _ R)) D1.nm (HT.out _ (HW.out _ R)) C) ?_
    rintro r w2 ⟨v2, rfl, D2, Cn, rn⟩
    clear C
    have C := Cn
    clear Cn
    replace D1 := D1.keepR rn
    replace R := R.trans rn
    clear rn
    refine hK.out _ _ R (fun _ => ?_)
    clear hK K
    try simp only [Act.put, List.setIfInBounds_toArray, List.set_cons_zero, List.set_cons_succ]
    clear D1
    refine wpAnyH_ready (rs := [11]) (by kernel_rfl) (by simp) ?_
    refine AllReadyH.cons rfl (fun K hK => ?_) AllReadyH.nil
    go_simp
    refine Calls.mono (cadd_nm c _ (HA.out c _ hXc.out (HW.out _ R)) (HB.out c _ hXc.out (HW.out _ R)) (HT.out _ (HW.out _ R)) C) ?_
    rintro r w3 ⟨v3, rfl, D3, Cn, rn⟩
    clear C
    have C := Cn
    clear Cn
    replace D2 := D2.keepR rn
    replace R := R.trans rn
    clear rn
    refine hK.out _ _ R (fun _ => ?_)
    clear hK K
    try simp only [Act.put, List.setIfInBounds_toArray, List.set_cons_zero, List.set_cons_succ]
    refine wpAnyH_ready (rs := [13]) (by kernel_rfl) (by simp) ?_
    refine AllReadyH.cons rfl (fun K hK => ?_) AllReadyH.nil
    go_simp
    refine Calls.mono (cadd_nm c _ D3.nm (HD.out c _ hXc.out (HW.out _ R)) (HT.out _ (HW.out _ R)) C) ?_
    rintro r w4 ⟨v4, rfl, D4, Cn, rn⟩
    clear C
    have C := Cn
    clear Cn
    replace D2 := D2.keepR rn
    replace D3 := D3.keepR rn
    replace R := R.trans rn
    clear rn
    refine hK.out _ _ R (fun _ => ?_)
    clear hK K
    try simp only [Act.put, List.setIfInBounds_toArray, List.set_cons_zero, List.set_cons_succ]
    clear D3
    cases hg : smB (opP sumD x (opP sumD y z)) (opP sumD (opP sumD x y) z) with
    | false =>
      have HS : Hid _ := csame_calls c D2 D4
      rw [hg] at HS
      clear D2 D4
      have hg' : Hid _ := hg
      clear hg
      refine wpAnyH_ready (rs := [14]) (by kernel_rfl) (by simp) ?_
      refine AllReadyH.cons rfl (fun K hK => ?_) AllReadyH.nil
      go_simp
      refine Calls.mono (HS.out) ?_
      rintro r w5 ⟨rfl, bS⟩
      replace C := C.keep bS
      have rn := Rn.of_below (c := c) bS
      clear bS
      replace R := R.trans rn
      clear rn
      refine hK.out _ _ R (fun _ => ?_)
      clear hK K
      try simp only [Act.put, List.setIfInBounds_toArray, List.set_cons_zero, List.set_cons_succ]
      clear HS
      refine wpAnyH_take (i := 15) (oi := { dst := some 35, op := Op.move (Operand.tmp 34), type := 4, pos := "own.go:43", after := #[{ on := 14, ground := Ground.data }, { on := 14, ground := Ground.chain }], guard := none }) (v := .bool false) rfl (by kernel_rfl) (by kernel_rfl) (by kernel_rfl) (fun _ _ _ h => h) (Or.inl ⟨by rfl, ?y11⟩) R ?r11
      case y11 => (intro ww hS; clear hS; go_simp; try with_reducible rfl)
      try simp only [Act.put, List.setIfInBounds_toArray, List.set_cons_zero, List.set_cons_succ]
      refine wpAnyH_take (i := 16) (oi := { dst := some 36, op := Op.move (Operand.tmp 7), type := 27, pos := "own.go:43", after := #[{ on := 15, ground := Ground.guard }], guard := some (15, true) }) (v := undef) rfl (by kernel_rfl) (by kernel_rfl) (by kernel_rfl) (fun _ _ _ h => h) (Or.inr ⟨by rfl, rfl⟩) R ?r12
      try simp only [Act.put, List.setIfInBounds_toArray, List.set_cons_zero, List.set_cons_succ]
      refine wpAnyH_take (i := 17) (oi := { dst := some 37, op := Op.load 25 (Operand.tmp 3), type := 25, pos := "own.go:43", after := #[{ on := 15, ground := Ground.guard }], guard := some (15, true) }) (v := undef) rfl (by kernel_rfl) (by kernel_rfl) (by kernel_rfl) (fun _ _ _ h => h) (Or.inr ⟨by rfl, rfl⟩) R ?r13
      try simp only [Act.put, List.setIfInBounds_toArray, List.set_cons_zero, List.set_cons_succ]
      refine wpAnyH_take (i := 18) (oi := { dst := some 38, op := Op.load 25 (Operand.tmp 4), type := 25, pos := "own.go:43", after := #[{ on := 15, ground := Ground.guard }], guard := some (15, true) }) (v := undef) rfl (by kernel_rfl) (by kernel_rfl) (by kernel_rfl) (fun _ _ _ h => h) (Or.inr ⟨by rfl, rfl⟩) R ?r14
      try simp only [Act.put, List.setIfInBounds_toArray, List.set_cons_zero, List.set_cons_succ]
      refine wpAnyH_take (i := 20) (oi := { dst := some 40, op := Op.move (Operand.tmp 7), type := 27, pos := "own.go:43", after := #[{ on := 15, ground := Ground.guard }], guard := some (15, true) }) (v := undef) rfl (by kernel_rfl) (by kernel_rfl) (by kernel_rfl) (fun _ _ _ h => h) (Or.inr ⟨by rfl, rfl⟩) R ?r15
      try simp only [Act.put, List.setIfInBounds_toArray, List.set_cons_zero, List.set_cons_succ]
      refine wpAnyH_take (i := 21) (oi := { dst := some 41, op := Op.load 25 (Operand.tmp 4), type := 25, pos := "own.go:43", after := #[{ on := 15, ground := Ground.guard }], guard := some (15, true) }) (v := undef) rfl (by kernel_rfl) (by kernel_rfl) (by kernel_rfl) (fun _ _ _ h => h) (Or.inr ⟨by rfl, rfl⟩) R ?r16
      try simp only [Act.put, List.setIfInBounds_toArray, List.set_cons_zero, List.set_cons_succ]
      refine wpAnyH_take (i := 22) (oi := { dst := some 42, op := Op.load 25 (Operand.tmp 3), type := 25, pos := "own.go:43", after := #[{ on := 15, ground := Ground.guard }], guard := some (15, true) }) (v := undef) rfl (by kernel_rfl) (by kernel_rfl) (by kernel_rfl) (fun _ _ _ h => h) (Or.inr ⟨by rfl, rfl⟩) R ?r17
      try simp only [Act.put, List.setIfInBounds_toArray, List.set_cons_zero, List.set_cons_succ]
      refine wpAnyH_ready (rs := [19]) (by kernel_rfl) (by simp) ?_
      refine AllReadyH.cons rfl (fun K hK => ?_) AllReadyH.nil
      go_simp
      refine hK.out _ _ R (fun _ => ?_)
      clear hK K
      try simp only [Act.put, List.setIfInBounds_toArray, List.set_cons_zero, List.set_cons_succ]
      refine wpAnyH_ready (rs := [23]) (by kernel_rfl) (by simp) ?_
      refine AllReadyH.cons rfl (fun K hK => ?_) AllReadyH.nil
      go_simp
      refine hK.out _ _ R (fun _ => ?_)
      clear hK K
      try simp only [Act.put, List.setIfInBounds_toArray, List.set_cons_zero, List.set_cons_succ]
      refine wpAnyH_ready (rs := [24]) (by kernel_rfl) (by simp) ?_
      refine AllReadyH.cons rfl (fun K hK => ?_) AllReadyH.nil
      go_simp
      refine hK.out _ _ R (fun _ => ?_)
      clear hK K
      try simp only [Act.put, List.setIfInBounds_toArray, List.set_cons_zero, List.set_cons_succ]
      refine wpAnyH_ready (rs := [25]) (by kernel_rfl) (by simp) ?_
      refine AllReadyH.cons rfl (fun K hK => ?_) AllReadyH.nil
      go_simp
      refine hK.out _ _ R (fun _ => ?_)
      clear hK K
      try simp only [Act.put, List.setIfInBounds_toArray, List.set_cons_zero, List.set_cons_succ]
      refine wpAnyH_ready (rs := [26]) (by kernel_rfl) (by simp) ?_
      refine AllReadyH.cons rfl (fun K hK => ?_) AllReadyH.nil
      go_simp
      refine hK.out _ _ R (fun _ => ?_)
      clear hK K
      try simp only [Act.put, List.setIfInBounds_toArray, List.set_cons_zero, List.set_cons_succ]
      refine wpAnyH_done (by kernel_rfl) ?_ _
      go_wp2_with fail
      go_meet
      exact ⟨false, _, rfl, C, R, fun hk => absurd ((HG.out hk).symm.trans hg'.out) (by decide)⟩
    | true =>
      have HS : Hid _ := csame_calls c D2 D4
      rw [hg] at HS
      clear D2 D4
      have hg' : Hid _ := hg
      clear hg
      refine wpAnyH_ready (rs := [14]) (by kernel_rfl) (by simp) ?_
      refine AllReadyH.cons rfl (fun K hK => ?_) AllReadyH.nil
      go_simp
      refine Calls.mono (HS.out) ?_
      rintro r w5 ⟨rfl, bS⟩
      replace C := C.keep bS
      have rn := Rn.of_below (c := c) bS
      clear bS
      replace R := R.trans rn
      clear rn
      refine hK.out _ _ R (fun _ => ?_)
      clear hK K
      try simp only [Act.put, List.setIfInBounds_toArray, List.set_cons_zero, List.set_cons_succ]
      clear HS
      refine wpAnyH_take (i := 15) (oi := { dst := some 35, op := Op.move (Operand.tmp 34), type := 4, pos := "own.go:43", after := #[{ on := 14, ground := Ground.data }, { on := 14, ground := Ground.chain }], guard := none }) (v := .bool true) rfl (by kernel_rfl) (by kernel_rfl) (by kernel_rfl) (fun _ _ _ h => h) (Or.inl ⟨by rfl, ?y18⟩) R ?r18
      case y18 => (intro ww hS; clear hS; go_simp; try with_reducible rfl)
      try simp only [Act.put, List.setIfInBounds_toArray, List.set_cons_zero, List.set_cons_succ]
      refine wpAnyH_take (i := 16) (oi := { dst := some 36, op := Op.move (Operand.tmp 7), type := 27, pos := "own.go:43", after := #[{ on := 15, ground := Ground.guard }], guard := some (15, true) }) (v := (.pointer (some ⟨c, 0, none⟩))) rfl (by kernel_rfl) (by kernel_rfl) (by kernel_rfl) (fun _ _ _ h => h) (Or.inl ⟨by rfl, ?y19⟩) R ?r19
      case y19 => (intro ww hS; clear hS; go_simp; try with_reducible rfl)
      try simp only [Act.put, List.setIfInBounds_toArray, List.set_cons_zero, List.set_cons_succ]
      refine wpAnyH_take (i := 17) (oi := { dst := some 37, op := Op.load 25 (Operand.tmp 3), type := 25, pos := "own.go:43", after := #[{ on := 15, ground := Ground.guard }], guard := some (15, true) }) (v := .agg #[.bool s, .slice a len cap, .int .i64 e]) rfl (by kernel_rfl) (by kernel_rfl) (by kernel_rfl) (fun _ _ _ h => h) (Or.inl ⟨by rfl, ?y20⟩) R ?r20
      case y20 => (intro ww hS; have q0 := hS.cell k0 n0; have q1 := hS.cell k1 n0; have q2 := hS.cell k2 n0; clear hS; go_simp; try with_reducible rfl)
      try simp only [Act.put, List.setIfInBounds_toArray, List.set_cons_zero, List.set_cons_succ]
      refine wpAnyH_take (i := 18) (oi := { dst := some 38, op := Op.load 25 (Operand.tmp 4), type := 25, pos := "own.go:43", after := #[{ on := 15, ground := Ground.guard }], guard := some (15, true) }) (v := .agg #[.bool t, .slice b len' cap', .int .i64 f]) rfl (by kernel_rfl) (by kernel_rfl) (by kernel_rfl) (fun _ _ _ h => h) (Or.inl ⟨by rfl, ?y21⟩) R ?r21
      case y21 => (intro ww hS; have q3 := hS.cell k3 n1; have q4 := hS.cell k4 n1; have q5 := hS.cell k5 n1; clear hS; go_simp; try with_reducible rfl)
      try simp only [Act.put, List.setIfInBounds_toArray, List.set_cons_zero, List.set_cons_succ]
      refine wpAnyH_take (i := 20) (oi := { dst := some 40, op := Op.move (Operand.tmp 7), type := 27, pos := "own.go:43", after := #[{ on := 15, ground := Ground.guard }], guard := some (15, true) }) (v := (.pointer (some ⟨c, 0, none⟩))) rfl (by kernel_rfl) (by kernel_rfl) (by kernel_rfl) (fun _ _ _ h => h) (Or.inl ⟨by rfl, ?y22⟩) R ?r22
      case y22 => (intro ww hS; clear hS; go_simp; try with_reducible rfl)
      try simp only [Act.put, List.setIfInBounds_toArray, List.set_cons_zero, List.set_cons_succ]
      refine wpAnyH_take (i := 21) (oi := { dst := some 41, op := Op.load 25 (Operand.tmp 4), type := 25, pos := "own.go:43", after := #[{ on := 15, ground := Ground.guard }], guard := some (15, true) }) (v := .agg #[.bool t, .slice b len' cap', .int .i64 f]) rfl (by kernel_rfl) (by kernel_rfl) (by kernel_rfl) (fun _ _ _ h => h) (Or.inl ⟨by rfl, ?y23⟩) R ?r23
      case y23 => (intro ww hS; have q3 := hS.cell k3 n1; have q4 := hS.cell k4 n1; have q5 := hS.cell k5 n1; clear hS; go_simp; try with_reducible rfl)
      try simp only [Act.put, List.setIfInBounds_toArray, List.set_cons_zero, List.set_cons_succ]
      refine wpAnyH_take (i := 22) (oi := { dst := some 42, op := Op.load 25 (Operand.tmp 3), type := 25, pos := "own.go:43", after := #[{ on := 15, ground := Ground.guard }], guard := some (15, true) }) (v := .agg #[.bool s, .slice a len cap, .int .i64 e]) rfl (by kernel_rfl) (by kernel_rfl) (by kernel_rfl) (fun _ _ _ h => h) (Or.inl ⟨by rfl, ?y24⟩) R ?r24
      case y24 => (intro ww hS; have q0 := hS.cell k0 n0; have q1 := hS.cell k1 n0; have q2 := hS.cell k2 n0; clear hS; go_simp; try with_reducible rfl)
      try simp only [Act.put, List.setIfInBounds_toArray, List.set_cons_zero, List.set_cons_succ]
      refine wpAnyH_ready (rs := [19]) (by kernel_rfl) (by simp) ?_
      refine AllReadyH.cons rfl (fun K hK => ?_) AllReadyH.nil
      go_simp
      refine Calls.mono (cadd_nm c _ (HA.out c _ hXc.out (HW.out _ R)) (HB.out c _ hXc.out (HW.out _ R)) (HT.out _ (HW.out _ R)) C) ?_
      rintro r w6 ⟨v6, rfl, D6, Cn, rn⟩
      clear C
      have C := Cn
      clear Cn
      replace R := R.trans rn
      clear rn
      refine hK.out _ _ R (fun _ => ?_)
      clear hK K
      try simp only [Act.put, List.setIfInBounds_toArray, List.set_cons_zero, List.set_cons_succ]
      refine wpAnyH_ready (rs := [23]) (by kernel_rfl) (by simp) ?_
      refine AllReadyH.cons rfl (fun K hK => ?_) AllReadyH.nil
      go_simp
      refine Calls.mono (cadd_nm c _ (HB.out c _ hXc.out (HW.out _ R)) (HA.out c _ hXc.out (HW.out _ R)) (HT.out _ (HW.out _ R)) C) ?_
      rintro r w7 ⟨v7, rfl, D7, Cn, rn⟩
      clear C
      have C := Cn
      clear Cn
      replace D6 := D6.keepR rn
      replace R := R.trans rn
      clear rn
      refine hK.out _ _ R (fun _ => ?_)
      clear hK K
      try simp only [Act.put, List.setIfInBounds_toArray, List.set_cons_zero, List.set_cons_succ]
      refine wpAnyH_ready (rs := [24]) (by kernel_rfl) (by simp) ?_
      refine AllReadyH.cons rfl (fun K hK => ?_) AllReadyH.nil
      go_simp
      refine Calls.mono (csame_calls c D6 D7) ?_
      rintro r w8 ⟨rfl, bS⟩
      replace C := C.keep bS
      have rn := Rn.of_below (c := c) bS
      clear bS
      replace R := R.trans rn
      clear rn
      refine hK.out _ _ R (fun _ => ?_)
      clear hK K
      try simp only [Act.put, List.setIfInBounds_toArray, List.set_cons_zero, List.set_cons_succ]
      clear D6 D7
      refine wpAnyH_ready (rs := [25]) (by kernel_rfl) (by simp) ?_
      refine AllReadyH.cons rfl (fun K hK => ?_) AllReadyH.nil
      go_simp
      refine hK.out _ _ R (fun _ => ?_)
      clear hK K
      try simp only [Act.put, List.setIfInBounds_toArray, List.set_cons_zero, List.set_cons_succ]
      refine wpAnyH_ready (rs := [26]) (by kernel_rfl) (by simp) ?_
      refine AllReadyH.cons rfl (fun K hK => ?_) AllReadyH.nil
      go_simp
      refine hK.out _ _ R (fun _ => ?_)
      clear hK K
      try simp only [Act.put, List.setIfInBounds_toArray, List.set_cons_zero, List.set_cons_succ]
      refine wpAnyH_done (by kernel_rfl) ?_ _
      go_wp2_with fail
      go_meet
      exact ⟨_, _, rfl, C, R, fun hk => ⟨HK0.out (HK2.out hk).1, (HK2.out hk).2⟩⟩
  case rest =>
    obtain ⟨bS, kS, rfl, Cn, rn, HS⟩ := hcut
    clear C
    have C := Cn
    clear Cn
    replace k0 := rn.cell k0 n0
    replace k1 := rn.cell k1 n0
    replace k2 := rn.cell k2 n0
    replace k3 := rn.cell k3 n1
    replace k4 := rn.cell k4 n1
    replace k5 := rn.cell k5 n1
    replace k6 := rn.cell k6 n2
    replace k7 := rn.cell k7 n2
    replace k8 := rn.cell k8 n2
    replace bw := bw.trans (rn.below hXc.out bw.size)
    clear rn
    generalize wc = W5 at *
    go_upto_region 5 with fail
    go_cut [9] from 46 to 71 (fun vv wx => ∃ (bb : Bool) (kk : Int), vv = .bool bb ∧ CAt c wx kk ∧ Rn c W5 wx ∧ Hid (kk = 0 → kS = 0 ∧ bb = true))
    case first =>
      have HG : Hid (stk (stk (stk (stk (kS) (opE mulD y z)) (opE mulD x (opP mulD y z))) (opE mulD x y)) (opE mulD (opP mulD x y) z) = 0 → smB (opP mulD x (opP mulD y z)) (opP mulD (opP mulD x y) z) = true) := fun hk => by
        obtain ⟨hk, e4⟩ := stk_zero hk
        obtain ⟨hk, e3⟩ := stk_zero hk
        obtain ⟨hk, e2⟩ := stk_zero hk
        obtain ⟨hk, e1⟩ := stk_zero hk
        exact ring_mul e1 e2 e3 e4
      have HK0 : Hid (stk (stk (stk (stk (kS) (opE mulD y z)) (opE mulD x (opP mulD y z))) (opE mulD x y)) (opE mulD (opP mulD x y) z) = 0 → kS = 0) := fun hk => (stk_zero (stk_zero (stk_zero (stk_zero hk).1).1).1).1
      have HK2 : Hid (stk (stk (stk (stk (stk (stk (kS) (opE mulD y z)) (opE mulD x (opP mulD y z))) (opE mulD x y)) (opE mulD (opP mulD x y) z)) (opE mulD x y)) (opE mulD y x) = 0 → stk (stk (stk (stk (kS) (opE mulD y z)) (opE mulD x (opP mulD y z))) (opE mulD x y)) (opE mulD (opP mulD x y) z) = 0 ∧ smB (opP mulD x y) (opP mulD y x) = true) := fun hk => ⟨(stk_zero (stk_zero hk).1).1, ring_mul2 (stk_zero (stk_zero hk).1).2 (stk_zero hk).2⟩
      have R : Rn c W5 (World.drew W5) := (Rn.refl _ _).drew
      have bD : Below W5.heap.size W5 (World.drew W5) := (Below.refl _ _).drew
      have HW : Hid (∀ w', Rn c W5 w' → Below w.heap.size w w') := fun w' r => bw.trans (r.below hXc.out bw.size)
      replace C := C.keep bD
      clear bD
      refine wp_region_held (S := fun w' => Rn c W5 w') (by kernel_rfl) ?_
      change wpAnyH _ _ _ _ _ _ _ _ (World.drew W5)
      generalize World.drew W5 = wd at R C ⊢
      refine wpAnyH_take (i := 0) (oi := { dst := some 46, op := Op.move (Operand.tmp 7), type := 27, pos := "own.go:44", after := #[], guard := none }) (v := (.pointer (some ⟨c, 0, none⟩))) rfl (by kernel_rfl) (by kernel_rfl) (by kernel_rfl) (fun _ _ _ h => h) (Or.inl ⟨by rfl, ?y25⟩) R ?r25
      case y25 => (intro ww hS; clear hS; go_simp; try with_reducible rfl)
      try simp only [Act.put, List.setIfInBounds_toArray, List.set_cons_zero, List.set_cons_succ]
      refine wpAnyH_take (i := 1) (oi := { dst := some 47, op := Op.load 25 (Operand.tmp 3), type := 25, pos := "own.go:44", after := #[], guard := none }) (v := .agg #[.bool s, .slice a len cap, .int .i64 e]) rfl (by kernel_rfl) (by kernel_rfl) (by kernel_rfl) (fun _ _ _ h => h) (Or.inl ⟨by rfl, ?y26⟩) R ?r26
      case y26 => (intro ww hS; have q0 := hS.cell k0 n0; have q1 := hS.cell k1 n0; have q2 := hS.cell k2 n0; clear hS; go_simp; try with_reducible rfl)
      try simp only [Act.put, List.setIfInBounds_toArray, List.set_cons_zero, List.set_cons_succ]
      refine wpAnyH_take (i := 2) (oi := { dst := some 48, op := Op.move (Operand.tmp 7), type := 27, pos := "own.go:44", after := #[], guard := none }) (v := (.pointer (some ⟨c, 0, none⟩))) rfl (by kernel_rfl) (by kernel_rfl) (by kernel_rfl) (fun _ _ _ h => h) (Or.inl ⟨by rfl, ?y27⟩) R ?r27
      case y27 => (intro ww hS; clear hS; go_simp; try with_reducible rfl)
      try simp only [Act.put, List.setIfInBounds_toArray, List.set_cons_zero, List.set_cons_succ]
      refine wpAnyH_take (i := 3) (oi := { dst := some 49, op := Op.load 25 (Operand.tmp 4), type := 25, pos := "own.go:44", after := #[], guard := none }) (v := .agg #[.bool t, .slice b len' cap', .int .i64 f]) rfl (by kernel_rfl) (by kernel_rfl) (by kernel_rfl) (fun _ _ _ h => h) (Or.inl ⟨by rfl, ?y28⟩) R ?r28
      case y28 => (intro ww hS; have q3 := hS.cell k3 n1; have q4 := hS.cell k4 n1; have q5 := hS.cell k5 n1; clear hS; go_simp; try with_reducible rfl)
      try simp only [Act.put, List.setIfInBounds_toArray, List.set_cons_zero, List.set_cons_succ]
      refine wpAnyH_take (i := 4) (oi := { dst := some 50, op := Op.load 25 (Operand.tmp 5), type := 25, pos := "own.go:44", after := #[], guard := none }) (v := .agg #[.bool u, .slice d len'' cap'', .int .i64 g]) rfl (by kernel_rfl) (by kernel_rfl) (by kernel_rfl) (fun _ _ _ h => h) (Or.inl ⟨by rfl, ?y29⟩) R ?r29
      case y29 => (intro ww hS; have q6 := hS.cell k6 n2; have q7 := hS.cell k7 n2; have q8 := hS.cell k8 n2; clear hS; go_simp; try with_reducible rfl)
      try simp only [Act.put, List.setIfInBounds_toArray, List.set_cons_zero, List.set_cons_succ]
      refine wpAnyH_take (i := 7) (oi := { dst := some 53, op := Op.move (Operand.tmp 7), type := 27, pos := "own.go:44", after := #[], guard := none }) (v := (.pointer (some ⟨c, 0, none⟩))) rfl (by kernel_rfl) (by kernel_rfl) (by kernel_rfl) (fun _ _ _ h => h) (Or.inl ⟨by rfl, ?y30⟩) R ?r30
      case y30 => (intro ww hS; clear hS; go_simp; try with_reducible rfl)
      try simp only [Act.put, List.setIfInBounds_toArray, List.set_cons_zero, List.set_cons_succ]
      refine wpAnyH_take (i := 8) (oi := { dst := some 54, op := Op.move (Operand.tmp 7), type := 27, pos := "own.go:44", after := #[], guard := none }) (v := (.pointer (some ⟨c, 0, none⟩))) rfl (by kernel_rfl) (by kernel_rfl) (by kernel_rfl) (fun _ _ _ h => h) (Or.inl ⟨by rfl, ?y31⟩) R ?r31
      case y31 => (intro ww hS; clear hS; go_simp; try with_reducible rfl)
      try simp only [Act.put, List.setIfInBounds_toArray, List.set_cons_zero, List.set_cons_succ]
      refine wpAnyH_take (i := 9) (oi := { dst := some 55, op := Op.load 25 (Operand.tmp 3), type := 25, pos := "own.go:44", after := #[], guard := none }) (v := .agg #[.bool s, .slice a len cap, .int .i64 e]) rfl (by kernel_rfl) (by kernel_rfl) (by kernel_rfl) (fun _ _ _ h => h) (Or.inl ⟨by rfl, ?y32⟩) R ?r32
      case y32 => (intro ww hS; have q0 := hS.cell k0 n0; have q1 := hS.cell k1 n0; have q2 := hS.cell k2 n0; clear hS; go_simp; try with_reducible rfl)
      try simp only [Act.put, List.setIfInBounds_toArray, List.set_cons_zero, List.set_cons_succ]
      refine wpAnyH_take (i := 10) (oi := { dst := some 56, op := Op.load 25 (Operand.tmp 4), type := 25, pos := "own.go:44", after := #[], guard := none }) (v := .agg #[.bool t, .slice b len' cap', .int .i64 f]) rfl (by kernel_rfl) (by kernel_rfl) (by kernel_rfl) (fun _ _ _ h => h) (Or.inl ⟨by rfl, ?y33⟩) R ?r33
      case y33 => (intro ww hS; have q3 := hS.cell k3 n1; have q4 := hS.cell k4 n1; have q5 := hS.cell k5 n1; clear hS; go_simp; try with_reducible rfl)
      try simp only [Act.put, List.setIfInBounds_toArray, List.set_cons_zero, List.set_cons_succ]
      refine wpAnyH_take (i := 12) (oi := { dst := some 58, op := Op.load 25 (Operand.tmp 5), type := 25, pos := "own.go:44", after := #[], guard := none }) (v := .agg #[.bool u, .slice d len'' cap'', .int .i64 g]) rfl (by kernel_rfl) (by kernel_rfl) (by kernel_rfl) (fun _ _ _ h => h) (Or.inl ⟨by rfl, ?y34⟩) R ?r34
      case y34 => (intro ww hS; have q6 := hS.cell k6 n2; have q7 := hS.cell k7 n2; have q8 := hS.cell k8 n2; clear hS; go_simp; try with_reducible rfl)
      try simp only [Act.put, List.setIfInBounds_toArray, List.set_cons_zero, List.set_cons_succ]
      refine wpAnyH_ready (rs := [5]) (by kernel_rfl) (by simp) ?_
      refine AllReadyH.cons rfl (fun K hK => ?_) AllReadyH.nil
      go_simp
      refine Calls.mono (cmul_nm c _ (HB.out c _ hXc.out (HW.out _ R)) (HD.out c _ hXc.out (HW.out _ R)) (HT.out _ (HW.out _ R)) C) ?_
      rintro r w1 ⟨v1, rfl, D1, Cn, rn⟩
      clear C
      have C := Cn
      clear Cn
      replace R := R.trans rn
      clear rn
      refine hK.out _ _ R (fun _ => ?_)
      clear hK K
      try simp only [Act.put, List.setIfInBounds_toArray, List.set_cons_zero, List.set_cons_succ]
      refine wpAnyH_ready (rs := [6]) (by kernel_rfl) (by simp) ?_
      refine AllReadyH.cons rfl (fun K hK => ?_) AllReadyH.nil
      go_simp
      refine Calls.mono (cmul_nm c _ (HA.out c _ hXc.out (HW.out _ R)) D1.nm (HT.out _ (HW.out _ R)) C) ?_
      rintro r w2 ⟨v2, rfl, D2, Cn, rn⟩
      clear C
      have C := Cn
      clear Cn
      replace D1 := D1.keepR rn
      replace R := R.trans rn
      clear rn
      refine hK.out _ _ R (fun _ => ?_)
      clear hK K
      try simp only [Act.put, List.setIfInBounds_toArray, List.set_cons_zero, List.set_cons_succ]
      clear D1
      refine wpAnyH_ready (rs := [11]) (by kernel_rfl) (by simp) ?_
      refine AllReadyH.cons rfl (fun K hK => ?_) AllReadyH.nil
      go_simp
      refine Calls.mono (cmul_nm c _ (HA.out c _ hXc.out (HW.out _ R)) (HB.out c _ hXc.out (HW.out _ R)) (HT.out _ (HW.out _ R)) C) ?_
      rintro r w3 ⟨v3, rfl, D3, Cn, rn⟩
      clear C
      have C := Cn
      clear Cn
      replace D2 := D2.keepR rn
      replace R := R.trans rn
      clear rn
      refine hK.out _ _ R (fun _ => ?_)
      clear hK K
      try simp only [Act.put, List.setIfInBounds_toArray, List.set_cons_zero, List.set_cons_succ]
      refine wpAnyH_ready (rs := [13]) (by kernel_rfl) (by simp) ?_
      refine AllReadyH.cons rfl (fun K hK => ?_) AllReadyH.nil
      go_simp
      refine Calls.mono (cmul_nm c _ D3.nm (HD.out c _ hXc.out (HW.out _ R)) (HT.out _ (HW.out _ R)) C) ?_
      rintro r w4 ⟨v4, rfl, D4, Cn, rn⟩
      clear C
      have C := Cn
      clear Cn
      replace D2 := D2.keepR rn
      replace D3 := D3.keepR rn
      replace R := R.trans rn
      clear rn
      refine hK.out _ _ R (fun _ => ?_)
      clear hK K
      try simp only [Act.put, List.setIfInBounds_toArray, List.set_cons_zero, List.set_cons_succ]
      clear D3
      cases hg : smB (opP mulD x (opP mulD y z)) (opP mulD (opP mulD x y) z) with
      | false =>
        have HS : Hid _ := csame_calls c D2 D4
        rw [hg] at HS
        clear D2 D4
        have hg' : Hid _ := hg
        clear hg
        refine wpAnyH_ready (rs := [14]) (by kernel_rfl) (by simp) ?_
        refine AllReadyH.cons rfl (fun K hK => ?_) AllReadyH.nil
        go_simp
        refine Calls.mono (HS.out) ?_
        rintro r w5 ⟨rfl, bS⟩
        replace C := C.keep bS
        have rn := Rn.of_below (c := c) bS
        clear bS
        replace R := R.trans rn
        clear rn
        refine hK.out _ _ R (fun _ => ?_)
        clear hK K
        try simp only [Act.put, List.setIfInBounds_toArray, List.set_cons_zero, List.set_cons_succ]
        clear HS
        refine wpAnyH_take (i := 15) (oi := { dst := some 61, op := Op.move (Operand.tmp 60), type := 4, pos := "own.go:44", after := #[{ on := 14, ground := Ground.data }, { on := 14, ground := Ground.chain }], guard := none }) (v := .bool false) rfl (by kernel_rfl) (by kernel_rfl) (by kernel_rfl) (fun _ _ _ h => h) (Or.inl ⟨by rfl, ?y35⟩) R ?r35
        case y35 => (intro ww hS; clear hS; go_simp; try with_reducible rfl)
        try simp only [Act.put, List.setIfInBounds_toArray, List.set_cons_zero, List.set_cons_succ]
        refine wpAnyH_take (i := 16) (oi := { dst := some 62, op := Op.move (Operand.tmp 7), type := 27, pos := "own.go:44", after := #[{ on := 15, ground := Ground.guard }], guard := some (15, true) }) (v := undef) rfl (by kernel_rfl) (by kernel_rfl) (by kernel_rfl) (fun _ _ _ h => h) (Or.inr ⟨by rfl, rfl⟩) R ?r36
        try simp only [Act.put, List.setIfInBounds_toArray, List.set_cons_zero, List.set_cons_succ]
        refine wpAnyH_take (i := 17) (oi := { dst := some 63, op := Op.load 25 (Operand.tmp 3), type := 25, pos := "own.go:44", after := #[{ on := 15, ground := Ground.guard }], guard := some (15, true) }) (v := undef) rfl (by kernel_rfl) (by kernel_rfl) (by kernel_rfl) (fun _ _ _ h => h) (Or.inr ⟨by rfl, rfl⟩) R ?r37
        try simp only [Act.put, List.setIfInBounds_toArray, List.set_cons_zero, List.set_cons_succ]
        refine wpAnyH_take (i := 18) (oi := { dst := some 64, op := Op.load 25 (Operand.tmp 4), type := 25, pos := "own.go:44", after := #[{ on := 15, ground := Ground.guard }], guard := some (15, true) }) (v := undef) rfl (by kernel_rfl) (by kernel_rfl) (by kernel_rfl) (fun _ _ _ h => h) (Or.inr ⟨by rfl, rfl⟩) R ?r38
        try simp only [Act.put, List.setIfInBounds_toArray, List.set_cons_zero, List.set_cons_succ]
        refine wpAnyH_take (i := 20) (oi := { dst := some 66, op := Op.move (Operand.tmp 7), type := 27, pos := "own.go:44", after := #[{ on := 15, ground := Ground.guard }], guard := some (15, true) }) (v := undef) rfl (by kernel_rfl) (by kernel_rfl) (by kernel_rfl) (fun _ _ _ h => h) (Or.inr ⟨by rfl, rfl⟩) R ?r39
        try simp only [Act.put, List.setIfInBounds_toArray, List.set_cons_zero, List.set_cons_succ]
        refine wpAnyH_take (i := 21) (oi := { dst := some 67, op := Op.load 25 (Operand.tmp 4), type := 25, pos := "own.go:44", after := #[{ on := 15, ground := Ground.guard }], guard := some (15, true) }) (v := undef) rfl (by kernel_rfl) (by kernel_rfl) (by kernel_rfl) (fun _ _ _ h => h) (Or.inr ⟨by rfl, rfl⟩) R ?r40
        try simp only [Act.put, List.setIfInBounds_toArray, List.set_cons_zero, List.set_cons_succ]
        refine wpAnyH_take (i := 22) (oi := { dst := some 68, op := Op.load 25 (Operand.tmp 3), type := 25, pos := "own.go:44", after := #[{ on := 15, ground := Ground.guard }], guard := some (15, true) }) (v := undef) rfl (by kernel_rfl) (by kernel_rfl) (by kernel_rfl) (fun _ _ _ h => h) (Or.inr ⟨by rfl, rfl⟩) R ?r41
        try simp only [Act.put, List.setIfInBounds_toArray, List.set_cons_zero, List.set_cons_succ]
        refine wpAnyH_ready (rs := [19]) (by kernel_rfl) (by simp) ?_
        refine AllReadyH.cons rfl (fun K hK => ?_) AllReadyH.nil
        go_simp
        refine hK.out _ _ R (fun _ => ?_)
        clear hK K
        try simp only [Act.put, List.setIfInBounds_toArray, List.set_cons_zero, List.set_cons_succ]
        refine wpAnyH_ready (rs := [23]) (by kernel_rfl) (by simp) ?_
        refine AllReadyH.cons rfl (fun K hK => ?_) AllReadyH.nil
        go_simp
        refine hK.out _ _ R (fun _ => ?_)
        clear hK K
        try simp only [Act.put, List.setIfInBounds_toArray, List.set_cons_zero, List.set_cons_succ]
        refine wpAnyH_ready (rs := [24]) (by kernel_rfl) (by simp) ?_
        refine AllReadyH.cons rfl (fun K hK => ?_) AllReadyH.nil
        go_simp
        refine hK.out _ _ R (fun _ => ?_)
        clear hK K
        try simp only [Act.put, List.setIfInBounds_toArray, List.set_cons_zero, List.set_cons_succ]
        refine wpAnyH_ready (rs := [25]) (by kernel_rfl) (by simp) ?_
        refine AllReadyH.cons rfl (fun K hK => ?_) AllReadyH.nil
        go_simp
        refine hK.out _ _ R (fun _ => ?_)
        clear hK K
        try simp only [Act.put, List.setIfInBounds_toArray, List.set_cons_zero, List.set_cons_succ]
        refine wpAnyH_ready (rs := [26]) (by kernel_rfl) (by simp) ?_
        refine AllReadyH.cons rfl (fun K hK => ?_) AllReadyH.nil
        go_simp
        refine hK.out _ _ R (fun _ => ?_)
        clear hK K
        try simp only [Act.put, List.setIfInBounds_toArray, List.set_cons_zero, List.set_cons_succ]
        refine wpAnyH_done (by kernel_rfl) ?_ _
        go_wp2_with fail
        go_meet
        exact ⟨false, _, rfl, C, R, fun hk => absurd ((HG.out hk).symm.trans hg'.out) (by decide)⟩
      | true =>
        have HS : Hid _ := csame_calls c D2 D4
        rw [hg] at HS
        clear D2 D4
        have hg' : Hid _ := hg
        clear hg
        refine wpAnyH_ready (rs := [14]) (by kernel_rfl) (by simp) ?_
        refine AllReadyH.cons rfl (fun K hK => ?_) AllReadyH.nil
        go_simp
        refine Calls.mono (HS.out) ?_
        rintro r w5 ⟨rfl, bS⟩
        replace C := C.keep bS
        have rn := Rn.of_below (c := c) bS
        clear bS
        replace R := R.trans rn
        clear rn
        refine hK.out _ _ R (fun _ => ?_)
        clear hK K
        try simp only [Act.put, List.setIfInBounds_toArray, List.set_cons_zero, List.set_cons_succ]
        clear HS
        refine wpAnyH_take (i := 15) (oi := { dst := some 61, op := Op.move (Operand.tmp 60), type := 4, pos := "own.go:44", after := #[{ on := 14, ground := Ground.data }, { on := 14, ground := Ground.chain }], guard := none }) (v := .bool true) rfl (by kernel_rfl) (by kernel_rfl) (by kernel_rfl) (fun _ _ _ h => h) (Or.inl ⟨by rfl, ?y42⟩) R ?r42
        case y42 => (intro ww hS; clear hS; go_simp; try with_reducible rfl)
        try simp only [Act.put, List.setIfInBounds_toArray, List.set_cons_zero, List.set_cons_succ]
        refine wpAnyH_take (i := 16) (oi := { dst := some 62, op := Op.move (Operand.tmp 7), type := 27, pos := "own.go:44", after := #[{ on := 15, ground := Ground.guard }], guard := some (15, true) }) (v := (.pointer (some ⟨c, 0, none⟩))) rfl (by kernel_rfl) (by kernel_rfl) (by kernel_rfl) (fun _ _ _ h => h) (Or.inl ⟨by rfl, ?y43⟩) R ?r43
        case y43 => (intro ww hS; clear hS; go_simp; try with_reducible rfl)
        try simp only [Act.put, List.setIfInBounds_toArray, List.set_cons_zero, List.set_cons_succ]
        refine wpAnyH_take (i := 17) (oi := { dst := some 63, op := Op.load 25 (Operand.tmp 3), type := 25, pos := "own.go:44", after := #[{ on := 15, ground := Ground.guard }], guard := some (15, true) }) (v := .agg #[.bool s, .slice a len cap, .int .i64 e]) rfl (by kernel_rfl) (by kernel_rfl) (by kernel_rfl) (fun _ _ _ h => h) (Or.inl ⟨by rfl, ?y44⟩) R ?r44
        case y44 => (intro ww hS; have q0 := hS.cell k0 n0; have q1 := hS.cell k1 n0; have q2 := hS.cell k2 n0; clear hS; go_simp; try with_reducible rfl)
        try simp only [Act.put, List.setIfInBounds_toArray, List.set_cons_zero, List.set_cons_succ]
        refine wpAnyH_take (i := 18) (oi := { dst := some 64, op := Op.load 25 (Operand.tmp 4), type := 25, pos := "own.go:44", after := #[{ on := 15, ground := Ground.guard }], guard := some (15, true) }) (v := .agg #[.bool t, .slice b len' cap', .int .i64 f]) rfl (by kernel_rfl) (by kernel_rfl) (by kernel_rfl) (fun _ _ _ h => h) (Or.inl ⟨by rfl, ?y45⟩) R ?r45
        case y45 => (intro ww hS; have q3 := hS.cell k3 n1; have q4 := hS.cell k4 n1; have q5 := hS.cell k5 n1; clear hS; go_simp; try with_reducible rfl)
        try simp only [Act.put, List.setIfInBounds_toArray, List.set_cons_zero, List.set_cons_succ]
        refine wpAnyH_take (i := 20) (oi := { dst := some 66, op := Op.move (Operand.tmp 7), type := 27, pos := "own.go:44", after := #[{ on := 15, ground := Ground.guard }], guard := some (15, true) }) (v := (.pointer (some ⟨c, 0, none⟩))) rfl (by kernel_rfl) (by kernel_rfl) (by kernel_rfl) (fun _ _ _ h => h) (Or.inl ⟨by rfl, ?y46⟩) R ?r46
        case y46 => (intro ww hS; clear hS; go_simp; try with_reducible rfl)
        try simp only [Act.put, List.setIfInBounds_toArray, List.set_cons_zero, List.set_cons_succ]
        refine wpAnyH_take (i := 21) (oi := { dst := some 67, op := Op.load 25 (Operand.tmp 4), type := 25, pos := "own.go:44", after := #[{ on := 15, ground := Ground.guard }], guard := some (15, true) }) (v := .agg #[.bool t, .slice b len' cap', .int .i64 f]) rfl (by kernel_rfl) (by kernel_rfl) (by kernel_rfl) (fun _ _ _ h => h) (Or.inl ⟨by rfl, ?y47⟩) R ?r47
        case y47 => (intro ww hS; have q3 := hS.cell k3 n1; have q4 := hS.cell k4 n1; have q5 := hS.cell k5 n1; clear hS; go_simp; try with_reducible rfl)
        try simp only [Act.put, List.setIfInBounds_toArray, List.set_cons_zero, List.set_cons_succ]
        refine wpAnyH_take (i := 22) (oi := { dst := some 68, op := Op.load 25 (Operand.tmp 3), type := 25, pos := "own.go:44", after := #[{ on := 15, ground := Ground.guard }], guard := some (15, true) }) (v := .agg #[.bool s, .slice a len cap, .int .i64 e]) rfl (by kernel_rfl) (by kernel_rfl) (by kernel_rfl) (fun _ _ _ h => h) (Or.inl ⟨by rfl, ?y48⟩) R ?r48
        case y48 => (intro ww hS; have q0 := hS.cell k0 n0; have q1 := hS.cell k1 n0; have q2 := hS.cell k2 n0; clear hS; go_simp; try with_reducible rfl)
        try simp only [Act.put, List.setIfInBounds_toArray, List.set_cons_zero, List.set_cons_succ]
        refine wpAnyH_ready (rs := [19]) (by kernel_rfl) (by simp) ?_
        refine AllReadyH.cons rfl (fun K hK => ?_) AllReadyH.nil
        go_simp
        refine Calls.mono (cmul_nm c _ (HA.out c _ hXc.out (HW.out _ R)) (HB.out c _ hXc.out (HW.out _ R)) (HT.out _ (HW.out _ R)) C) ?_
        rintro r w6 ⟨v6, rfl, D6, Cn, rn⟩
        clear C
        have C := Cn
        clear Cn
        replace R := R.trans rn
        clear rn
        refine hK.out _ _ R (fun _ => ?_)
        clear hK K
        try simp only [Act.put, List.setIfInBounds_toArray, List.set_cons_zero, List.set_cons_succ]
        refine wpAnyH_ready (rs := [23]) (by kernel_rfl) (by simp) ?_
        refine AllReadyH.cons rfl (fun K hK => ?_) AllReadyH.nil
        go_simp
        refine Calls.mono (cmul_nm c _ (HB.out c _ hXc.out (HW.out _ R)) (HA.out c _ hXc.out (HW.out _ R)) (HT.out _ (HW.out _ R)) C) ?_
        rintro r w7 ⟨v7, rfl, D7, Cn, rn⟩
        clear C
        have C := Cn
        clear Cn
        replace D6 := D6.keepR rn
        replace R := R.trans rn
        clear rn
        refine hK.out _ _ R (fun _ => ?_)
        clear hK K
        try simp only [Act.put, List.setIfInBounds_toArray, List.set_cons_zero, List.set_cons_succ]
        refine wpAnyH_ready (rs := [24]) (by kernel_rfl) (by simp) ?_
        refine AllReadyH.cons rfl (fun K hK => ?_) AllReadyH.nil
        go_simp
        refine Calls.mono (csame_calls c D6 D7) ?_
        rintro r w8 ⟨rfl, bS⟩
        replace C := C.keep bS
        have rn := Rn.of_below (c := c) bS
        clear bS
        replace R := R.trans rn
        clear rn
        refine hK.out _ _ R (fun _ => ?_)
        clear hK K
        try simp only [Act.put, List.setIfInBounds_toArray, List.set_cons_zero, List.set_cons_succ]
        clear D6 D7
        refine wpAnyH_ready (rs := [25]) (by kernel_rfl) (by simp) ?_
        refine AllReadyH.cons rfl (fun K hK => ?_) AllReadyH.nil
        go_simp
        refine hK.out _ _ R (fun _ => ?_)
        clear hK K
        try simp only [Act.put, List.setIfInBounds_toArray, List.set_cons_zero, List.set_cons_succ]
        refine wpAnyH_ready (rs := [26]) (by kernel_rfl) (by simp) ?_
        refine AllReadyH.cons rfl (fun K hK => ?_) AllReadyH.nil
        go_simp
        refine hK.out _ _ R (fun _ => ?_)
        clear hK K
        try simp only [Act.put, List.setIfInBounds_toArray, List.set_cons_zero, List.set_cons_succ]
        refine wpAnyH_done (by kernel_rfl) ?_ _
        go_wp2_with fail
        go_meet
        exact ⟨_, _, rfl, C, R, fun hk => ⟨HK0.out (HK2.out hk).1, (HK2.out hk).2⟩⟩
    case rest =>
      obtain ⟨bM, kM, rfl, Cn, rn, HM⟩ := hcut
      clear C
      have C := Cn
      clear Cn
      replace k0 := rn.cell k0 n0
      replace k1 := rn.cell k1 n0
      replace k2 := rn.cell k2 n0
      replace k3 := rn.cell k3 n1
      replace k4 := rn.cell k4 n1
      replace k5 := rn.cell k5 n1
      replace k6 := rn.cell k6 n2
      replace k7 := rn.cell k7 n2
      replace k8 := rn.cell k8 n2
      replace bw := bw.trans (rn.below hXc.out bw.size)
      clear rn
      generalize wc = W6 at *
      go_upto_region 6 with fail
      go_cut [10] from 72 to 89 (fun vv wx => ∃ (bb : Bool) (kk : Int), vv = .bool bb ∧ CAt c wx kk ∧ Rn c W6 wx ∧ Hid (kk = 0 → kM = 0 ∧ bb = true))
      case first =>
        have HG : Hid (stk (stk (stk (stk (stk (kM) (opE sumD y z)) (opE mulD x (opP sumD y z))) (opE mulD x y)) (opE mulD x z)) (opE sumD (opP mulD x y) (opP mulD x z)) = 0 → kM = 0 ∧ smB (opP mulD x (opP sumD y z)) (opP sumD (opP mulD x y) (opP mulD x z)) = true) := fun hk => by
          obtain ⟨hk, e5⟩ := stk_zero hk
          obtain ⟨hk, e4⟩ := stk_zero hk
          obtain ⟨hk, e3⟩ := stk_zero hk
          obtain ⟨hk, e2⟩ := stk_zero hk
          obtain ⟨hk, e1⟩ := stk_zero hk
          exact ⟨hk, ring_over e1 e2 e3 e4 e5⟩
        have R : Rn c W6 (World.drew W6) := (Rn.refl _ _).drew
        have bD : Below W6.heap.size W6 (World.drew W6) := (Below.refl _ _).drew
        have HW : Hid (∀ w', Rn c W6 w' → Below w.heap.size w w') := fun w' r => bw.trans (r.below hXc.out bw.size)
        replace C := C.keep bD
        clear bD
        refine wp_region_held (S := fun w' => Rn c W6 w') (by kernel_rfl) ?_
        change wpAnyH _ _ _ _ _ _ _ _ (World.drew W6)
        generalize World.drew W6 = wd at R C ⊢
        refine wpAnyH_take (i := 0) (oi := { dst := some 72, op := Op.move (Operand.tmp 7), type := 27, pos := "own.go:45", after := #[], guard := none }) (v := (.pointer (some ⟨c, 0, none⟩))) rfl (by kernel_rfl) (by kernel_rfl) (by kernel_rfl) (fun _ _ _ h => h) (Or.inl ⟨by rfl, ?y49⟩) R ?r49
        case y49 => (intro ww hS; clear hS; go_simp; try with_reducible rfl)
        try simp only [Act.put, List.setIfInBounds_toArray, List.set_cons_zero, List.set_cons_succ]
        refine wpAnyH_take (i := 1) (oi := { dst := some 73, op := Op.load 25 (Operand.tmp 3), type := 25, pos := "own.go:45", after := #[], guard := none }) (v := .agg #[.bool s, .slice a len cap, .int .i64 e]) rfl (by kernel_rfl) (by kernel_rfl) (by kernel_rfl) (fun _ _ _ h => h) (Or.inl ⟨by rfl, ?y50⟩) R ?r50
        case y50 => (intro ww hS; have q0 := hS.cell k0 n0; have q1 := hS.cell k1 n0; have q2 := hS.cell k2 n0; clear hS; go_simp; try with_reducible rfl)
        try simp only [Act.put, List.setIfInBounds_toArray, List.set_cons_zero, List.set_cons_succ]
        refine wpAnyH_take (i := 2) (oi := { dst := some 74, op := Op.move (Operand.tmp 7), type := 27, pos := "own.go:45", after := #[], guard := none }) (v := (.pointer (some ⟨c, 0, none⟩))) rfl (by kernel_rfl) (by kernel_rfl) (by kernel_rfl) (fun _ _ _ h => h) (Or.inl ⟨by rfl, ?y51⟩) R ?r51
        case y51 => (intro ww hS; clear hS; go_simp; try with_reducible rfl)
        try simp only [Act.put, List.setIfInBounds_toArray, List.set_cons_zero, List.set_cons_succ]
        refine wpAnyH_take (i := 3) (oi := { dst := some 75, op := Op.load 25 (Operand.tmp 4), type := 25, pos := "own.go:45", after := #[], guard := none }) (v := .agg #[.bool t, .slice b len' cap', .int .i64 f]) rfl (by kernel_rfl) (by kernel_rfl) (by kernel_rfl) (fun _ _ _ h => h) (Or.inl ⟨by rfl, ?y52⟩) R ?r52
        case y52 => (intro ww hS; have q3 := hS.cell k3 n1; have q4 := hS.cell k4 n1; have q5 := hS.cell k5 n1; clear hS; go_simp; try with_reducible rfl)
        try simp only [Act.put, List.setIfInBounds_toArray, List.set_cons_zero, List.set_cons_succ]
        refine wpAnyH_take (i := 4) (oi := { dst := some 76, op := Op.load 25 (Operand.tmp 5), type := 25, pos := "own.go:45", after := #[], guard := none }) (v := .agg #[.bool u, .slice d len'' cap'', .int .i64 g]) rfl (by kernel_rfl) (by kernel_rfl) (by kernel_rfl) (fun _ _ _ h => h) (Or.inl ⟨by rfl, ?y53⟩) R ?r53
        case y53 => (intro ww hS; have q6 := hS.cell k6 n2; have q7 := hS.cell k7 n2; have q8 := hS.cell k8 n2; clear hS; go_simp; try with_reducible rfl)
        try simp only [Act.put, List.setIfInBounds_toArray, List.set_cons_zero, List.set_cons_succ]
        refine wpAnyH_take (i := 7) (oi := { dst := some 79, op := Op.move (Operand.tmp 7), type := 27, pos := "own.go:45", after := #[], guard := none }) (v := (.pointer (some ⟨c, 0, none⟩))) rfl (by kernel_rfl) (by kernel_rfl) (by kernel_rfl) (fun _ _ _ h => h) (Or.inl ⟨by rfl, ?y54⟩) R ?r54
        case y54 => (intro ww hS; clear hS; go_simp; try with_reducible rfl)
        try simp only [Act.put, List.setIfInBounds_toArray, List.set_cons_zero, List.set_cons_succ]
        refine wpAnyH_take (i := 8) (oi := { dst := some 80, op := Op.move (Operand.tmp 7), type := 27, pos := "own.go:45", after := #[], guard := none }) (v := (.pointer (some ⟨c, 0, none⟩))) rfl (by kernel_rfl) (by kernel_rfl) (by kernel_rfl) (fun _ _ _ h => h) (Or.inl ⟨by rfl, ?y55⟩) R ?r55
        case y55 => (intro ww hS; clear hS; go_simp; try with_reducible rfl)
        try simp only [Act.put, List.setIfInBounds_toArray, List.set_cons_zero, List.set_cons_succ]
        refine wpAnyH_take (i := 9) (oi := { dst := some 81, op := Op.load 25 (Operand.tmp 3), type := 25, pos := "own.go:45", after := #[], guard := none }) (v := .agg #[.bool s, .slice a len cap, .int .i64 e]) rfl (by kernel_rfl) (by kernel_rfl) (by kernel_rfl) (fun _ _ _ h => h) (Or.inl ⟨by rfl, ?y56⟩) R ?r56
        case y56 => (intro ww hS; have q0 := hS.cell k0 n0; have q1 := hS.cell k1 n0; have q2 := hS.cell k2 n0; clear hS; go_simp; try with_reducible rfl)
        try simp only [Act.put, List.setIfInBounds_toArray, List.set_cons_zero, List.set_cons_succ]
        refine wpAnyH_take (i := 10) (oi := { dst := some 82, op := Op.load 25 (Operand.tmp 4), type := 25, pos := "own.go:45", after := #[], guard := none }) (v := .agg #[.bool t, .slice b len' cap', .int .i64 f]) rfl (by kernel_rfl) (by kernel_rfl) (by kernel_rfl) (fun _ _ _ h => h) (Or.inl ⟨by rfl, ?y57⟩) R ?r57
        case y57 => (intro ww hS; have q3 := hS.cell k3 n1; have q4 := hS.cell k4 n1; have q5 := hS.cell k5 n1; clear hS; go_simp; try with_reducible rfl)
        try simp only [Act.put, List.setIfInBounds_toArray, List.set_cons_zero, List.set_cons_succ]
        refine wpAnyH_take (i := 12) (oi := { dst := some 84, op := Op.move (Operand.tmp 7), type := 27, pos := "own.go:45", after := #[], guard := none }) (v := (.pointer (some ⟨c, 0, none⟩))) rfl (by kernel_rfl) (by kernel_rfl) (by kernel_rfl) (fun _ _ _ h => h) (Or.inl ⟨by rfl, ?y58⟩) R ?r58
        case y58 => (intro ww hS; clear hS; go_simp; try with_reducible rfl)
        try simp only [Act.put, List.setIfInBounds_toArray, List.set_cons_zero, List.set_cons_succ]
        refine wpAnyH_take (i := 13) (oi := { dst := some 85, op := Op.load 25 (Operand.tmp 3), type := 25, pos := "own.go:45", after := #[], guard := none }) (v := .agg #[.bool s, .slice a len cap, .int .i64 e]) rfl (by kernel_rfl) (by kernel_rfl) (by kernel_rfl) (fun _ _ _ h => h) (Or.inl ⟨by rfl, ?y59⟩) R ?r59
        case y59 => (intro ww hS; have q0 := hS.cell k0 n0; have q1 := hS.cell k1 n0; have q2 := hS.cell k2 n0; clear hS; go_simp; try with_reducible rfl)
        try simp only [Act.put, List.setIfInBounds_toArray, List.set_cons_zero, List.set_cons_succ]
        refine wpAnyH_take (i := 14) (oi := { dst := some 86, op := Op.load 25 (Operand.tmp 5), type := 25, pos := "own.go:45", after := #[], guard := none }) (v := .agg #[.bool u, .slice d len'' cap'', .int .i64 g]) rfl (by kernel_rfl) (by kernel_rfl) (by kernel_rfl) (fun _ _ _ h => h) (Or.inl ⟨by rfl, ?y60⟩) R ?r60
        case y60 => (intro ww hS; have q6 := hS.cell k6 n2; have q7 := hS.cell k7 n2; have q8 := hS.cell k8 n2; clear hS; go_simp; try with_reducible rfl)
        try simp only [Act.put, List.setIfInBounds_toArray, List.set_cons_zero, List.set_cons_succ]
        refine wpAnyH_ready (rs := [5]) (by kernel_rfl) (by simp) ?_
        refine AllReadyH.cons rfl (fun K hK => ?_) AllReadyH.nil
        go_simp
        refine Calls.mono (cadd_nm c _ (HB.out c _ hXc.out (HW.out _ R)) (HD.out c _ hXc.out (HW.out _ R)) (HT.out _ (HW.out _ R)) C) ?_
        rintro r w1 ⟨v1, rfl, D1, Cn, rn⟩
        clear C
        have C := Cn
        clear Cn
        replace R := R.trans rn
        clear rn
        refine hK.out _ _ R (fun _ => ?_)
        clear hK K
        try simp only [Act.put, List.setIfInBounds_toArray, List.set_cons_zero, List.set_cons_succ]
        refine wpAnyH_ready (rs := [6]) (by kernel_rfl) (by simp) ?_
        refine AllReadyH.cons rfl (fun K hK => ?_) AllReadyH.nil
        go_simp
        refine Calls.mono (cmul_nm c _ (HA.out c _ hXc.out (HW.out _ R)) D1.nm (HT.out _ (HW.out _ R)) C) ?_
        rintro r w2 ⟨v2, rfl, D2, Cn, rn⟩
        clear C
        have C := Cn
        clear Cn
        replace D1 := D1.keepR rn
        replace R := R.trans rn
        clear rn
        refine hK.out _ _ R (fun _ => ?_)
        clear hK K
        try simp only [Act.put, List.setIfInBounds_toArray, List.set_cons_zero, List.set_cons_succ]
        clear D1
        refine wpAnyH_ready (rs := [11]) (by kernel_rfl) (by simp) ?_
        refine AllReadyH.cons rfl (fun K hK => ?_) AllReadyH.nil
        go_simp
        refine Calls.mono (cmul_nm c _ (HA.out c _ hXc.out (HW.out _ R)) (HB.out c _ hXc.out (HW.out _ R)) (HT.out _ (HW.out _ R)) C) ?_
        rintro r w3 ⟨v3, rfl, D3, Cn, rn⟩
        clear C
        have C := Cn
        clear Cn
        replace D2 := D2.keepR rn
        replace R := R.trans rn
        clear rn
        refine hK.out _ _ R (fun _ => ?_)
        clear hK K
        try simp only [Act.put, List.setIfInBounds_toArray, List.set_cons_zero, List.set_cons_succ]
        refine wpAnyH_ready (rs := [15]) (by kernel_rfl) (by simp) ?_
        refine AllReadyH.cons rfl (fun K hK => ?_) AllReadyH.nil
        go_simp
        refine Calls.mono (cmul_nm c _ (HA.out c _ hXc.out (HW.out _ R)) (HD.out c _ hXc.out (HW.out _ R)) (HT.out _ (HW.out _ R)) C) ?_
        rintro r w4 ⟨v4, rfl, D4, Cn, rn⟩
        clear C
        have C := Cn
        clear Cn
        replace D2 := D2.keepR rn
        replace D3 := D3.keepR rn
        replace R := R.trans rn
        clear rn
        refine hK.out _ _ R (fun _ => ?_)
        clear hK K
        try simp only [Act.put, List.setIfInBounds_toArray, List.set_cons_zero, List.set_cons_succ]
        refine wpAnyH_ready (rs := [16]) (by kernel_rfl) (by simp) ?_
        refine AllReadyH.cons rfl (fun K hK => ?_) AllReadyH.nil
        go_simp
        refine Calls.mono (cadd_nm c _ D3.nm D4.nm (HT.out _ (HW.out _ R)) C) ?_
        rintro r w5 ⟨v5, rfl, D5, Cn, rn⟩
        clear C
        have C := Cn
        clear Cn
        replace D2 := D2.keepR rn
        replace D3 := D3.keepR rn
        replace D4 := D4.keepR rn
        replace R := R.trans rn
        clear rn
        refine hK.out _ _ R (fun _ => ?_)
        clear hK K
        try simp only [Act.put, List.setIfInBounds_toArray, List.set_cons_zero, List.set_cons_succ]
        clear D3 D4
        refine wpAnyH_ready (rs := [17]) (by kernel_rfl) (by simp) ?_
        refine AllReadyH.cons rfl (fun K hK => ?_) AllReadyH.nil
        go_simp
        refine Calls.mono (csame_calls c D2 D5) ?_
        rintro r w6 ⟨rfl, bS⟩
        replace C := C.keep bS
        have rn := Rn.of_below (c := c) bS
        clear bS
        replace R := R.trans rn
        clear rn
        refine hK.out _ _ R (fun _ => ?_)
        clear hK K
        try simp only [Act.put, List.setIfInBounds_toArray, List.set_cons_zero, List.set_cons_succ]
        clear D2 D5
        refine wpAnyH_ready (rs := [18]) (by kernel_rfl) (by simp) ?_
        refine AllReadyH.cons rfl (fun K hK => ?_) AllReadyH.nil
        go_simp
        refine hK.out _ _ R (fun _ => ?_)
        clear hK K
        try simp only [Act.put, List.setIfInBounds_toArray, List.set_cons_zero, List.set_cons_succ]
        refine wpAnyH_done (by kernel_rfl) ?_ _
        go_wp2_with fail
        go_meet
        exact ⟨_, _, rfl, C, R, HG.out⟩
      case rest =>
        obtain ⟨bV, kV, rfl, Cn, rn, HV⟩ := hcut
        clear C
        have C := Cn
        clear Cn
        replace k0 := rn.cell k0 n0
        replace k1 := rn.cell k1 n0
        replace k2 := rn.cell k2 n0
        replace k3 := rn.cell k3 n1
        replace k4 := rn.cell k4 n1
        replace k5 := rn.cell k5 n1
        replace k6 := rn.cell k6 n2
        replace k7 := rn.cell k7 n2
        replace k8 := rn.cell k8 n2
        replace bw := bw.trans (rn.below hXc.out bw.size)
        clear rn
        generalize wc = W7 at *
        go_wp2_with fail
        refine Calls.mono (HCan.out _ (H1.out.keep bw) (HT.out _ bw)) ?_
        rintro r w7 ⟨_, rfl, ⟨aO, nO, cO, rfl, HNO, hnO, hOO⟩, bN⟩
        clear HNO
        replace k0 := dcarry_cell bN k0
        replace k1 := dcarry_cell bN k1
        replace k2 := dcarry_cell bN k2
        replace k3 := dcarry_cell bN k3
        replace k4 := dcarry_cell bN k4
        replace k5 := dcarry_cell bN k5
        replace k6 := dcarry_cell bN k6
        replace k7 := dcarry_cell bN k7
        replace k8 := dcarry_cell bN k8
        have hcl : c < W7.heap.size := World.block_lt_of_cell? _ _ C.1
        replace C := C.keep bN
        replace bw := nbelow_trans bw bN
        have IO := hOO.1
        have NO : NoC c aO nO := hOO.noC hcl
        have NO2 : NoC w7.heap.size aO nO := hOO.1.noC (Nat.le_refl _)
        have n3 : w7.heap.size ≠ c := by have := bN.size; omega
        have HOO : Hid (w.heap.size ≤ w7.heap.size) := bw.size
        have q0 : w.heap.size ≠ w7.heap.size := by have := World.block_lt_of_cell? _ _ k0; exact Nat.ne_of_lt this
        have q1 : w.heap.size + 1 ≠ w7.heap.size := by have := World.block_lt_of_cell? _ _ k3; exact Nat.ne_of_lt this
        have q2 : w.heap.size + 1 + 1 ≠ w7.heap.size := by have := World.block_lt_of_cell? _ _ k6; exact Nat.ne_of_lt this
        clear hOO bN hcl
        have bA := below_one w7 (.cells #[.bool (cnP x).1, .slice aO nO cO, .int .i64 (cnP x).2.2] 25)
        replace k0 := dcarry_cell bA k0
        replace k1 := dcarry_cell bA k1
        replace k2 := dcarry_cell bA k2
        replace k3 := dcarry_cell bA k3
        replace k4 := dcarry_cell bA k4
        replace k5 := dcarry_cell bA k5
        replace k6 := dcarry_cell bA k6
        replace k7 := dcarry_cell bA k7
        replace k8 := dcarry_cell bA k8
        replace C := C.keep bA
        replace bw := nbelow_trans bw bA
        replace IO := IO.keep bA
        clear bA
        have m0 : (w7.alloc (.cells #[.bool (cnP x).1, .slice aO nO cO, .int .i64 (cnP x).2.2] 25)).cell? ⟨w7.heap.size, 0, none⟩ = some (.bool (cnP x).1) := by go_simp
        have m1 : (w7.alloc (.cells #[.bool (cnP x).1, .slice aO nO cO, .int .i64 (cnP x).2.2] 25)).cell? ⟨w7.heap.size, 1, none⟩ = some (.slice aO nO cO) := by go_simp
        have m2 : (w7.alloc (.cells #[.bool (cnP x).1, .slice aO nO cO, .int .i64 (cnP x).2.2] 25)).cell? ⟨w7.heap.size, 2, none⟩ = some (.int .i64 (cnP x).2.2) := by go_simp
        have f0 : (w7.alloc (.cells #[.bool (cnP x).1, .slice aO nO cO, .int .i64 (cnP x).2.2] 25)).frozen? ⟨w7.heap.size, 0, none⟩ = false := by go_simp
        have f1 : (w7.alloc (.cells #[.bool (cnP x).1, .slice aO nO cO, .int .i64 (cnP x).2.2] 25)).frozen? ⟨w7.heap.size, 1, none⟩ = false := by go_simp
        have f2 : (w7.alloc (.cells #[.bool (cnP x).1, .slice aO nO cO, .int .i64 (cnP x).2.2] 25)).frozen? ⟨w7.heap.size, 2, none⟩ = false := by go_simp
        go_wp2_with fail
        generalize (w7.alloc (.cells #[.bool (cnP x).1, .slice aO nO cO, .int .i64 (cnP x).2.2] 25)) = W8 at *
        generalize w7.heap.size = oo at *
        refine Calls.mono (cput_calls c kV (cnP x).1 aO nO cO (cnP x).2.2 (cnE x) W8 C) ?_
        rintro r w8 ⟨rfl, Cn, rn⟩
        clear C
        have C := Cn
        clear Cn
        replace f0 := rn.frozen m0 n3 f0
        replace f1 := rn.frozen m1 n3 f1
        replace f2 := rn.frozen m2 n3 f2
        replace m0 := rn.cell m0 n3
        replace m1 := rn.cell m1 n3
        replace m2 := rn.cell m2 n3
        replace IO := IO.keepR NO rn
        replace k0 := rn.cell k0 n0
        replace k1 := rn.cell k1 n0
        replace k2 := rn.cell k2 n0
        replace k3 := rn.cell k3 n1
        replace k4 := rn.cell k4 n1
        replace k5 := rn.cell k5 n1
        replace k6 := rn.cell k6 n2
        replace k7 := rn.cell k7 n2
        replace k8 := rn.cell k8 n2
        replace bw := bw.trans (rn.below hXc.out bw.size)
        clear rn
        have rs : Rn oo w8 (((w8.setCell ⟨oo, 0, none⟩ (.bool (cnP x).1)).setCell ⟨oo, 1, none⟩ (.slice aO nO cO)).setCell ⟨oo, 2, none⟩ (.int .i64 (cnP x).2.2)) := by repeat (first | exact Rn.refl _ _ | refine Rn.set ?_ (Or.inr rfl) _)
        replace C := C.keepR rs (fun q => n3 q.symm)
        replace IO := IO.keepR NO2 rs
        have hwo : w.heap.size ≤ oo := HOO.out
        replace bw := bw.trans (rs.below hwo bw.size)
        replace k0 := rs.cell k0 q0
        replace k1 := rs.cell k1 q0
        replace k2 := rs.cell k2 q0
        replace k3 := rs.cell k3 q1
        replace k4 := rs.cell k4 q1
        replace k5 := rs.cell k5 q1
        replace k6 := rs.cell k6 q2
        replace k7 := rs.cell k7 q2
        replace k8 := rs.cell k8 q2
        have k9 : (((w8.setCell ⟨oo, 0, none⟩ (.bool (cnP x).1)).setCell ⟨oo, 1, none⟩ (.slice aO nO cO)).setCell ⟨oo, 2, none⟩ (.int .i64 (cnP x).2.2)).cell? ⟨oo, 0, none⟩ = some (.bool (cnP x).1) := by go_simp
        have k10 : (((w8.setCell ⟨oo, 0, none⟩ (.bool (cnP x).1)).setCell ⟨oo, 1, none⟩ (.slice aO nO cO)).setCell ⟨oo, 2, none⟩ (.int .i64 (cnP x).2.2)).cell? ⟨oo, 1, none⟩ = some (.slice aO nO cO) := by go_simp
        have k11 : (((w8.setCell ⟨oo, 0, none⟩ (.bool (cnP x).1)).setCell ⟨oo, 1, none⟩ (.slice aO nO cO)).setCell ⟨oo, 2, none⟩ (.int .i64 (cnP x).2.2)).cell? ⟨oo, 2, none⟩ = some (.int .i64 (cnP x).2.2) := by go_simp
        clear rs
        go_upto_region 9 with fail
        generalize (((w8.setCell ⟨oo, 0, none⟩ (.bool (cnP x).1)).setCell ⟨oo, 1, none⟩ (.slice aO nO cO)).setCell ⟨oo, 2, none⟩ (.int .i64 (cnP x).2.2)) = W9 at *
        clear m0 m1 m2 f0 f1 f2
        have DO : DyC c W9 (dyV (cnP x).1 aO nO cO (cnP x).2.2) (cnP x) := ⟨aO, nO, cO, rfl, hnO, IO, NO⟩
        clear IO NO NO2 hnO
        generalize hkP : stk kV (cnE x) = kP at *
        have HkP : Hid _ := hkP
        clear hkP
        go_cut [13] from 99 to 107 (fun vv wx => ∃ (bb : Bool) (kk : Int), vv = .bool bb ∧ CAt c wx kk ∧ Rn c W9 wx ∧ Hid (kk = 0 → kP = 0 ∧ bb = true))
        case first =>
          have HG : Hid (stk (stk kP (opE subD x y)) (opE sumD (opP subD x y) y) = 0 → kP = 0 ∧ smB (opP sumD (opP subD x y) y) (cnP x) = true) := fun hk => by
            obtain ⟨hk, e2⟩ := stk_zero hk
            obtain ⟨hk, e1⟩ := stk_zero hk
            exact ⟨hk, ring_back e1 e2 (stk_zero (HkP.out.trans hk)).2⟩
          have R : Rn c W9 (World.drew W9) := (Rn.refl _ _).drew
          have bD : Below W9.heap.size W9 (World.drew W9) := (Below.refl _ _).drew
          have HW : Hid (∀ w', Rn c W9 w' → Below w.heap.size w w') := fun w' r => bw.trans (r.below hXc.out bw.size)
          replace C := C.keep bD
          clear bD
          refine wp_region_held (S := fun w' => Rn c W9 w') (by kernel_rfl) ?_
          change wpAnyH _ _ _ _ _ _ _ _ (World.drew W9)
          generalize World.drew W9 = wd at R C ⊢
          replace DO := DO.keepR R
          refine wpAnyH_take (i := 0) (oi := { dst := some 99, op := Op.move (Operand.tmp 7), type := 27, pos := "own.go:48", after := #[], guard := none }) (v := (.pointer (some ⟨c, 0, none⟩))) rfl (by kernel_rfl) (by kernel_rfl) (by kernel_rfl) (fun _ _ _ h => h) (Or.inl ⟨by rfl, ?y61⟩) R ?r61
          case y61 => (intro ww hS; clear hS; go_simp; try with_reducible rfl)
          try simp only [Act.put, List.setIfInBounds_toArray, List.set_cons_zero, List.set_cons_succ]
          refine wpAnyH_take (i := 1) (oi := { dst := some 100, op := Op.move (Operand.tmp 7), type := 27, pos := "own.go:48", after := #[], guard := none }) (v := (.pointer (some ⟨c, 0, none⟩))) rfl (by kernel_rfl) (by kernel_rfl) (by kernel_rfl) (fun _ _ _ h => h) (Or.inl ⟨by rfl, ?y62⟩) R ?r62
          case y62 => (intro ww hS; clear hS; go_simp; try with_reducible rfl)
          try simp only [Act.put, List.setIfInBounds_toArray, List.set_cons_zero, List.set_cons_succ]
          refine wpAnyH_take (i := 2) (oi := { dst := some 101, op := Op.load 25 (Operand.tmp 3), type := 25, pos := "own.go:48", after := #[], guard := none }) (v := .agg #[.bool s, .slice a len cap, .int .i64 e]) rfl (by kernel_rfl) (by kernel_rfl) (by kernel_rfl) (fun _ _ _ h => h) (Or.inl ⟨by rfl, ?y63⟩) R ?r63
          case y63 => (intro ww hS; have q0 := hS.cell k0 n0; have q1 := hS.cell k1 n0; have q2 := hS.cell k2 n0; clear hS; go_simp; try with_reducible rfl)
          try simp only [Act.put, List.setIfInBounds_toArray, List.set_cons_zero, List.set_cons_succ]
          refine wpAnyH_take (i := 3) (oi := { dst := some 102, op := Op.load 25 (Operand.tmp 4), type := 25, pos := "own.go:48", after := #[], guard := none }) (v := .agg #[.bool t, .slice b len' cap', .int .i64 f]) rfl (by kernel_rfl) (by kernel_rfl) (by kernel_rfl) (fun _ _ _ h => h) (Or.inl ⟨by rfl, ?y64⟩) R ?r64
          case y64 => (intro ww hS; have q3 := hS.cell k3 n1; have q4 := hS.cell k4 n1; have q5 := hS.cell k5 n1; clear hS; go_simp; try with_reducible rfl)
          try simp only [Act.put, List.setIfInBounds_toArray, List.set_cons_zero, List.set_cons_succ]
          refine wpAnyH_take (i := 5) (oi := { dst := some 104, op := Op.load 25 (Operand.tmp 4), type := 25, pos := "own.go:48", after := #[], guard := none }) (v := .agg #[.bool t, .slice b len' cap', .int .i64 f]) rfl (by kernel_rfl) (by kernel_rfl) (by kernel_rfl) (fun _ _ _ h => h) (Or.inl ⟨by rfl, ?y65⟩) R ?r65
          case y65 => (intro ww hS; have q3 := hS.cell k3 n1; have q4 := hS.cell k4 n1; have q5 := hS.cell k5 n1; clear hS; go_simp; try with_reducible rfl)
          try simp only [Act.put, List.setIfInBounds_toArray, List.set_cons_zero, List.set_cons_succ]
          refine wpAnyH_take (i := 7) (oi := { dst := some 106, op := Op.load 25 (Operand.tmp 11), type := 25, pos := "own.go:48", after := #[], guard := none }) (v := .agg #[.bool (cnP x).1, .slice aO nO cO, .int .i64 (cnP x).2.2]) rfl (by kernel_rfl) (by kernel_rfl) (by kernel_rfl) (fun _ _ _ h => h) (Or.inl ⟨by rfl, ?y66⟩) R ?r66
          case y66 => (intro ww hS; have q9 := hS.cell k9 n3; have q10 := hS.cell k10 n3; have q11 := hS.cell k11 n3; clear hS; go_simp; try with_reducible rfl)
          try simp only [Act.put, List.setIfInBounds_toArray, List.set_cons_zero, List.set_cons_succ]
          refine wpAnyH_ready (rs := [4]) (by kernel_rfl) (by simp) ?_
          refine AllReadyH.cons rfl (fun K hK => ?_) AllReadyH.nil
          go_simp
          refine Calls.mono (csub_nm c _ (HA.out c _ hXc.out (HW.out _ R)) (HB.out c _ hXc.out (HW.out _ R)) (HT.out _ (HW.out _ R)) C) ?_
          rintro r w1 ⟨v1, rfl, D1, Cn, rn⟩
          clear C
          have C := Cn
          clear Cn
          replace DO := DO.keepR rn
          replace R := R.trans rn
          clear rn
          refine hK.out _ _ R (fun _ => ?_)
          clear hK K
          try simp only [Act.put, List.setIfInBounds_toArray, List.set_cons_zero, List.set_cons_succ]
          refine wpAnyH_ready (rs := [6]) (by kernel_rfl) (by simp) ?_
          refine AllReadyH.cons rfl (fun K hK => ?_) AllReadyH.nil
          go_simp
          refine Calls.mono (cadd_nm c _ D1.nm (HB.out c _ hXc.out (HW.out _ R)) (HT.out _ (HW.out _ R)) C) ?_
          rintro r w2 ⟨v2, rfl, D2, Cn, rn⟩
          clear C
          have C := Cn
          clear Cn
          replace DO := DO.keepR rn
          replace D1 := D1.keepR rn
          replace R := R.trans rn
          clear rn
          refine hK.out _ _ R (fun _ => ?_)
          clear hK K
          try simp only [Act.put, List.setIfInBounds_toArray, List.set_cons_zero, List.set_cons_succ]
          clear D1
          refine wpAnyH_ready (rs := [8]) (by kernel_rfl) (by simp) ?_
          refine AllReadyH.cons rfl (fun K hK => ?_) AllReadyH.nil
          go_simp
          refine Calls.mono (csame_calls c D2 DO) ?_
          rintro r w3 ⟨rfl, bS⟩
          replace C := C.keep bS
          have rn := Rn.of_below (c := c) bS
          clear bS
          replace R := R.trans rn
          clear rn
          refine hK.out _ _ R (fun _ => ?_)
          clear hK K
          try simp only [Act.put, List.setIfInBounds_toArray, List.set_cons_zero, List.set_cons_succ]
          clear D2 DO
          refine wpAnyH_ready (rs := [9]) (by kernel_rfl) (by simp) ?_
          refine AllReadyH.cons rfl (fun K hK => ?_) AllReadyH.nil
          go_simp
          refine hK.out _ _ R (fun _ => ?_)
          clear hK K
          try simp only [Act.put, List.setIfInBounds_toArray, List.set_cons_zero, List.set_cons_succ]
          refine wpAnyH_done (by kernel_rfl) ?_ _
          go_wp2_with fail
          go_meet
          exact ⟨_, _, rfl, C, R, HG.out⟩
        case rest =>
          obtain ⟨bB, kB, rfl, Cn, rn, HBk⟩ := hcut
          clear C DO
          have C := Cn
          clear Cn k9 k10 k11
          replace k0 := rn.cell k0 n0
          replace k1 := rn.cell k1 n0
          replace k2 := rn.cell k2 n0
          replace k3 := rn.cell k3 n1
          replace k4 := rn.cell k4 n1
          replace k5 := rn.cell k5 n1
          replace k6 := rn.cell k6 n2
          replace k7 := rn.cell k7 n2
          replace k8 := rn.cell k8 n2
          replace bw := bw.trans (rn.below hXc.out bw.size)
          clear rn
          generalize wc = W10 at *
          go_wp2_with fail
          refine Calls.mono (csub_nm c _ (HA.out c _ hXc.out bw) (HB.out c _ hXc.out bw) (HT.out _ bw) C) ?_
          rintro r w10 ⟨_, rfl, ⟨aL, nL, cL, rfl, hnL, IL, NL⟩, Cn, rn⟩
          clear C
          have C := Cn
          clear Cn
          replace k0 := rn.cell k0 n0
          replace k1 := rn.cell k1 n0
          replace k2 := rn.cell k2 n0
          replace k3 := rn.cell k3 n1
          replace k4 := rn.cell k4 n1
          replace k5 := rn.cell k5 n1
          replace k6 := rn.cell k6 n2
          replace k7 := rn.cell k7 n2
          replace k8 := rn.cell k8 n2
          replace bw := bw.trans (rn.below hXc.out bw.size)
          clear rn
          have bA := below_one w10 (.cells #[.bool (opP subD x y).1, .slice aL nL cL, .int .i64 (opP subD x y).2.2] 25)
          replace k0 := dcarry_cell bA k0
          replace k1 := dcarry_cell bA k1
          replace k2 := dcarry_cell bA k2
          replace k3 := dcarry_cell bA k3
          replace k4 := dcarry_cell bA k4
          replace k5 := dcarry_cell bA k5
          replace k6 := dcarry_cell bA k6
          replace k7 := dcarry_cell bA k7
          replace k8 := dcarry_cell bA k8
          replace C := C.keep bA
          replace bw := nbelow_trans bw bA
          replace IL := IL.keep bA
          clear bA NL
          have m0 : (w10.alloc (.cells #[.bool (opP subD x y).1, .slice aL nL cL, .int .i64 (opP subD x y).2.2] 25)).cell? ⟨w10.heap.size, 0, none⟩ = some (.bool (opP subD x y).1) := by go_simp
          have m1 : (w10.alloc (.cells #[.bool (opP subD x y).1, .slice aL nL cL, .int .i64 (opP subD x y).2.2] 25)).cell? ⟨w10.heap.size, 1, none⟩ = some (.slice aL nL cL) := by go_simp
          have m2 : (w10.alloc (.cells #[.bool (opP subD x y).1, .slice aL nL cL, .int .i64 (opP subD x y).2.2] 25)).cell? ⟨w10.heap.size, 2, none⟩ = some (.int .i64 (opP subD x y).2.2) := by go_simp
          go_wp2_with fail
          generalize (w10.alloc (.cells #[.bool (opP subD x y).1, .slice aL nL cL, .int .i64 (opP subD x y).2.2] 25)) = W11 at *
          generalize w10.heap.size = ol at *
          refine Calls.mono (HCmp.out _ (H1.out.keep bw) (H2.out.keep bw) (HT.out _ bw)) ?_
          rintro r w11 ⟨rfl, bN⟩
          replace C := C.keep bN
          replace IL := IL.keep bN
          replace m0 := dcarry_cell bN m0
          replace m1 := dcarry_cell bN m1
          replace m2 := dcarry_cell bN m2
          replace bw := nbelow_trans bw bN
          clear bN k0 k1 k2 k3 k4 k5 k6 k7 k8 n0 n1 n2
          have HF : Hid (stk kB (opE subD x y) = 0 → (bS = true ∧ bM = true ∧ bV = true ∧ bB = true) ∧ cmE (rt x && rt y) = 0 ∧ cmV (rt x && rt y) (fm x) (fm y) = sgnQ (opP subD x y).1 (opP subD x y).2.1) := fun hk => by
            obtain ⟨hk, e1⟩ := stk_zero hk
            obtain ⟨hk, h4⟩ := HBk.out hk
            obtain ⟨hk, -⟩ := stk_zero (HkP.out.trans hk)
            obtain ⟨hk, h3⟩ := HV.out hk
            obtain ⟨hk, h2⟩ := HM.out hk
            exact ⟨⟨(HS.out hk).2, h2, h3, h4⟩, ring_cmp e1⟩
          clear HBk HkP HV HM HS HA HB HD HT HCan HCmp H1 H2
          obtain ⟨hC1, hC2⟩ := C
          generalize stk kB (opE subD x y) = kF at *
          generalize cmV (rt x && rt y) (fm x) (fm y) = cv at *
          generalize cmE (rt x && rt y) = ce at *
          generalize opP subD x y = pl at *
          by_cases hk : kF = 0
          · obtain ⟨⟨rfl, rfl, rfl, rfl⟩, h5, h6⟩ := HF.out hk
            subst hk
            clear HF
            subst h5
            have HSg : Hid _ := qSign_calls pl.1 aL nL cL (wordsOf pl.2.1) pl.2.2 w11 IL (by omega)
            rw [val_words] at HSg
            subst h6
            clear IL
            go_wp2_with fail
            refine Calls.mono HSg.out ?_
            rintro r w12 ⟨rfl, bN⟩
            replace bw := nbelow_trans bw bN
            clear bN HSg
            go_wp2_with fail
            go_ret
            exact ⟨by simp, bw⟩
          · have hkb : (kF == 0) = false := by simp [hk]
            have hkn : (kF != 0) = true := by simp [hk]
            clear HF
            go_wp2_with fail
            go_ret
            exact ⟨by simp, bw⟩

end

end Go.Proofs.YticjhheceoeilaaDoor
