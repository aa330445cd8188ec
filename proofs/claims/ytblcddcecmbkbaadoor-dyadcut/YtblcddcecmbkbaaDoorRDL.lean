/- What a dyadic number is worth, in units of a power of 2: sums, products, order; the one form is one. What is cut down and up of a number: the next two of so many bits. The statement DyadCut. -/
import Derived.Test.YtblcddcecmbkbaaDoorDCmp2
import Derived.Test.YtblcddcecmbkbaaDoorRDE
import Derived.Test.YtblcddcecmbkbaaDoorRDG
import Derived.Test.YtblcddcecmbkbaaDoorRDD
import Derived.Test.YtblcddcecmbkbaaDoorDBeg
namespace Go.Proofs.YtblcddcecmbkbaaDoor

section
open Go.RowKit

/-- The order of two amounts is that of their multiples of one unit. -/
theorem amt_scaled (mx : Nat) (ex : Int) (my : Nat) (ey : Int) (hx : mx ≠ 0) (hy : my ≠ 0) (K : Nat) (hex : -(K : Int) ≤ ex) (hey : -(K : Int) ≤ ey) : amtD mx ex my ey = cmpN (mx * 2 ^ (ex + (K : Int)).toNat) (my * 2 ^ (ey + (K : Int)).toNat) := by
  obtain ⟨i, hi⟩ : ∃ i : Nat, ex + (K : Int) = (i : Int) := ⟨(ex + (K : Int)).toNat, by omega⟩
  obtain ⟨j, hj⟩ : ∃ j : Nat, ey + (K : Int) = (j : Int) := ⟨(ey + (K : Int)).toNat, by omega⟩
  rw [hi, hj, Int.toNat_natCast, Int.toNat_natCast]
  have b1 := blen_mul mx i hx
  have b2 := blen_mul my j hy
  have nx : mx * 2 ^ i ≠ 0 := Nat.mul_ne_zero hx (Nat.pos_iff_ne_zero.1 (Nat.two_pow_pos i))
  have ny : my * 2 ^ j ≠ 0 := Nat.mul_ne_zero hy (Nat.pos_iff_ne_zero.1 (Nat.two_pow_pos j))
  unfold amtD
  by_cases ht : ex + (blen mx : Int) - 1 = ey + (blen my : Int) - 1
  · rw [if_neg (by omega)]
    by_cases hl : ex < ey
    · rw [if_pos hl]
      obtain ⟨d, hd⟩ : ∃ d : Nat, ey - ex = (d : Int) := ⟨(ey - ex).toNat, by omega⟩
      rw [hd, Int.toNat_natCast, show j = d + i by omega, Nat.pow_add, ← Nat.mul_assoc]
      unfold cmpN
      have hp := Nat.two_pow_pos i
      rcases Nat.lt_trichotomy (my * 2 ^ d) mx with q | q | q
      · have q2 := (Nat.mul_lt_mul_right hp).2 q
        rw [if_pos q, if_neg (by omega), if_pos q2]; rfl
      · rw [q]; simp
      · have q2 := (Nat.mul_lt_mul_right hp).2 q
        rw [if_neg (by omega), if_pos q, if_pos q2]
    · rw [if_neg hl]
      obtain ⟨d, hd⟩ : ∃ d : Nat, ex - ey = (d : Int) := ⟨(ex - ey).toNat, by omega⟩
      rw [hd, Int.toNat_natCast, show i = d + j by omega, Nat.pow_add, ← Nat.mul_assoc]
      unfold cmpN
      have hp := Nat.two_pow_pos j
      rcases Nat.lt_trichotomy (mx * 2 ^ d) my with q | q | q
      · have q2 := (Nat.mul_lt_mul_right hp).2 q
        rw [if_pos q, if_pos q2]
      · rw [q]; simp
      · have q2 := (Nat.mul_lt_mul_right hp).2 q
        rw [if_neg (by omega), if_pos q, if_neg (by omega), if_pos q2]
  · rw [if_pos ht]
    unfold Lib.compareInt cmpN
    have key : ∀ u v : Nat, u ≠ 0 → v ≠ 0 → blen u < blen v → u < v := fun u v hu hv hb => by
      have h1 := lt_blen u
      have h2 := blen_ge v hv
      have h3 : 2 ^ blen u ≤ 2 ^ (blen v - 1) := Nat.pow_le_pow_right (by decide) (by omega)
      omega
    rcases Int.lt_or_gt_of_ne ht with q | q
    · have := key _ _ nx ny (by omega)
      rw [if_pos q, if_pos this]
    · have := key _ _ ny nx (by omega)
      rw [if_neg (by omega), if_pos q, if_neg (by omega), if_pos this]
def sI (s : Bool) : Int := if s = true then -1 else 1
/-- A number in units of 2^E. -/
def vI (p : Bool × Nat × Int) (E : Int) : Int := sI p.1 * ((p.2.1 * 2 ^ (p.2.2 - E).toNat : Nat) : Int)
theorem vI_zero {p : Bool × Nat × Int} (h : p.2.1 = 0) (E : Int) : vI p E = 0 := by unfold vI; rw [h, Nat.zero_mul]; simp
theorem vI_form (s : Bool) (m : Nat) (e E : Int) (h : E ≤ e) : vI (formD s m e) E = sI s * ((m * 2 ^ (e - E).toNat : Nat) : Int) := by
  by_cases h0 : m = 0
  · rw [h0, form_zero, vI_zero rfl, Nat.zero_mul]; simp
  · have h2 := (odd_part h0).2
    rw [form_pos s h0]
    unfold vI
    show sI s * ((m / 2 ^ tz m * 2 ^ (e + (tz m : Int) - E).toNat : Nat) : Int) = _
    rw [show (e + (tz m : Int) - E).toNat = tz m + (e - E).toNat by omega, Nat.pow_add, ← Nat.mul_assoc, h2]
theorem vI_neg (p : Bool × Nat × Int) (E : Int) : vI (negD p) E = - vI p E := by
  by_cases h0 : p.2.1 = 0
  · rw [vI_zero (p := negD p) h0, vI_zero h0]; rfl
  · have hn1 : (negD p).1 = !p.1 := by unfold negD; rw [decide_eq_false h0]; simp
    unfold vI
    rw [hn1]
    show sI (!p.1) * ((p.2.1 * 2 ^ (p.2.2 - E).toNat : Nat) : Int) = _
    have : sI (!p.1) = - sI p.1 := by unfold sI; cases p.1 <;> rfl
    rw [this, Int.neg_mul]
theorem vI_sum (x y : Bool × Nat × Int) (E : Int) (hx : E ≤ x.2.2) (hy : E ≤ y.2.2) : vI (sumD x y) E = vI x E + vI y E := by
  by_cases h1 : x.2.1 = 0
  · have : sumD x y = y := by unfold sumD; rw [if_pos h1]
    rw [this, vI_zero h1, Int.zero_add]
  · by_cases h2 : y.2.1 = 0
    · have : sumD x y = x := by unfold sumD; rw [if_neg h1, if_pos h2]
      rw [this, vI_zero h2, Int.add_zero]
    · obtain ⟨ee, hee⟩ : ∃ ee : Int, min x.2.2 y.2.2 = ee := ⟨_, rfl⟩
      obtain ⟨i, hi⟩ : ∃ i : Nat, x.2.2 - ee = (i : Int) := ⟨(x.2.2 - ee).toNat, by omega⟩
      obtain ⟨j, hj⟩ : ∃ j : Nat, y.2.2 - ee = (j : Int) := ⟨(y.2.2 - ee).toNat, by omega⟩
      obtain ⟨k, hk⟩ : ∃ k : Nat, ee - E = (k : Int) := ⟨(ee - E).toNat, by omega⟩
      have v1 : vI x E = sI x.1 * ((x.2.1 * 2 ^ i * 2 ^ k : Nat) : Int) := by
        unfold vI
        rw [show (x.2.2 - E).toNat = i + k by omega, Nat.pow_add, ← Nat.mul_assoc]
      have v2 : vI y E = sI y.1 * ((y.2.1 * 2 ^ j * 2 ^ k : Nat) : Int) := by
        unfold vI
        rw [show (y.2.2 - E).toNat = j + k by omega, Nat.pow_add, ← Nat.mul_assoc]
      rw [plus_q x y h1 h2 ee hee i hi j hj, v1, v2]
      generalize x.2.1 * 2 ^ i = M
      generalize y.2.1 * 2 ^ j = N
      have hkk : (ee - E).toNat = k := by omega
      by_cases hs : x.1 = y.1
      · rw [if_pos hs, vI_form _ _ _ _ (by omega), hkk, hs, ← Int.mul_add, Nat.add_mul]
        rfl
      · have hsn : sI y.1 = - sI x.1 := by unfold sI; cases hx1 : x.1 <;> cases hy1 : y.1 <;> rw [hx1, hy1] at hs <;> first | exact absurd rfl hs | rfl
        rw [if_neg hs]
        by_cases hc : N ≤ M
        · rw [if_pos hc, vI_form _ _ _ _ (by omega), hkk, hsn, Int.neg_mul, ← Int.sub_eq_add_neg, ← Int.mul_sub, Nat.sub_mul, Int.ofNat_sub (Nat.mul_le_mul_right _ hc)]
        · rw [if_neg hc, vI_form _ _ _ _ (by omega), hkk, hsn, Int.neg_mul, Int.neg_mul, Nat.sub_mul, Int.ofNat_sub (Nat.mul_le_mul_right _ (by omega)), Int.mul_sub, Int.neg_sub, Int.sub_eq_add_neg]
theorem vI_mul (x y : Bool × Nat × Int) (E F : Int) (hx : E ≤ x.2.2) (hy : F ≤ y.2.2) : vI (mulD x y) (E + F) = vI x E * vI y F := by
  unfold mulD
  rw [vI_form _ _ _ _ (by omega)]
  unfold vI
  rw [show (x.2.2 + y.2.2 - (E + F)).toNat = (x.2.2 - E).toNat + (y.2.2 - F).toNat by omega, Nat.pow_add]
  have hs : sI (!(x.1 == y.1)) = sI x.1 * sI y.1 := by unfold sI; cases x.1 <;> cases y.1 <;> rfl
  rw [hs, show x.2.1 * y.2.1 * (2 ^ (x.2.2 - E).toNat * 2 ^ (y.2.2 - F).toNat) = x.2.1 * 2 ^ (x.2.2 - E).toNat * (y.2.1 * 2 ^ (y.2.2 - F).toNat) by rw [Nat.mul_assoc, Nat.mul_assoc, ← Nat.mul_assoc y.2.1, ← Nat.mul_assoc (2 ^ (x.2.2 - E).toNat), Nat.mul_comm y.2.1], Int.natCast_mul, Int.mul_assoc, Int.mul_assoc]
  congr 1
  rw [← Int.mul_assoc, Int.mul_comm (sI y.1), Int.mul_assoc]
/-- The order of two numbers is that of what they are worth. -/
theorem vI_cmp (x y : Bool × Nat × Int) (K : Nat) (hx : -(K : Int) ≤ x.2.2) (hy : -(K : Int) ≤ y.2.2) : cmpD x y = Lib.compareInt (vI x (-(K : Int))) (vI y (-(K : Int))) := by
  have key : ∀ p : Bool × Nat × Int, p.2.1 ≠ 0 → ((p.2.1 * 2 ^ (p.2.2 - -(K : Int)).toNat : Nat) : Int) > 0 := fun p h => by
    have := Nat.mul_pos (Nat.pos_of_ne_zero h) (Nat.two_pow_pos (p.2.2 - -(K : Int)).toNat)
    omega
  by_cases h1 : x.2.1 = 0
  · rw [vI_zero h1]
    by_cases h2 : y.2.1 = 0
    · rw [vI_zero h2]
      unfold cmpD sgnD
      rw [if_pos h1, if_pos h2]
      simp [h1, Lib.compareInt]
    · have hp := key y h2
      unfold cmpD sgnD vI sI Lib.compareInt
      rw [if_pos h1, if_neg h2]
      generalize y.2.1 * 2 ^ (y.2.2 - -(K : Int)).toNat = B at *
      cases y.1 <;> simp <;> omega
  · have hp1 := key x h1
    by_cases h2 : y.2.1 = 0
    · rw [vI_zero h2]
      unfold cmpD sgnD vI sI Lib.compareInt
      rw [if_neg h1, if_pos h2]
      generalize x.2.1 * 2 ^ (x.2.2 - -(K : Int)).toNat = B at *
      cases x.1 <;> simp <;> omega
    · have hp2 := key y h2
      have ha := amt_scaled x.2.1 x.2.2 y.2.1 y.2.2 h1 h2 K hx hy
      unfold cmpD
      rw [ha]
      unfold sgnD vI sI
      rw [if_neg h1, if_neg h2, show x.2.2 - -(K : Int) = x.2.2 + (K : Int) by omega, show y.2.2 - -(K : Int) = y.2.2 + (K : Int) by omega]
      rw [show x.2.2 - -(K : Int) = x.2.2 + (K : Int) by omega] at hp1
      rw [show y.2.2 - -(K : Int) = y.2.2 + (K : Int) by omega] at hp2
      generalize x.2.1 * 2 ^ (x.2.2 + (K : Int)).toNat = A at *
      generalize y.2.1 * 2 ^ (y.2.2 + (K : Int)).toNat = B at *
      unfold Lib.compareInt cmpN
      cases x.1 <;> cases y.1 <;> simp <;> (repeat' split) <;> omega
/-- A number other than 0 in its one form is told by what it is worth. -/
theorem vI_inj (x y : Bool × Nat × Int) (cx : CanD x) (cy : CanD y) (E : Int) (hx : E ≤ x.2.2) (hy : E ≤ y.2.2) (h : vI x E = vI y E) : x = y := by
  have pos : ∀ p : Bool × Nat × Int, p.2.1 ≠ 0 → 0 < p.2.1 * 2 ^ (p.2.2 - E).toNat := fun p q => Nat.mul_pos (Nat.pos_of_ne_zero q) (Nat.two_pow_pos _)
  by_cases h1 : x.2.1 = 0
  · have hz : x = (false, 0, 0) := by
      rcases cx with q | q
      · exact q
      · rw [h1] at q; exact absurd q (by decide)
    by_cases h2 : y.2.1 = 0
    · rcases cy with q | q
      · rw [hz, q]
      · rw [h2] at q; exact absurd q (by decide)
    · rw [vI_zero h1] at h
      have := pos y h2
      unfold vI sI at h
      exfalso
      generalize y.2.1 * 2 ^ (y.2.2 - E).toNat = B at *
      cases hy1 : y.1 <;> rw [hy1] at h <;> simp at h <;> omega
  · by_cases h2 : y.2.1 = 0
    · rw [vI_zero h2] at h
      have := pos x h1
      unfold vI sI at h
      exfalso
      generalize x.2.1 * 2 ^ (x.2.2 - E).toNat = B at *
      cases hx1 : x.1 <;> rw [hx1] at h <;> simp at h <;> omega
    · have o1 : x.2.1 % 2 = 1 := by
        rcases cx with q | q
        · rw [q] at h1; exact absurd rfl h1
        · exact q
      have o2 : y.2.1 % 2 = 1 := by
        rcases cy with q | q
        · rw [q] at h2; exact absurd rfl h2
        · exact q
      have p1 := pos x h1
      have p2 := pos y h2
      have hs : x.1 = y.1 ∧ x.2.1 * 2 ^ (x.2.2 - E).toNat = y.2.1 * 2 ^ (y.2.2 - E).toNat := by
        unfold vI sI at h
        generalize x.2.1 * 2 ^ (x.2.2 - E).toNat = A at *
        generalize y.2.1 * 2 ^ (y.2.2 - E).toNat = B at *
        cases hx1 : x.1 <;> cases hy1 : y.1 <;> rw [hx1, hy1] at h <;> simp at h <;> refine ⟨?_, ?_⟩ <;> first | rfl | omega
      obtain ⟨i, hi⟩ : ∃ i : Nat, x.2.2 - E = (i : Int) := ⟨(x.2.2 - E).toNat, by omega⟩
      obtain ⟨j, hj⟩ : ∃ j : Nat, y.2.2 - E = (j : Int) := ⟨(y.2.2 - E).toNat, by omega⟩
      have hm := hs.2
      rw [hi, hj, Int.toNat_natCast, Int.toNat_natCast] at hm
      have odd_eq : ∀ (u v a b : Nat), u % 2 = 1 → v % 2 = 1 → u * 2 ^ a = v * 2 ^ b → a ≤ b := fun u v a b ou ov e => by
        rcases Nat.lt_or_ge b a with q | q
        · exfalso
          obtain ⟨d, rfl⟩ : ∃ d, a = b + 1 + d := ⟨a - b - 1, by omega⟩
          have e2 : u * 2 ^ (b + 1 + d) = 2 * (u * 2 ^ d) * 2 ^ b := by
            rw [Nat.pow_add, Nat.pow_succ, show u * (2 ^ b * 2 * 2 ^ d) = 2 * (u * 2 ^ d) * 2 ^ b by
              rw [Nat.mul_assoc (2 ^ b), ← Nat.mul_assoc u, Nat.mul_comm u (2 ^ b), Nat.mul_assoc (2 ^ b), Nat.mul_comm (2 ^ b), Nat.mul_left_comm u 2]]
          rw [e2] at e
          have := Nat.eq_of_mul_eq_mul_right (Nat.two_pow_pos b) e
          omega
        · exact q
      have hij : i = j := Nat.le_antisymm (odd_eq _ _ _ _ o1 o2 hm) (odd_eq _ _ _ _ o2 o1 hm.symm)
      subst hij
      have := Nat.eq_of_mul_eq_mul_right (Nat.two_pow_pos i) hm
      obtain ⟨xs, xm, xe⟩ := x
      obtain ⟨ys, ym, ye⟩ := y
      have e1 : xs = ys := hs.1
      have e2 : xm = ym := this
      have e3 : xe = ye := by have a1 : xe - E = (i : Int) := hi; have a2 : ye - E = (i : Int) := hj; omega
      rw [e1, e2, e3]
/-- What comes of numbers is worth whole units, too. -/
theorem sum_low (x y : Bool × Nat × Int) (E : Int) (hE : E ≤ 0) (hx : E ≤ x.2.2) (hy : E ≤ y.2.2) : E ≤ (sumD x y).2.2 := by
  have hf : ∀ s m e, E ≤ e → E ≤ (formD s m e).2.2 := fun s m e h => by
    by_cases h0 : m = 0
    · rw [h0, form_zero]; exact hE
    · rw [form_pos s h0]; show E ≤ e + (tz m : Int); omega
  have ha : ∀ s A t b e, E ≤ e → E ≤ (addHi s A t b e).2.2 := fun s A t b e h => by
    unfold addHi
    split
    · exact hf _ _ _ h
    · split <;> exact hf _ _ _ h
  unfold sumD
  split
  · exact hy
  · split
    · exact hx
    · split
      · exact ha _ _ _ _ _ hx
      · exact ha _ _ _ _ _ hy
theorem mul_low (x y : Bool × Nat × Int) (E F : Int) (hE : E + F ≤ 0) (hx : E ≤ x.2.2) (hy : F ≤ y.2.2) : E + F ≤ (mulD x y).2.2 := by
  unfold mulD
  by_cases h0 : x.2.1 * y.2.1 = 0
  · rw [h0, form_zero]; exact hE
  · rw [form_pos _ h0]; show E + F ≤ x.2.2 + y.2.2 + (tz (x.2.1 * y.2.1) : Int); omega

end

section
open Go.RowKit

theorem sumD_can {x y : Bool × Nat × Int} (hx : CanD x) (hy : CanD y) : CanD (sumD x y) := by
  have ha : ∀ s A t b e, CanD (addHi s A t b e) := fun s A t b e => by
    unfold addHi
    split
    · exact form_can _ _ _
    · split <;> exact form_can _ _ _
  unfold sumD
  split
  · exact hy
  · split
    · exact hx
    · split <;> exact ha _ _ _ _ _
theorem cmp_self (x : Bool × Nat × Int) : cmpD x x = 0 := by
  rw [vI_cmp x x (-(x.2.2)).toNat (by omega) (by omega)]
  unfold Lib.compareInt
  simp
theorem cut_parts (x : Bool × Nat × Int) (ho : x.2.1 % 2 = 1) (j p : Nat) (hj : 0 < j) (hp : 0 < p) (hb : blen x.2.1 = p + j) :
    cmpD (formD x.1 (x.2.1 / 2 ^ j + (if x.1 = true then 1 else 0)) (x.2.2 + (j : Int))) x = -1 ∧
    cmpD x (formD x.1 (x.2.1 / 2 ^ j + (if x.1 = true then 0 else 1)) (x.2.2 + (j : Int))) = -1 ∧
    sumD (formD x.1 (x.2.1 / 2 ^ j + (if x.1 = true then 0 else 1)) (x.2.2 + (j : Int))) (negD (formD x.1 (x.2.1 / 2 ^ j + (if x.1 = true then 1 else 0)) (x.2.2 + (j : Int)))) = (false, 1, x.2.2 + (j : Int)) ∧
    (∀ a : Nat, a ≤ 1 → blen (formD x.1 (x.2.1 / 2 ^ j + a) (x.2.2 + (j : Int))).2.1 ≤ p) ∧ 0 < x.2.1 / 2 ^ j := by
  obtain ⟨s, M, e⟩ := x
  simp only at *
  have hd := Nat.div_add_mod M (2 ^ j)
  have hlt := Nat.mod_lt M (Nat.two_pow_pos j)
  have hr0 : M % 2 ^ j ≠ 0 := by
    obtain ⟨k, rfl⟩ : ∃ k, j = k + 1 := ⟨j - 1, by omega⟩
    intro q
    have h2k : 2 ^ (k + 1) = 2 * 2 ^ k := by rw [Nat.pow_succ, Nat.mul_comm]
    have : M % 2 ^ (k + 1) % 2 = 1 := by rw [h2k, Nat.mod_mul_right_mod]; exact ho
    rw [q] at this
    exact absurd this (by decide)
  have hM1 : M < 2 ^ p * 2 ^ j := by have := lt_blen M; rw [hb, Nat.pow_add] at this; exact this
  have hM2 : 2 ^ (p + j - 1) ≤ M := by have := blen_ge M (by omega); rw [hb] at this; exact this
  have hq1 : M / 2 ^ j < 2 ^ p := (Nat.div_lt_iff_lt_mul (Nat.two_pow_pos j)).2 hM1
  have hq0 : 0 < M / 2 ^ j := by
    have h1 : 2 ^ j ≤ M := Nat.le_trans (Nat.pow_le_pow_right (by decide) (by omega)) hM2
    exact Nat.div_pos h1 (Nat.two_pow_pos j)
  generalize hr : M % 2 ^ j = r at *
  generalize hq : M / 2 ^ j = q at *
  have hMe : M = q * 2 ^ j + r := by rw [Nat.mul_comm]; omega
  obtain ⟨K, hK⟩ : ∃ K : Nat, -(K : Int) ≤ e ∧ -(K : Int) ≤ 0 := ⟨(-e).toNat, by omega, by omega⟩
  obtain ⟨d, hdd⟩ : ∃ d : Nat, e - -(K : Int) = (d : Int) := ⟨(e - -(K : Int)).toNat, by omega⟩
  have vx : vI (s, M, e) (-(K : Int)) = sI s * ((M * 2 ^ d : Nat) : Int) := by
    unfold vI
    show sI s * ((M * 2 ^ (e - -(K : Int)).toNat : Nat) : Int) = _
    rw [hdd, Int.toNat_natCast]
  have vc : ∀ a : Nat, vI (formD s (q + a) (e + (j : Int))) (-(K : Int)) = sI s * (((q + a) * 2 ^ j * 2 ^ d : Nat) : Int) := fun a => by
    rw [vI_form _ _ _ _ (by omega), show (e + (j : Int) - -(K : Int)).toNat = j + d by omega, Nat.pow_add, ← Nat.mul_assoc]
  have lowc : ∀ a : Nat, -(K : Int) ≤ (formD s (q + a) (e + (j : Int))).2.2 := fun a => by
    rw [form_pos s (show q + a ≠ 0 by omega)]
    show _ ≤ e + (j : Int) + (tz (q + a) : Int)
    omega
  have hdp := Nat.two_pow_pos d
  have h1 : q * 2 ^ j * 2 ^ d < M * 2 ^ d := (Nat.mul_lt_mul_right hdp).2 (by omega)
  have h2 : M * 2 ^ d < (q + 1) * 2 ^ j * 2 ^ d := (Nat.mul_lt_mul_right hdp).2 (by rw [Nat.add_mul, Nat.one_mul]; omega)
  have h3 : (q + 1) * 2 ^ j * 2 ^ d = q * 2 ^ j * 2 ^ d + 2 ^ j * 2 ^ d := by rw [Nat.add_mul, Nat.add_mul, Nat.one_mul]
  refine ⟨?_, ?_, ?_, ?_, hq0⟩
  · rw [vI_cmp _ _ K (lowc _) hK.1, vc, vx]
    unfold Lib.compareInt sI
    cases s
    · simp only [Bool.false_eq_true, if_false, Nat.add_zero]
      rw [if_pos (by omega)]
    · simp only [if_true]
      rw [if_pos (by omega)]
  · rw [vI_cmp _ _ K hK.1 (lowc _), vc, vx]
    unfold Lib.compareInt sI
    cases s
    · simp only [Bool.false_eq_true, if_false]
      rw [if_pos (by omega)]
    · simp only [if_true, Nat.add_zero]
      rw [if_pos (by omega)]
  · have cs : CanD (sumD (formD s (q + (if s = true then 0 else 1)) (e + (j : Int))) (negD (formD s (q + (if s = true then 1 else 0)) (e + (j : Int))))) := sumD_can (form_can _ _ _) (negD_can (form_can _ _ _))
    refine vI_inj _ _ cs (Or.inr rfl) (-(K : Int)) (sum_low _ _ _ hK.2 (lowc _) (lowc _)) (by show -(K : Int) ≤ e + (j : Int); omega) ?_
    rw [vI_sum (formD s (q + (if s = true then 0 else 1)) (e + (j : Int))) (negD (formD s (q + (if s = true then 1 else 0)) (e + (j : Int)))) (-(K : Int)) (lowc _) (lowc _), vI_neg, vc, vc]
    have vo : vI (false, 1, e + (j : Int)) (-(K : Int)) = ((2 ^ j * 2 ^ d : Nat) : Int) := by
      unfold vI sI
      show (if false = true then (-1 : Int) else 1) * ((1 * 2 ^ (e + (j : Int) - -(K : Int)).toNat : Nat) : Int) = _
      rw [if_neg (by decide), Int.one_mul, Nat.one_mul, show (e + (j : Int) - -(K : Int)).toNat = j + d by omega, Nat.pow_add]
    rw [vo]
    unfold sI
    cases s
    · simp only [Bool.false_eq_true, if_false, Nat.add_zero]
      omega
    · simp only [if_true, Nat.add_zero]
      omega
  · intro a ha
    by_cases hf : q + a < 2 ^ p
    · exact (blen_le _ _).2 (Nat.lt_of_le_of_lt (form_amount_le _ _ _) hf)
    · have hqa : q + a = 2 ^ p := by omega
      rw [hqa]
      have hne : (2 : Nat) ^ p ≠ 0 := by have := Nat.two_pow_pos p; omega
      have o1 := (odd_part hne).1
      have o2 := (odd_part hne).2
      have hone : 2 ^ p / 2 ^ tz (2 ^ p) = 1 := by
        generalize 2 ^ p / 2 ^ tz (2 ^ p) = u at *
        generalize tz (2 ^ p) = t at *
        rcases Nat.lt_or_ge t p with c | c
        · exfalso
          obtain ⟨k, rfl⟩ : ∃ k, p = t + 1 + k := ⟨p - t - 1, by omega⟩
          have e2 : 2 ^ (t + 1 + k) = 2 * 2 ^ k * 2 ^ t := by rw [Nat.pow_add, Nat.pow_succ, Nat.mul_assoc, Nat.mul_comm]
          rw [e2] at o2
          have := Nat.eq_of_mul_eq_mul_right (Nat.two_pow_pos t) o2
          omega
        · have h4 : 2 ^ p ≤ 2 ^ t := Nat.pow_le_pow_right (by decide) c
          have h5 : u * 2 ^ t ≤ 1 * 2 ^ t := by rw [o2, Nat.one_mul]; exact h4
          have := Nat.le_of_mul_le_mul_right h5 (Nat.two_pow_pos t)
          omega
      rw [form_pos s hne]
      show blen (2 ^ p / 2 ^ tz (2 ^ p)) ≤ p
      rw [hone]
      exact (blen_le _ _).2 (by have := Nat.pow_le_pow_right (show 0 < 2 by decide) hp; omega)

end

section
open Go.RowKit

theorem ct_bad {s : Bool} {m : Nat} {e i : Int} {up : Bool} (h : ctE s m e i up ≠ 0) : (ctP s m e i up).2.1 = 0 := by
  cases hb : ctB m e i with
  | false => rw [(ct_no hb).2]
  | true =>
    obtain ⟨e1, e2⟩ := ct_yes (s := s) (up := up) hb
    rw [e1] at h
    rw [e2]
    unfold roomE at h
    unfold roomP
    cases q : roomB (cutD (formD s m e) i up) with
    | true => rw [q, if_pos rfl] at h; exact absurd rfl h
    | false => rfl
theorem ct_good {s : Bool} {m : Nat} {e i : Int} {up : Bool} (h : ctE s m e i up = 0) : rightB m e = true ∧ 1 ≤ i ∧ ctP s m e i up = cutD (formD s m e) i up ∧ rightB (cutD (formD s m e) i up).2.1 (cutD (formD s m e) i up).2.2 = true := by
  cases hb : ctB m e i with
  | false => rw [(ct_no hb).1] at h; exact absurd h (by decide)
  | true =>
    obtain ⟨e1, e2⟩ := ct_yes (s := s) (up := up) hb
    rw [e1] at h
    have hr : roomB (cutD (formD s m e) i up) = true := by
      unfold roomE at h
      cases q : roomB (cutD (formD s m e) i up) with
      | true => rfl
      | false => rw [q, if_neg (by decide)] at h; exact absurd h (by decide)
    unfold ctB at hb
    rw [Bool.and_eq_true] at hb
    refine ⟨hb.1, of_decide_eq_true hb.2, ?_, hr⟩
    rw [e2]; unfold roomP; rw [hr, if_pos rfl]
theorem cutD_can {x : Bool × Nat × Int} (hx : CanD x) (i : Int) (up : Bool) : CanD (cutD x i up) := by
  unfold cutD
  split
  · exact hx
  · exact form_can _ _ _
theorem one_words (w : World) : IsW (w.alloc (.cells #[.int .u64 1] 42)) (some ⟨w.heap.size, 0, none⟩) 1 1 (wordsOf 1) := by
  have e1 : wordsOf 1 = [1] := by unfold wordsOf; simp [wordsOf]
  rw [e1]
  refine ⟨rfl, ?_, ⟨Nat.le_refl _, fun q => by cases q⟩, fun j hj => ?_⟩
  · intro x hx; simp at hx; subst hx; exact ⟨by decide, by decide⟩
  · obtain rfl : j = 0 := by omega
    exact ⟨w.heap.size, 0, rfl, by simp, by go_simp⟩
theorem ft_ok {m : Nat} {e : Int} (hr : rightB m e = true) (h0 : m ≠ 0) : ftE m e = 0 := by unfold ftE; rw [hr, if_pos rfl, if_neg h0]
theorem ft_zero {m : Nat} {e : Int} (hr : rightB m e = true) (h0 : m = 0) : ftE m e = 5 := by unfold ftE; rw [hr, if_pos rfl, if_pos h0]

set_option maxRecDepth 100000 in
set_option maxHeartbeats 4000000 in
theorem few_calls (p : Bool × Nat × Int) (a : Option Addr) (n c : Nat) (i : Int) (w : World) (h : IsW w a n c (wordsOf p.2.1)) (hn : n ≤ 1024) (hr : rightB p.2.1 p.2.2 = true) (hb : (blen p.2.1 : Int) ≤ i) (hT : Tab w) :
    Calls Tryd.prog 24 #[dyV p.1 a n c p.2.2, .int .i64 i] w fun r w' => r = .returned (.bool true) ∧ Below w.heap.size w w' := by
  have bw := below_one w (.cells #[.bool p.1, .slice a n c, .int .i64 p.2.2] 25)
  have HS : Hid _ := pSize_calls p.1 a n c (wordsOf p.2.1) p.2.2 _ (h.keep bw) (by omega) (hT.kept bw)
  rw [val_words] at HS
  have k1 : (w.alloc (.cells #[.bool p.1, .slice a n c, .int .i64 p.2.2] 25)).cell? ⟨w.heap.size, 1, none⟩ = some (.slice a n c) := by go_simp
  have hnl := h.1
  by_cases h0 : p.2.1 = 0
  · have e1 := ft_zero hr h0
    have e2 : szV p.2.1 p.2.2 = 0 := by unfold szV; rw [e1]; rfl
    rw [e1, e2] at HS
    have hn0 : n = 0 := by rw [hnl, h0, words_zero]; rfl
    subst hn0
    clear h0 e1 e2 hr hb hT h hn hnl
    go_enter Tryd.func24, Tryd.ntmps24
    go_wp2_with fail
    refine Calls.mono HS.out ?_
    rintro r w1 ⟨rfl, b1⟩
    replace bw := nbelow_trans bw b1
    replace k1 := dcarry_cell b1 k1
    clear b1
    go_wp2_with fail
    go_ret
    exact ⟨rfl, bw⟩
  · have e1 := ft_ok hr h0
    have e2 : szV p.2.1 p.2.2 = (blen p.2.1 : Int) - (tz p.2.1 : Int) := by unfold szV; rw [e1]; rfl
    rw [e1, e2] at HS
    have hle : (blen p.2.1 : Int) - (tz p.2.1 : Int) ≤ i := by omega
    generalize (blen p.2.1 : Int) - (tz p.2.1 : Int) = sz at *
    clear h0 e1 e2 hr hb hT h hn hnl
    go_enter Tryd.func24, Tryd.ntmps24
    go_wp2_with fail
    refine Calls.mono HS.out ?_
    rintro r w1 ⟨rfl, b1⟩
    replace bw := nbelow_trans bw b1
    replace k1 := dcarry_cell b1 k1
    clear b1
    go_wp2_with fail
    go_ret
    exact ⟨rfl, bw⟩

set_option maxRecDepth 100000 in
set_option maxHeartbeats 4000000 in
theorem dcu_bb (s : Bool) (a : Option Addr) (len cap : Nat) (xs : List Int) (e : Int) (i : Int) (w : World) (h : IsW w a len cap xs) (hm : len ≤ 17592186044000) (hi : -9223372036854775808 ≤ i ∧ i ≤ 9223372036854775807) (hT : Tab w) (hl : ctE s (val xs) e i false ≠ 0) (hh : ctE s (val xs) e i true ≠ 0) :
    Calls Tryd.prog 6 #[dyV s a len cap e, .int .i64 i] w fun r w' => r = .returned (.bool true) ∧ Below w.heap.size w w' := by
  have hT0 : Hid (∀ w', Below w.heap.size w w' → Tab w') := fun w' hb => hT.kept hb
  have H1 : Hid (IsW w a len cap xs) := h
  have HL : Hid _ := fun W g t => pCut_calls s a len cap xs e i false W g (by omega) t hi.2
  have HH : Hid _ := fun W g t => pCut_calls s a len cap xs e i true W g (by omega) t hi.2
  have HZL : Hid _ := ct_bad hl
  have HZH : Hid _ := ct_bad hh
  generalize ctP s (val xs) e i false = pl at *
  generalize ctP s (val xs) e i true = ph at *
  generalize ctE s (val xs) e i false = el at *
  have hlb : (el == 0) = false := by simp [hl]
  generalize ctE s (val xs) e i true = eh at *
  have hhb : (eh == 0) = false := by simp [hh]
  clear h hm hi hT
  have bw : Below w.heap.size w (w.alloc (.cells #[.bool s, .slice a len cap, .int .i64 e] 25)) := below_one _ _
  have D0 : (w.alloc (.cells #[.bool s, .slice a len cap, .int .i64 e] 25)).cell? ⟨w.heap.size, 0, none⟩ = some (.bool s) := by go_simp
  have D1 : (w.alloc (.cells #[.bool s, .slice a len cap, .int .i64 e] 25)).cell? ⟨w.heap.size, 1, none⟩ = some (.slice a len cap) := by go_simp
  have D2 : (w.alloc (.cells #[.bool s, .slice a len cap, .int .i64 e] 25)).cell? ⟨w.heap.size, 2, none⟩ = some (.int .i64 e) := by go_simp
  go_enter Tryd.func6, Tryd.ntmps6
  go_wp2_with fail
  generalize (w.alloc (.cells #[.bool s, .slice a len cap, .int .i64 e] 25)) = w0 at *
  refine Calls.mono (dyBegins_calls _ (hT0.out _ bw)) ?_
  rintro r w1 ⟨rfl, bN⟩
  replace D0 := dcarry_cell bN D0
  replace D1 := dcarry_cell bN D1
  replace D2 := dcarry_cell bN D2
  replace bw := nbelow_trans bw bN
  clear bN
  go_wp2_with fail
  refine Calls.mono (HL.out _ (H1.out.keep bw) (hT0.out _ bw)) ?_
  rintro r w2 ⟨_, rfl, ⟨a2, n2, c2, rfl, HN2, hn2, hO2⟩, bN⟩
  replace D0 := dcarry_cell bN D0
  replace D1 := dcarry_cell bN D1
  replace D2 := dcarry_cell bN D2
  replace bw := nbelow_trans bw bN
  have hz2 : n2 = 0 := by rw [HN2.out, HZL.out, words_zero]; rfl
  subst hz2
  clear HN2 hn2
  have bA := below_one w2 (.cells #[.bool pl.1, .slice a2 0 c2, .int .i64 pl.2.2] 25)
  have AI := hO2.1.keep bA
  replace D0 := dcarry_cell bA D0
  replace D1 := dcarry_cell bA D1
  replace D2 := dcarry_cell bA D2
  have A0 : (w2.alloc (.cells #[.bool pl.1, .slice a2 0 c2, .int .i64 pl.2.2] 25)).cell? ⟨w2.heap.size, 0, none⟩ = some (.bool pl.1) := by go_simp
  have A1 : (w2.alloc (.cells #[.bool pl.1, .slice a2 0 c2, .int .i64 pl.2.2] 25)).cell? ⟨w2.heap.size, 1, none⟩ = some (.slice a2 0 c2) := by go_simp
  have A2 : (w2.alloc (.cells #[.bool pl.1, .slice a2 0 c2, .int .i64 pl.2.2] 25)).cell? ⟨w2.heap.size, 2, none⟩ = some (.int .i64 pl.2.2) := by go_simp
  replace bw := nbelow_trans bw bA
  clear bA bN hO2
  go_wp2_with fail
  generalize w2.alloc (.cells #[.bool pl.1, .slice a2 0 c2, .int .i64 pl.2.2] 25) = w3 at *
  refine Calls.mono (HH.out _ (H1.out.keep bw) (hT0.out _ bw)) ?_
  rintro r w4 ⟨_, rfl, ⟨a4, n4, c4, rfl, HN4, hn4, hO4⟩, bN⟩
  replace D0 := dcarry_cell bN D0
  replace D1 := dcarry_cell bN D1
  replace D2 := dcarry_cell bN D2
  replace A0 := dcarry_cell bN A0
  replace A1 := dcarry_cell bN A1
  replace A2 := dcarry_cell bN A2
  replace AI := AI.keep bN
  replace bw := nbelow_trans bw bN
  have hz4 : n4 = 0 := by rw [HN4.out, HZH.out, words_zero]; rfl
  subst hz4
  clear HN4 hn4
  have bA := below_one w4 (.cells #[.bool ph.1, .slice a4 0 c4, .int .i64 ph.2.2] 25)
  have BI := hO4.1.keep bA
  replace D0 := dcarry_cell bA D0
  replace D1 := dcarry_cell bA D1
  replace D2 := dcarry_cell bA D2
  replace A0 := dcarry_cell bA A0
  replace A1 := dcarry_cell bA A1
  replace A2 := dcarry_cell bA A2
  replace AI := AI.keep bA
  have B0 : (w4.alloc (.cells #[.bool ph.1, .slice a4 0 c4, .int .i64 ph.2.2] 25)).cell? ⟨w4.heap.size, 0, none⟩ = some (.bool ph.1) := by go_simp
  have B1 : (w4.alloc (.cells #[.bool ph.1, .slice a4 0 c4, .int .i64 ph.2.2] 25)).cell? ⟨w4.heap.size, 1, none⟩ = some (.slice a4 0 c4) := by go_simp
  have B2 : (w4.alloc (.cells #[.bool ph.1, .slice a4 0 c4, .int .i64 ph.2.2] 25)).cell? ⟨w4.heap.size, 2, none⟩ = some (.int .i64 ph.2.2) := by go_simp
  replace bw := nbelow_trans bw bA
  clear bA bN hO4
  go_wp2_with fail
  generalize w4.alloc (.cells #[.bool ph.1, .slice a4 0 c4, .int .i64 ph.2.2] 25) = w5 at *
  go_ret
  exact ⟨rfl, bw⟩

set_option maxRecDepth 100000 in
set_option maxHeartbeats 4000000 in
theorem dcu_bo (s : Bool) (a : Option Addr) (len cap : Nat) (xs : List Int) (e : Int) (i : Int) (w : World) (h : IsW w a len cap xs) (hm : len ≤ 17592186044000) (hi : -9223372036854775808 ≤ i ∧ i ≤ 9223372036854775807) (hT : Tab w) (hl : ctE s (val xs) e i false ≠ 0) (hh : ctE s (val xs) e i true = 0) :
    Calls Tryd.prog 6 #[dyV s a len cap e, .int .i64 i] w fun r w' => r = .returned (.bool true) ∧ Below w.heap.size w w' := by
  have hT0 : Hid (∀ w', Below w.heap.size w w' → Tab w') := fun w' hb => hT.kept hb
  have H1 : Hid (IsW w a len cap xs) := h
  have HL : Hid _ := fun W g t => pCut_calls s a len cap xs e i false W g (by omega) t hi.2
  have HH : Hid _ := fun W g t => pCut_calls s a len cap xs e i true W g (by omega) t hi.2
  have HZL : Hid _ := ct_bad hl
  generalize ctP s (val xs) e i false = pl at *
  generalize ctP s (val xs) e i true = ph at *
  generalize ctE s (val xs) e i false = el at *
  have hlb : (el == 0) = false := by simp [hl]
  rw [hh] at HH
  clear h hm hi hT hh
  have bw : Below w.heap.size w (w.alloc (.cells #[.bool s, .slice a len cap, .int .i64 e] 25)) := below_one _ _
  have D0 : (w.alloc (.cells #[.bool s, .slice a len cap, .int .i64 e] 25)).cell? ⟨w.heap.size, 0, none⟩ = some (.bool s) := by go_simp
  have D1 : (w.alloc (.cells #[.bool s, .slice a len cap, .int .i64 e] 25)).cell? ⟨w.heap.size, 1, none⟩ = some (.slice a len cap) := by go_simp
  have D2 : (w.alloc (.cells #[.bool s, .slice a len cap, .int .i64 e] 25)).cell? ⟨w.heap.size, 2, none⟩ = some (.int .i64 e) := by go_simp
  go_enter Tryd.func6, Tryd.ntmps6
  go_wp2_with fail
  generalize (w.alloc (.cells #[.bool s, .slice a len cap, .int .i64 e] 25)) = w0 at *
  refine Calls.mono (dyBegins_calls _ (hT0.out _ bw)) ?_
  rintro r w1 ⟨rfl, bN⟩
  replace D0 := dcarry_cell bN D0
  replace D1 := dcarry_cell bN D1
  replace D2 := dcarry_cell bN D2
  replace bw := nbelow_trans bw bN
  clear bN
  go_wp2_with fail
  refine Calls.mono (HL.out _ (H1.out.keep bw) (hT0.out _ bw)) ?_
  rintro r w2 ⟨_, rfl, ⟨a2, n2, c2, rfl, HN2, hn2, hO2⟩, bN⟩
  replace D0 := dcarry_cell bN D0
  replace D1 := dcarry_cell bN D1
  replace D2 := dcarry_cell bN D2
  replace bw := nbelow_trans bw bN
  have hz2 : n2 = 0 := by rw [HN2.out, HZL.out, words_zero]; rfl
  subst hz2
  clear HN2 hn2
  have bA := below_one w2 (.cells #[.bool pl.1, .slice a2 0 c2, .int .i64 pl.2.2] 25)
  have AI := hO2.1.keep bA
  replace D0 := dcarry_cell bA D0
  replace D1 := dcarry_cell bA D1
  replace D2 := dcarry_cell bA D2
  have A0 : (w2.alloc (.cells #[.bool pl.1, .slice a2 0 c2, .int .i64 pl.2.2] 25)).cell? ⟨w2.heap.size, 0, none⟩ = some (.bool pl.1) := by go_simp
  have A1 : (w2.alloc (.cells #[.bool pl.1, .slice a2 0 c2, .int .i64 pl.2.2] 25)).cell? ⟨w2.heap.size, 1, none⟩ = some (.slice a2 0 c2) := by go_simp
  have A2 : (w2.alloc (.cells #[.bool pl.1, .slice a2 0 c2, .int .i64 pl.2.2] 25)).cell? ⟨w2.heap.size, 2, none⟩ = some (.int .i64 pl.2.2) := by go_simp
  replace bw := nbelow_trans bw bA
  clear bA bN hO2
  go_wp2_with fail
  generalize w2.alloc (.cells #[.bool pl.1, .slice a2 0 c2, .int .i64 pl.2.2] 25) = w3 at *
  refine Calls.mono (HH.out _ (H1.out.keep bw) (hT0.out _ bw)) ?_
  rintro r w4 ⟨_, rfl, ⟨a4, n4, c4, rfl, HN4, hn4, hO4⟩, bN⟩
  replace D0 := dcarry_cell bN D0
  replace D1 := dcarry_cell bN D1
  replace D2 := dcarry_cell bN D2
  replace A0 := dcarry_cell bN A0
  replace A1 := dcarry_cell bN A1
  replace A2 := dcarry_cell bN A2
  replace AI := AI.keep bN
  replace bw := nbelow_trans bw bN
  have bA := below_one w4 (.cells #[.bool ph.1, .slice a4 n4 c4, .int .i64 ph.2.2] 25)
  have BI := hO4.1.keep bA
  replace D0 := dcarry_cell bA D0
  replace D1 := dcarry_cell bA D1
  replace D2 := dcarry_cell bA D2
  replace A0 := dcarry_cell bA A0
  replace A1 := dcarry_cell bA A1
  replace A2 := dcarry_cell bA A2
  replace AI := AI.keep bA
  have B0 : (w4.alloc (.cells #[.bool ph.1, .slice a4 n4 c4, .int .i64 ph.2.2] 25)).cell? ⟨w4.heap.size, 0, none⟩ = some (.bool ph.1) := by go_simp
  have B1 : (w4.alloc (.cells #[.bool ph.1, .slice a4 n4 c4, .int .i64 ph.2.2] 25)).cell? ⟨w4.heap.size, 1, none⟩ = some (.slice a4 n4 c4) := by go_simp
  have B2 : (w4.alloc (.cells #[.bool ph.1, .slice a4 n4 c4, .int .i64 ph.2.2] 25)).cell? ⟨w4.heap.size, 2, none⟩ = some (.int .i64 ph.2.2) := by go_simp
  replace bw := nbelow_trans bw bA
  clear bA bN hO4
  go_wp2_with fail
  generalize w4.alloc (.cells #[.bool ph.1, .slice a4 n4 c4, .int .i64 ph.2.2] 25) = w5 at *
  go_ret
  exact ⟨rfl, bw⟩

set_option maxRecDepth 100000 in
set_option maxHeartbeats 4000000 in
theorem dcu_ob (s : Bool) (a : Option Addr) (len cap : Nat) (xs : List Int) (e : Int) (i : Int) (w : World) (h : IsW w a len cap xs) (hm : len ≤ 17592186044000) (hi : -9223372036854775808 ≤ i ∧ i ≤ 9223372036854775807) (hT : Tab w) (hl : ctE s (val xs) e i false = 0) (hh : ctE s (val xs) e i true ≠ 0) :
    Calls Tryd.prog 6 #[dyV s a len cap e, .int .i64 i] w fun r w' => r = .returned (.bool true) ∧ Below w.heap.size w w' := by
  have hT0 : Hid (∀ w', Below w.heap.size w w' → Tab w') := fun w' hb => hT.kept hb
  have H1 : Hid (IsW w a len cap xs) := h
  have HL : Hid _ := fun W g t => pCut_calls s a len cap xs e i false W g (by omega) t hi.2
  have HH : Hid _ := fun W g t => pCut_calls s a len cap xs e i true W g (by omega) t hi.2
  have HZH : Hid _ := ct_bad hh
  generalize ctP s (val xs) e i false = pl at *
  generalize ctP s (val xs) e i true = ph at *
  rw [hl] at HL
  generalize ctE s (val xs) e i true = eh at *
  have hhb : (eh == 0) = false := by simp [hh]
  clear h hm hi hT hl
  have bw : Below w.heap.size w (w.alloc (.cells #[.bool s, .slice a len cap, .int .i64 e] 25)) := below_one _ _
  have D0 : (w.alloc (.cells #[.bool s, .slice a len cap, .int .i64 e] 25)).cell? ⟨w.heap.size, 0, none⟩ = some (.bool s) := by go_simp
  have D1 : (w.alloc (.cells #[.bool s, .slice a len cap, .int .i64 e] 25)).cell? ⟨w.heap.size, 1, none⟩ = some (.slice a len cap) := by go_simp
  have D2 : (w.alloc (.cells #[.bool s, .slice a len cap, .int .i64 e] 25)).cell? ⟨w.heap.size, 2, none⟩ = some (.int .i64 e) := by go_simp
  go_enter Tryd.func6, Tryd.ntmps6
  go_wp2_with fail
  generalize (w.alloc (.cells #[.bool s, .slice a len cap, .int .i64 e] 25)) = w0 at *
  refine Calls.mono (dyBegins_calls _ (hT0.out _ bw)) ?_
  rintro r w1 ⟨rfl, bN⟩
  replace D0 := dcarry_cell bN D0
  replace D1 := dcarry_cell bN D1
  replace D2 := dcarry_cell bN D2
  replace bw := nbelow_trans bw bN
  clear bN
  go_wp2_with fail
  refine Calls.mono (HL.out _ (H1.out.keep bw) (hT0.out _ bw)) ?_
  rintro r w2 ⟨_, rfl, ⟨a2, n2, c2, rfl, HN2, hn2, hO2⟩, bN⟩
  replace D0 := dcarry_cell bN D0
  replace D1 := dcarry_cell bN D1
  replace D2 := dcarry_cell bN D2
  replace bw := nbelow_trans bw bN
  have bA := below_one w2 (.cells #[.bool pl.1, .slice a2 n2 c2, .int .i64 pl.2.2] 25)
  have AI := hO2.1.keep bA
  replace D0 := dcarry_cell bA D0
  replace D1 := dcarry_cell bA D1
  replace D2 := dcarry_cell bA D2
  have A0 : (w2.alloc (.cells #[.bool pl.1, .slice a2 n2 c2, .int .i64 pl.2.2] 25)).cell? ⟨w2.heap.size, 0, none⟩ = some (.bool pl.1) := by go_simp
  have A1 : (w2.alloc (.cells #[.bool pl.1, .slice a2 n2 c2, .int .i64 pl.2.2] 25)).cell? ⟨w2.heap.size, 1, none⟩ = some (.slice a2 n2 c2) := by go_simp
  have A2 : (w2.alloc (.cells #[.bool pl.1, .slice a2 n2 c2, .int .i64 pl.2.2] 25)).cell? ⟨w2.heap.size, 2, none⟩ = some (.int .i64 pl.2.2) := by go_simp
  replace bw := nbelow_trans bw bA
  clear bA bN hO2
  go_wp2_with fail
  generalize w2.alloc (.cells #[.bool pl.1, .slice a2 n2 c2, .int .i64 pl.2.2] 25) = w3 at *
  refine Calls.mono (HH.out _ (H1.out.keep bw) (hT0.out _ bw)) ?_
  rintro r w4 ⟨_, rfl, ⟨a4, n4, c4, rfl, HN4, hn4, hO4⟩, bN⟩
  replace D0 := dcarry_cell bN D0
  replace D1 := dcarry_cell bN D1
  replace D2 := dcarry_cell bN D2
  replace A0 := dcarry_cell bN A0
  replace A1 := dcarry_cell bN A1
  replace A2 := dcarry_cell bN A2
  replace AI := AI.keep bN
  replace bw := nbelow_trans bw bN
  have hz4 : n4 = 0 := by rw [HN4.out, HZH.out, words_zero]; rfl
  subst hz4
  clear HN4 hn4
  have bA := below_one w4 (.cells #[.bool ph.1, .slice a4 0 c4, .int .i64 ph.2.2] 25)
  have BI := hO4.1.keep bA
  replace D0 := dcarry_cell bA D0
  replace D1 := dcarry_cell bA D1
  replace D2 := dcarry_cell bA D2
  replace A0 := dcarry_cell bA A0
  replace A1 := dcarry_cell bA A1
  replace A2 := dcarry_cell bA A2
  replace AI := AI.keep bA
  have B0 : (w4.alloc (.cells #[.bool ph.1, .slice a4 0 c4, .int .i64 ph.2.2] 25)).cell? ⟨w4.heap.size, 0, none⟩ = some (.bool ph.1) := by go_simp
  have B1 : (w4.alloc (.cells #[.bool ph.1, .slice a4 0 c4, .int .i64 ph.2.2] 25)).cell? ⟨w4.heap.size, 1, none⟩ = some (.slice a4 0 c4) := by go_simp
  have B2 : (w4.alloc (.cells #[.bool ph.1, .slice a4 0 c4, .int .i64 ph.2.2] 25)).cell? ⟨w4.heap.size, 2, none⟩ = some (.int .i64 ph.2.2) := by go_simp
  replace bw := nbelow_trans bw bA
  clear bA bN hO4
  go_wp2_with fail
  generalize w4.alloc (.cells #[.bool ph.1, .slice a4 0 c4, .int .i64 ph.2.2] 25) = w5 at *
  go_ret
  exact ⟨rfl, bw⟩

set_option maxRecDepth 100000 in
set_option maxHeartbeats 4000000 in
theorem dcu_ez (s : Bool) (a : Option Addr) (len cap : Nat) (xs : List Int) (e : Int) (i : Int) (w : World) (h : IsW w a len cap xs) (hm : len ≤ 17592186044000) (hi : -9223372036854775808 ≤ i ∧ i ≤ 9223372036854775807) (hT : Tab w) (hl : ctE s (val xs) e i false = 0) (hh : ctE s (val xs) e i true = 0) (hle : (blen (formD s (val xs) e).2.1 : Int) ≤ i) (h0 : val xs = 0) :
    Calls Tryd.prog 6 #[dyV s a len cap e, .int .i64 i] w fun r w' => r = .returned (.bool true) ∧ Below w.heap.size w w' := by
  have hT0 : Hid (∀ w', Below w.heap.size w w' → Tab w') := fun w' hb => hT.kept hb
  have H1 : Hid (IsW w a len cap xs) := h
  have HL : Hid _ := fun W g t => pCut_calls s a len cap xs e i false W g (by omega) t hi.2
  have HH : Hid _ := fun W g t => pCut_calls s a len cap xs e i true W g (by omega) t hi.2
  obtain ⟨hr, hi1, gl1, gl2⟩ := ct_good hl
  obtain ⟨-, -, gh1, gh2⟩ := ct_good hh
  rw [hl, gl1] at HL
  rw [hh, gh1] at HH
  have hcn := form_can s (val xs) e
  have hcl := cutD_can hcn i false
  have hch := cutD_can hcn i true
  have HM : Hid _ := fun a' n' c' W g (q : n' ≤ 1024) g' t => dcmp_yes (cutD (formD s (val xs) e) i false).1 a' n' c' (wordsOf (cutD (formD s (val xs) e) i false).2.1) (cutD (formD s (val xs) e) i false).2.2 s a len cap xs e W g (by omega) g' (by omega) t (by rw [val_words]; exact gl2) hr
  have HNn : Hid _ := fun a' n' c' W g (q : n' ≤ 1024) g' t => dcmp_yes s a len cap xs e (cutD (formD s (val xs) e) i true).1 a' n' c' (wordsOf (cutD (formD s (val xs) e) i true).2.1) (cutD (formD s (val xs) e) i true).2.2 W g' (by omega) g (by omega) t hr (by rw [val_words]; exact gh2)
  rw [val_words, form_of_can hcl] at HM
  rw [val_words, form_of_can hch] at HNn
  have HSz : Hid _ := fun W g t => pSize_calls s a len cap xs e W g hm t
  have HTp : Hid _ := fun W g t => pTop_calls s a len cap xs e W g hm t
  have hxl : cutD (formD s (val xs) e) i false = (formD s (val xs) e) := by unfold cutD; rw [if_pos hle]
  have hxh : cutD (formD s (val xs) e) i true = (formD s (val xs) e) := by unfold cutD; rw [if_pos hle]
  rw [hxl] at HL HM gl2
  rw [hxh] at HH HNn gh2
  rw [cmp_self] at HM HNn
  have HFl : Hid _ := fun a' n' c' W g (q : n' ≤ 1024) t => few_calls (formD s (val xs) e) a' n' c' i W g q gl2 hle t
  have HFh : Hid _ := fun a' n' c' W g (q : n' ≤ 1024) t => few_calls (formD s (val xs) e) a' n' c' i W g q gl2 hle t
  have e1 := ft_zero hr h0
  have e2 : szV (val xs) e = 0 := by unfold szV; rw [e1]; rfl
  rw [e1, e2] at HSz
  clear HTp
  generalize (formD s (val xs) e) = x at *
  clear h hm hi hT hl hh hr hi1 gl1 gl2 gh1 gh2 hcn hcl hch hxl hxh h0 e1 e2 hle
  have bw : Below w.heap.size w (w.alloc (.cells #[.bool s, .slice a len cap, .int .i64 e] 25)) := below_one _ _
  have D0 : (w.alloc (.cells #[.bool s, .slice a len cap, .int .i64 e] 25)).cell? ⟨w.heap.size, 0, none⟩ = some (.bool s) := by go_simp
  have D1 : (w.alloc (.cells #[.bool s, .slice a len cap, .int .i64 e] 25)).cell? ⟨w.heap.size, 1, none⟩ = some (.slice a len cap) := by go_simp
  have D2 : (w.alloc (.cells #[.bool s, .slice a len cap, .int .i64 e] 25)).cell? ⟨w.heap.size, 2, none⟩ = some (.int .i64 e) := by go_simp
  go_enter Tryd.func6, Tryd.ntmps6
  go_wp2_with fail
  generalize (w.alloc (.cells #[.bool s, .slice a len cap, .int .i64 e] 25)) = w0 at *
  refine Calls.mono (dyBegins_calls _ (hT0.out _ bw)) ?_
  rintro r w1 ⟨rfl, bN⟩
  replace D0 := dcarry_cell bN D0
  replace D1 := dcarry_cell bN D1
  replace D2 := dcarry_cell bN D2
  replace bw := nbelow_trans bw bN
  clear bN
  go_wp2_with fail
  refine Calls.mono (HL.out _ (H1.out.keep bw) (hT0.out _ bw)) ?_
  rintro r w2 ⟨_, rfl, ⟨a2, n2, c2, rfl, HN2, hn2, hO2⟩, bN⟩
  replace D0 := dcarry_cell bN D0
  replace D1 := dcarry_cell bN D1
  replace D2 := dcarry_cell bN D2
  replace bw := nbelow_trans bw bN
  have bA := below_one w2 (.cells #[.bool x.1, .slice a2 n2 c2, .int .i64 x.2.2] 25)
  have AI := hO2.1.keep bA
  replace D0 := dcarry_cell bA D0
  replace D1 := dcarry_cell bA D1
  replace D2 := dcarry_cell bA D2
  have A0 : (w2.alloc (.cells #[.bool x.1, .slice a2 n2 c2, .int .i64 x.2.2] 25)).cell? ⟨w2.heap.size, 0, none⟩ = some (.bool x.1) := by go_simp
  have A1 : (w2.alloc (.cells #[.bool x.1, .slice a2 n2 c2, .int .i64 x.2.2] 25)).cell? ⟨w2.heap.size, 1, none⟩ = some (.slice a2 n2 c2) := by go_simp
  have A2 : (w2.alloc (.cells #[.bool x.1, .slice a2 n2 c2, .int .i64 x.2.2] 25)).cell? ⟨w2.heap.size, 2, none⟩ = some (.int .i64 x.2.2) := by go_simp
  replace bw := nbelow_trans bw bA
  clear bA bN hO2
  go_wp2_with fail
  generalize w2.alloc (.cells #[.bool x.1, .slice a2 n2 c2, .int .i64 x.2.2] 25) = w3 at *
  refine Calls.mono (HH.out _ (H1.out.keep bw) (hT0.out _ bw)) ?_
  rintro r w4 ⟨_, rfl, ⟨a4, n4, c4, rfl, HN4, hn4, hO4⟩, bN⟩
  replace D0 := dcarry_cell bN D0
  replace D1 := dcarry_cell bN D1
  replace D2 := dcarry_cell bN D2
  replace A0 := dcarry_cell bN A0
  replace A1 := dcarry_cell bN A1
  replace A2 := dcarry_cell bN A2
  replace AI := AI.keep bN
  replace bw := nbelow_trans bw bN
  have bA := below_one w4 (.cells #[.bool x.1, .slice a4 n4 c4, .int .i64 x.2.2] 25)
  have BI := hO4.1.keep bA
  replace D0 := dcarry_cell bA D0
  replace D1 := dcarry_cell bA D1
  replace D2 := dcarry_cell bA D2
  replace A0 := dcarry_cell bA A0
  replace A1 := dcarry_cell bA A1
  replace A2 := dcarry_cell bA A2
  replace AI := AI.keep bA
  have B0 : (w4.alloc (.cells #[.bool x.1, .slice a4 n4 c4, .int .i64 x.2.2] 25)).cell? ⟨w4.heap.size, 0, none⟩ = some (.bool x.1) := by go_simp
  have B1 : (w4.alloc (.cells #[.bool x.1, .slice a4 n4 c4, .int .i64 x.2.2] 25)).cell? ⟨w4.heap.size, 1, none⟩ = some (.slice a4 n4 c4) := by go_simp
  have B2 : (w4.alloc (.cells #[.bool x.1, .slice a4 n4 c4, .int .i64 x.2.2] 25)).cell? ⟨w4.heap.size, 2, none⟩ = some (.int .i64 x.2.2) := by go_simp
  replace bw := nbelow_trans bw bA
  clear bA bN hO4
  go_wp2_with fail
  generalize w4.alloc (.cells #[.bool x.1, .slice a4 n4 c4, .int .i64 x.2.2] 25) = w5 at *
  refine Calls.mono (HM.out _ _ _ _ AI hn2 (H1.out.keep bw) (hT0.out _ bw)) ?_
  rintro r w6 ⟨rfl, bN⟩
  replace D0 := dcarry_cell bN D0
  replace D1 := dcarry_cell bN D1
  replace D2 := dcarry_cell bN D2
  replace A0 := dcarry_cell bN A0
  replace A1 := dcarry_cell bN A1
  replace A2 := dcarry_cell bN A2
  replace AI := AI.keep bN
  replace B0 := dcarry_cell bN B0
  replace B1 := dcarry_cell bN B1
  replace B2 := dcarry_cell bN B2
  replace BI := BI.keep bN
  replace bw := nbelow_trans bw bN
  clear bN
  go_wp2_with fail
  refine Calls.mono (HNn.out _ _ _ _ BI hn4 (H1.out.keep bw) (hT0.out _ bw)) ?_
  rintro r w7 ⟨rfl, bN⟩
  replace D0 := dcarry_cell bN D0
  replace D1 := dcarry_cell bN D1
  replace D2 := dcarry_cell bN D2
  replace A0 := dcarry_cell bN A0
  replace A1 := dcarry_cell bN A1
  replace A2 := dcarry_cell bN A2
  replace AI := AI.keep bN
  replace B0 := dcarry_cell bN B0
  replace B1 := dcarry_cell bN B1
  replace B2 := dcarry_cell bN B2
  replace BI := BI.keep bN
  replace bw := nbelow_trans bw bN
  clear bN
  go_wp2_with fail
  refine Calls.mono (HFl.out _ _ _ _ AI hn2 (hT0.out _ bw)) ?_
  rintro r w8 ⟨rfl, bN⟩
  replace D0 := dcarry_cell bN D0
  replace D1 := dcarry_cell bN D1
  replace D2 := dcarry_cell bN D2
  replace A0 := dcarry_cell bN A0
  replace A1 := dcarry_cell bN A1
  replace A2 := dcarry_cell bN A2
  replace AI := AI.keep bN
  replace B0 := dcarry_cell bN B0
  replace B1 := dcarry_cell bN B1
  replace B2 := dcarry_cell bN B2
  replace BI := BI.keep bN
  replace bw := nbelow_trans bw bN
  clear bN
  go_wp2_with fail
  refine Calls.mono (HFh.out _ _ _ _ BI hn4 (hT0.out _ bw)) ?_
  rintro r w9 ⟨rfl, bN⟩
  replace D0 := dcarry_cell bN D0
  replace D1 := dcarry_cell bN D1
  replace D2 := dcarry_cell bN D2
  replace A0 := dcarry_cell bN A0
  replace A1 := dcarry_cell bN A1
  replace A2 := dcarry_cell bN A2
  replace AI := AI.keep bN
  replace B0 := dcarry_cell bN B0
  replace B1 := dcarry_cell bN B1
  replace B2 := dcarry_cell bN B2
  replace BI := BI.keep bN
  replace bw := nbelow_trans bw bN
  clear bN
  go_wp2_with fail
  refine Calls.mono (HSz.out _ (H1.out.keep bw) (hT0.out _ bw)) ?_
  rintro r w10 ⟨rfl, bN⟩
  replace D0 := dcarry_cell bN D0
  replace D1 := dcarry_cell bN D1
  replace D2 := dcarry_cell bN D2
  replace A0 := dcarry_cell bN A0
  replace A1 := dcarry_cell bN A1
  replace A2 := dcarry_cell bN A2
  replace AI := AI.keep bN
  replace B0 := dcarry_cell bN B0
  replace B1 := dcarry_cell bN B1
  replace B2 := dcarry_cell bN B2
  replace BI := BI.keep bN
  replace bw := nbelow_trans bw bN
  clear bN
  go_wp2_with fail
  go_ret
  exact ⟨rfl, bw⟩

set_option maxRecDepth 100000 in
set_option maxHeartbeats 4000000 in
theorem dcu_en (s : Bool) (a : Option Addr) (len cap : Nat) (xs : List Int) (e : Int) (i : Int) (w : World) (h : IsW w a len cap xs) (hm : len ≤ 17592186044000) (hi : -9223372036854775808 ≤ i ∧ i ≤ 9223372036854775807) (hT : Tab w) (hl : ctE s (val xs) e i false = 0) (hh : ctE s (val xs) e i true = 0) (hle : (blen (formD s (val xs) e).2.1 : Int) ≤ i) (h0 : val xs ≠ 0) :
    Calls Tryd.prog 6 #[dyV s a len cap e, .int .i64 i] w fun r w' => r = .returned (.bool true) ∧ Below w.heap.size w w' := by
  have hT0 : Hid (∀ w', Below w.heap.size w w' → Tab w') := fun w' hb => hT.kept hb
  have H1 : Hid (IsW w a len cap xs) := h
  have HL : Hid _ := fun W g t => pCut_calls s a len cap xs e i false W g (by omega) t hi.2
  have HH : Hid _ := fun W g t => pCut_calls s a len cap xs e i true W g (by omega) t hi.2
  obtain ⟨hr, hi1, gl1, gl2⟩ := ct_good hl
  obtain ⟨-, -, gh1, gh2⟩ := ct_good hh
  rw [hl, gl1] at HL
  rw [hh, gh1] at HH
  have hcn := form_can s (val xs) e
  have hcl := cutD_can hcn i false
  have hch := cutD_can hcn i true
  have HM : Hid _ := fun a' n' c' W g (q : n' ≤ 1024) g' t => dcmp_yes (cutD (formD s (val xs) e) i false).1 a' n' c' (wordsOf (cutD (formD s (val xs) e) i false).2.1) (cutD (formD s (val xs) e) i false).2.2 s a len cap xs e W g (by omega) g' (by omega) t (by rw [val_words]; exact gl2) hr
  have HNn : Hid _ := fun a' n' c' W g (q : n' ≤ 1024) g' t => dcmp_yes s a len cap xs e (cutD (formD s (val xs) e) i true).1 a' n' c' (wordsOf (cutD (formD s (val xs) e) i true).2.1) (cutD (formD s (val xs) e) i true).2.2 W g' (by omega) g (by omega) t hr (by rw [val_words]; exact gh2)
  rw [val_words, form_of_can hcl] at HM
  rw [val_words, form_of_can hch] at HNn
  have HSz : Hid _ := fun W g t => pSize_calls s a len cap xs e W g hm t
  have HTp : Hid _ := fun W g t => pTop_calls s a len cap xs e W g hm t
  have hxl : cutD (formD s (val xs) e) i false = (formD s (val xs) e) := by unfold cutD; rw [if_pos hle]
  have hxh : cutD (formD s (val xs) e) i true = (formD s (val xs) e) := by unfold cutD; rw [if_pos hle]
  rw [hxl] at HL HM gl2
  rw [hxh] at HH HNn gh2
  rw [cmp_self] at HM HNn
  have HFl : Hid _ := fun a' n' c' W g (q : n' ≤ 1024) t => few_calls (formD s (val xs) e) a' n' c' i W g q gl2 hle t
  have HFh : Hid _ := fun a' n' c' W g (q : n' ≤ 1024) t => few_calls (formD s (val xs) e) a' n' c' i W g q gl2 hle t
  have e1 := ft_ok hr h0
  have e2 : szV (val xs) e = (blen (formD s (val xs) e).2.1 : Int) := by unfold szV; rw [e1, size_form s e h0]; rfl
  rw [e1, e2] at HSz
  have hszl : (blen (formD s (val xs) e).2.1 : Int) ≤ i := hle
  generalize (blen (formD s (val xs) e).2.1 : Int) = bx at *
  clear HTp
  generalize (formD s (val xs) e) = x at *
  clear h hm hi hT hl hh hr hi1 gl1 gl2 gh1 gh2 hcn hcl hch hxl hxh h0 e1 e2 hle
  have bw : Below w.heap.size w (w.alloc (.cells #[.bool s, .slice a len cap, .int .i64 e] 25)) := below_one _ _
  have D0 : (w.alloc (.cells #[.bool s, .slice a len cap, .int .i64 e] 25)).cell? ⟨w.heap.size, 0, none⟩ = some (.bool s) := by go_simp
  have D1 : (w.alloc (.cells #[.bool s, .slice a len cap, .int .i64 e] 25)).cell? ⟨w.heap.size, 1, none⟩ = some (.slice a len cap) := by go_simp
  have D2 : (w.alloc (.cells #[.bool s, .slice a len cap, .int .i64 e] 25)).cell? ⟨w.heap.size, 2, none⟩ = some (.int .i64 e) := by go_simp
  go_enter Tryd.func6, Tryd.ntmps6
  go_wp2_with fail
  generalize (w.alloc (.cells #[.bool s, .slice a len cap, .int .i64 e] 25)) = w0 at *
  refine Calls.mono (dyBegins_calls _ (hT0.out _ bw)) ?_
  rintro r w1 ⟨rfl, bN⟩
  replace D0 := dcarry_cell bN D0
  replace D1 := dcarry_cell bN D1
  replace D2 := dcarry_cell bN D2
  replace bw := nbelow_trans bw bN
  clear bN
  go_wp2_with fail
  refine Calls.mono (HL.out _ (H1.out.keep bw) (hT0.out _ bw)) ?_
  rintro r w2 ⟨_, rfl, ⟨a2, n2, c2, rfl, HN2, hn2, hO2⟩, bN⟩
  replace D0 := dcarry_cell bN D0
  replace D1 := dcarry_cell bN D1
  replace D2 := dcarry_cell bN D2
  replace bw := nbelow_trans bw bN
  have bA := below_one w2 (.cells #[.bool x.1, .slice a2 n2 c2, .int .i64 x.2.2] 25)
  have AI := hO2.1.keep bA
  replace D0 := dcarry_cell bA D0
  replace D1 := dcarry_cell bA D1
  replace D2 := dcarry_cell bA D2
  have A0 : (w2.alloc (.cells #[.bool x.1, .slice a2 n2 c2, .int .i64 x.2.2] 25)).cell? ⟨w2.heap.size, 0, none⟩ = some (.bool x.1) := by go_simp
  have A1 : (w2.alloc (.cells #[.bool x.1, .slice a2 n2 c2, .int .i64 x.2.2] 25)).cell? ⟨w2.heap.size, 1, none⟩ = some (.slice a2 n2 c2) := by go_simp
  have A2 : (w2.alloc (.cells #[.bool x.1, .slice a2 n2 c2, .int .i64 x.2.2] 25)).cell? ⟨w2.heap.size, 2, none⟩ = some (.int .i64 x.2.2) := by go_simp
  replace bw := nbelow_trans bw bA
  clear bA bN hO2
  go_wp2_with fail
  generalize w2.alloc (.cells #[.bool x.1, .slice a2 n2 c2, .int .i64 x.2.2] 25) = w3 at *
  refine Calls.mono (HH.out _ (H1.out.keep bw) (hT0.out _ bw)) ?_
  rintro r w4 ⟨_, rfl, ⟨a4, n4, c4, rfl, HN4, hn4, hO4⟩, bN⟩
  replace D0 := dcarry_cell bN D0
  replace D1 := dcarry_cell bN D1
  replace D2 := dcarry_cell bN D2
  replace A0 := dcarry_cell bN A0
  replace A1 := dcarry_cell bN A1
  replace A2 := dcarry_cell bN A2
  replace AI := AI.keep bN
  replace bw := nbelow_trans bw bN
  have bA := below_one w4 (.cells #[.bool x.1, .slice a4 n4 c4, .int .i64 x.2.2] 25)
  have BI := hO4.1.keep bA
  replace D0 := dcarry_cell bA D0
  replace D1 := dcarry_cell bA D1
  replace D2 := dcarry_cell bA D2
  replace A0 := dcarry_cell bA A0
  replace A1 := dcarry_cell bA A1
  replace A2 := dcarry_cell bA A2
  replace AI := AI.keep bA
  have B0 : (w4.alloc (.cells #[.bool x.1, .slice a4 n4 c4, .int .i64 x.2.2] 25)).cell? ⟨w4.heap.size, 0, none⟩ = some (.bool x.1) := by go_simp
  have B1 : (w4.alloc (.cells #[.bool x.1, .slice a4 n4 c4, .int .i64 x.2.2] 25)).cell? ⟨w4.heap.size, 1, none⟩ = some (.slice a4 n4 c4) := by go_simp
  have B2 : (w4.alloc (.cells #[.bool x.1, .slice a4 n4 c4, .int .i64 x.2.2] 25)).cell? ⟨w4.heap.size, 2, none⟩ = some (.int .i64 x.2.2) := by go_simp
  replace bw := nbelow_trans bw bA
  clear bA bN hO4
  go_wp2_with fail
  generalize w4.alloc (.cells #[.bool x.1, .slice a4 n4 c4, .int .i64 x.2.2] 25) = w5 at *
  refine Calls.mono (HM.out _ _ _ _ AI hn2 (H1.out.keep bw) (hT0.out _ bw)) ?_
  rintro r w6 ⟨rfl, bN⟩
  replace D0 := dcarry_cell bN D0
  replace D1 := dcarry_cell bN D1
  replace D2 := dcarry_cell bN D2
  replace A0 := dcarry_cell bN A0
  replace A1 := dcarry_cell bN A1
  replace A2 := dcarry_cell bN A2
  replace AI := AI.keep bN
  replace B0 := dcarry_cell bN B0
  replace B1 := dcarry_cell bN B1
  replace B2 := dcarry_cell bN B2
  replace BI := BI.keep bN
  replace bw := nbelow_trans bw bN
  clear bN
  go_wp2_with fail
  refine Calls.mono (HNn.out _ _ _ _ BI hn4 (H1.out.keep bw) (hT0.out _ bw)) ?_
  rintro r w7 ⟨rfl, bN⟩
  replace D0 := dcarry_cell bN D0
  replace D1 := dcarry_cell bN D1
  replace D2 := dcarry_cell bN D2
  replace A0 := dcarry_cell bN A0
  replace A1 := dcarry_cell bN A1
  replace A2 := dcarry_cell bN A2
  replace AI := AI.keep bN
  replace B0 := dcarry_cell bN B0
  replace B1 := dcarry_cell bN B1
  replace B2 := dcarry_cell bN B2
  replace BI := BI.keep bN
  replace bw := nbelow_trans bw bN
  clear bN
  go_wp2_with fail
  refine Calls.mono (HFl.out _ _ _ _ AI hn2 (hT0.out _ bw)) ?_
  rintro r w8 ⟨rfl, bN⟩
  replace D0 := dcarry_cell bN D0
  replace D1 := dcarry_cell bN D1
  replace D2 := dcarry_cell bN D2
  replace A0 := dcarry_cell bN A0
  replace A1 := dcarry_cell bN A1
  replace A2 := dcarry_cell bN A2
  replace AI := AI.keep bN
  replace B0 := dcarry_cell bN B0
  replace B1 := dcarry_cell bN B1
  replace B2 := dcarry_cell bN B2
  replace BI := BI.keep bN
  replace bw := nbelow_trans bw bN
  clear bN
  go_wp2_with fail
  refine Calls.mono (HFh.out _ _ _ _ BI hn4 (hT0.out _ bw)) ?_
  rintro r w9 ⟨rfl, bN⟩
  replace D0 := dcarry_cell bN D0
  replace D1 := dcarry_cell bN D1
  replace D2 := dcarry_cell bN D2
  replace A0 := dcarry_cell bN A0
  replace A1 := dcarry_cell bN A1
  replace A2 := dcarry_cell bN A2
  replace AI := AI.keep bN
  replace B0 := dcarry_cell bN B0
  replace B1 := dcarry_cell bN B1
  replace B2 := dcarry_cell bN B2
  replace BI := BI.keep bN
  replace bw := nbelow_trans bw bN
  clear bN
  go_wp2_with fail
  refine Calls.mono (HSz.out _ (H1.out.keep bw) (hT0.out _ bw)) ?_
  rintro r w10 ⟨rfl, bN⟩
  replace D0 := dcarry_cell bN D0
  replace D1 := dcarry_cell bN D1
  replace D2 := dcarry_cell bN D2
  replace A0 := dcarry_cell bN A0
  replace A1 := dcarry_cell bN A1
  replace A2 := dcarry_cell bN A2
  replace AI := AI.keep bN
  replace B0 := dcarry_cell bN B0
  replace B1 := dcarry_cell bN B1
  replace B2 := dcarry_cell bN B2
  replace BI := BI.keep bN
  replace bw := nbelow_trans bw bN
  clear bN
  go_wp2_with fail
  go_ret
  exact ⟨rfl, bw⟩

theorem cut_two (x : Bool × Nat × Int) (i : Int) (p j : Nat) (hi : i = (p : Int)) (hb : blen x.2.1 = p + j) (hj : 0 < j) : cutD x i false = formD x.1 (x.2.1 / 2 ^ j + (if x.1 = true then 1 else 0)) (x.2.2 + (j : Int)) ∧ cutD x i true = formD x.1 (x.2.1 / 2 ^ j + (if x.1 = true then 0 else 1)) (x.2.2 + (j : Int)) := by
  have e1 : ((blen x.2.1 : Int) - i).toNat = j := by omega
  unfold cutD
  rw [if_neg (show ¬ (blen x.2.1 : Int) ≤ i by omega), if_neg (show ¬ (blen x.2.1 : Int) ≤ i by omega), e1]
  cases x.1 <;> exact ⟨rfl, rfl⟩

set_option maxRecDepth 100000 in
set_option maxHeartbeats 4000000 in
theorem dcu_cl (s : Bool) (a : Option Addr) (len cap : Nat) (xs : List Int) (e : Int) (i : Int) (w : World) (h : IsW w a len cap xs) (hm : len ≤ 17592186044000) (hi : -9223372036854775808 ≤ i ∧ i ≤ 9223372036854775807) (hT : Tab w) (hl : ctE s (val xs) e i false = 0) (hh : ctE s (val xs) e i true = 0) (hgt : i < (blen (formD s (val xs) e).2.1 : Int)) (hlw : (formD s (val xs) e).2.2 + (blen (formD s (val xs) e).2.1 : Int) - 1 - i + 1 < -32768) :
    Calls Tryd.prog 6 #[dyV s a len cap e, .int .i64 i] w fun r w' => r = .returned (.bool true) ∧ Below w.heap.size w w' := by
  have hT0 : Hid (∀ w', Below w.heap.size w w' → Tab w') := fun w' hb => hT.kept hb
  have H1 : Hid (IsW w a len cap xs) := h
  have HL : Hid _ := fun W g t => pCut_calls s a len cap xs e i false W g (by omega) t hi.2
  have HH : Hid _ := fun W g t => pCut_calls s a len cap xs e i true W g (by omega) t hi.2
  obtain ⟨hr, hi1, gl1, gl2⟩ := ct_good hl
  obtain ⟨-, -, gh1, gh2⟩ := ct_good hh
  rw [hl, gl1] at HL
  rw [hh, gh1] at HH
  have hcn := form_can s (val xs) e
  have hcl := cutD_can hcn i false
  have hch := cutD_can hcn i true
  have HM : Hid _ := fun a' n' c' W g (q : n' ≤ 1024) g' t => dcmp_yes (cutD (formD s (val xs) e) i false).1 a' n' c' (wordsOf (cutD (formD s (val xs) e) i false).2.1) (cutD (formD s (val xs) e) i false).2.2 s a len cap xs e W g (by omega) g' (by omega) t (by rw [val_words]; exact gl2) hr
  have HNn : Hid _ := fun a' n' c' W g (q : n' ≤ 1024) g' t => dcmp_yes s a len cap xs e (cutD (formD s (val xs) e) i true).1 a' n' c' (wordsOf (cutD (formD s (val xs) e) i true).2.1) (cutD (formD s (val xs) e) i true).2.2 W g' (by omega) g (by omega) t hr (by rw [val_words]; exact gh2)
  rw [val_words, form_of_can hcl] at HM
  rw [val_words, form_of_can hch] at HNn
  have HSz : Hid _ := fun W g t => pSize_calls s a len cap xs e W g hm t
  have HTp : Hid _ := fun W g t => pTop_calls s a len cap xs e W g hm t
  have h0 : val xs ≠ 0 := fun q => by
    rw [q, form_zero] at hgt
    have : ((blen 0 : Nat) : Int) = 0 := rfl
    have hgt' : i < ((blen 0 : Nat) : Int) := hgt
    omega
  have hodd : (formD s (val xs) e).2.1 % 2 = 1 := by rw [form_pos s h0]; exact (odd_part h0).1
  obtain ⟨p, hp⟩ : ∃ p : Nat, i = (p : Int) := ⟨i.toNat, by omega⟩
  obtain ⟨j, hj⟩ : ∃ j : Nat, blen (formD s (val xs) e).2.1 = p + j := ⟨blen (formD s (val xs) e).2.1 - p, by omega⟩
  have hj0 : 0 < j := by omega
  obtain ⟨t1, t2⟩ := cut_two (formD s (val xs) e) i p j hp hj hj0
  obtain ⟨c1, c2, c3, c4, c5⟩ := cut_parts (formD s (val xs) e) hodd j p hj0 (by omega) hj
  have bl1 : (blen (cutD (formD s (val xs) e) i false).2.1 : Int) ≤ i := by rw [t1, hp]; have := c4 (if (formD s (val xs) e).1 = true then 1 else 0) (by split <;> omega); omega
  have bl2 : (blen (cutD (formD s (val xs) e) i true).2.1 : Int) ≤ i := by rw [t2, hp]; have := c4 (if (formD s (val xs) e).1 = true then 0 else 1) (by split <;> omega); omega
  rw [← t1] at c1 c3
  rw [← t2] at c2 c3
  rw [c1] at HM
  rw [c2] at HNn
  have HFl : Hid _ := fun a' n' c' W g (q : n' ≤ 1024) t => few_calls (cutD (formD s (val xs) e) i false) a' n' c' i W g q gl2 bl1 t
  have HFh : Hid _ := fun a' n' c' W g (q : n' ≤ 1024) t => few_calls (cutD (formD s (val xs) e) i true) a' n' c' i W g q gh2 bl2 t
  have e1 := ft_ok hr h0
  have e2 : szV (val xs) e = (blen (formD s (val xs) e).2.1 : Int) := by unfold szV; rw [e1, size_form s e h0]; rfl
  have e3 : tpV (val xs) e = (formD s (val xs) e).2.2 + (blen (formD s (val xs) e).2.1 : Int) - 1 := by unfold tpV; rw [e1, top_form s e h0]; rfl
  rw [e1, e2] at HSz
  rw [e1, e3] at HTp
  have hbd := form_bounds s (val xs) e hr
  have hbb : blen (formD s (val xs) e).2.1 ≤ 65536 := (great_not _).1 (form_fit s (val xs) e hr)
  have hw1 : IntKind.i64.wrap ((formD s (val xs) e).2.2 + (blen (formD s (val xs) e).2.1 : Int) - 1 - i) = (formD s (val xs) e).2.2 + (blen (formD s (val xs) e).2.1 : Int) - 1 - i := by rw [IntKind.wrap_i64]; omega
  have hw2 : IntKind.i64.wrap ((formD s (val xs) e).2.2 + (blen (formD s (val xs) e).2.1 : Int) - 1 - i + 1) = (formD s (val xs) e).2.2 + (blen (formD s (val xs) e).2.1 : Int) - 1 - i + 1 := by rw [IntKind.wrap_i64]; omega
  have hgl : ¬ (blen (formD s (val xs) e).2.1 : Int) ≤ i := by omega
  have hlow : (formD s (val xs) e).2.2 + (blen (formD s (val xs) e).2.1 : Int) - 1 - i + 1 < -32768 := hlw
  generalize cutD (formD s (val xs) e) i false = pl at *
  generalize cutD (formD s (val xs) e) i true = ph at *
  generalize (formD s (val xs) e).2.2 + (blen (formD s (val xs) e).2.1 : Int) - 1 = tv at *
  generalize (blen (formD s (val xs) e).2.1 : Int) = bx at *
  clear h hm hi hT hl hh hr hi1 gl1 gl2 gh1 gh2 hcn hcl hch h0 e1 e2 e3 hodd hp hj hj0 t1 t2 c1 c2 c3 c4 c5 bl1 bl2 hbd hbb hlw hgt
  have bw : Below w.heap.size w (w.alloc (.cells #[.bool s, .slice a len cap, .int .i64 e] 25)) := below_one _ _
  have D0 : (w.alloc (.cells #[.bool s, .slice a len cap, .int .i64 e] 25)).cell? ⟨w.heap.size, 0, none⟩ = some (.bool s) := by go_simp
  have D1 : (w.alloc (.cells #[.bool s, .slice a len cap, .int .i64 e] 25)).cell? ⟨w.heap.size, 1, none⟩ = some (.slice a len cap) := by go_simp
  have D2 : (w.alloc (.cells #[.bool s, .slice a len cap, .int .i64 e] 25)).cell? ⟨w.heap.size, 2, none⟩ = some (.int .i64 e) := by go_simp
  go_enter Tryd.func6, Tryd.ntmps6
  go_wp2_with fail
  generalize (w.alloc (.cells #[.bool s, .slice a len cap, .int .i64 e] 25)) = w0 at *
  refine Calls.mono (dyBegins_calls _ (hT0.out _ bw)) ?_
  rintro r w1 ⟨rfl, bN⟩
  replace D0 := dcarry_cell bN D0
  replace D1 := dcarry_cell bN D1
  replace D2 := dcarry_cell bN D2
  replace bw := nbelow_trans bw bN
  clear bN
  go_wp2_with fail
  refine Calls.mono (HL.out _ (H1.out.keep bw) (hT0.out _ bw)) ?_
  rintro r w2 ⟨_, rfl, ⟨a2, n2, c2, rfl, HN2, hn2, hO2⟩, bN⟩
  replace D0 := dcarry_cell bN D0
  replace D1 := dcarry_cell bN D1
  replace D2 := dcarry_cell bN D2
  replace bw := nbelow_trans bw bN
  have bA := below_one w2 (.cells #[.bool pl.1, .slice a2 n2 c2, .int .i64 pl.2.2] 25)
  have AI := hO2.1.keep bA
  replace D0 := dcarry_cell bA D0
  replace D1 := dcarry_cell bA D1
  replace D2 := dcarry_cell bA D2
  have A0 : (w2.alloc (.cells #[.bool pl.1, .slice a2 n2 c2, .int .i64 pl.2.2] 25)).cell? ⟨w2.heap.size, 0, none⟩ = some (.bool pl.1) := by go_simp
  have A1 : (w2.alloc (.cells #[.bool pl.1, .slice a2 n2 c2, .int .i64 pl.2.2] 25)).cell? ⟨w2.heap.size, 1, none⟩ = some (.slice a2 n2 c2) := by go_simp
  have A2 : (w2.alloc (.cells #[.bool pl.1, .slice a2 n2 c2, .int .i64 pl.2.2] 25)).cell? ⟨w2.heap.size, 2, none⟩ = some (.int .i64 pl.2.2) := by go_simp
  replace bw := nbelow_trans bw bA
  clear bA bN hO2
  go_wp2_with fail
  generalize w2.alloc (.cells #[.bool pl.1, .slice a2 n2 c2, .int .i64 pl.2.2] 25) = w3 at *
  refine Calls.mono (HH.out _ (H1.out.keep bw) (hT0.out _ bw)) ?_
  rintro r w4 ⟨_, rfl, ⟨a4, n4, c4, rfl, HN4, hn4, hO4⟩, bN⟩
  replace D0 := dcarry_cell bN D0
  replace D1 := dcarry_cell bN D1
  replace D2 := dcarry_cell bN D2
  replace A0 := dcarry_cell bN A0
  replace A1 := dcarry_cell bN A1
  replace A2 := dcarry_cell bN A2
  replace AI := AI.keep bN
  replace bw := nbelow_trans bw bN
  have bA := below_one w4 (.cells #[.bool ph.1, .slice a4 n4 c4, .int .i64 ph.2.2] 25)
  have BI := hO4.1.keep bA
  replace D0 := dcarry_cell bA D0
  replace D1 := dcarry_cell bA D1
  replace D2 := dcarry_cell bA D2
  replace A0 := dcarry_cell bA A0
  replace A1 := dcarry_cell bA A1
  replace A2 := dcarry_cell bA A2
  replace AI := AI.keep bA
  have B0 : (w4.alloc (.cells #[.bool ph.1, .slice a4 n4 c4, .int .i64 ph.2.2] 25)).cell? ⟨w4.heap.size, 0, none⟩ = some (.bool ph.1) := by go_simp
  have B1 : (w4.alloc (.cells #[.bool ph.1, .slice a4 n4 c4, .int .i64 ph.2.2] 25)).cell? ⟨w4.heap.size, 1, none⟩ = some (.slice a4 n4 c4) := by go_simp
  have B2 : (w4.alloc (.cells #[.bool ph.1, .slice a4 n4 c4, .int .i64 ph.2.2] 25)).cell? ⟨w4.heap.size, 2, none⟩ = some (.int .i64 ph.2.2) := by go_simp
  replace bw := nbelow_trans bw bA
  clear bA bN hO4
  go_wp2_with fail
  generalize w4.alloc (.cells #[.bool ph.1, .slice a4 n4 c4, .int .i64 ph.2.2] 25) = w5 at *
  refine Calls.mono (HM.out _ _ _ _ AI hn2 (H1.out.keep bw) (hT0.out _ bw)) ?_
  rintro r w6 ⟨rfl, bN⟩
  replace D0 := dcarry_cell bN D0
  replace D1 := dcarry_cell bN D1
  replace D2 := dcarry_cell bN D2
  replace A0 := dcarry_cell bN A0
  replace A1 := dcarry_cell bN A1
  replace A2 := dcarry_cell bN A2
  replace AI := AI.keep bN
  replace B0 := dcarry_cell bN B0
  replace B1 := dcarry_cell bN B1
  replace B2 := dcarry_cell bN B2
  replace BI := BI.keep bN
  replace bw := nbelow_trans bw bN
  clear bN
  go_wp2_with fail
  refine Calls.mono (HNn.out _ _ _ _ BI hn4 (H1.out.keep bw) (hT0.out _ bw)) ?_
  rintro r w7 ⟨rfl, bN⟩
  replace D0 := dcarry_cell bN D0
  replace D1 := dcarry_cell bN D1
  replace D2 := dcarry_cell bN D2
  replace A0 := dcarry_cell bN A0
  replace A1 := dcarry_cell bN A1
  replace A2 := dcarry_cell bN A2
  replace AI := AI.keep bN
  replace B0 := dcarry_cell bN B0
  replace B1 := dcarry_cell bN B1
  replace B2 := dcarry_cell bN B2
  replace BI := BI.keep bN
  replace bw := nbelow_trans bw bN
  clear bN
  go_wp2_with fail
  refine Calls.mono (HFl.out _ _ _ _ AI hn2 (hT0.out _ bw)) ?_
  rintro r w8 ⟨rfl, bN⟩
  replace D0 := dcarry_cell bN D0
  replace D1 := dcarry_cell bN D1
  replace D2 := dcarry_cell bN D2
  replace A0 := dcarry_cell bN A0
  replace A1 := dcarry_cell bN A1
  replace A2 := dcarry_cell bN A2
  replace AI := AI.keep bN
  replace B0 := dcarry_cell bN B0
  replace B1 := dcarry_cell bN B1
  replace B2 := dcarry_cell bN B2
  replace BI := BI.keep bN
  replace bw := nbelow_trans bw bN
  clear bN
  go_wp2_with fail
  refine Calls.mono (HFh.out _ _ _ _ BI hn4 (hT0.out _ bw)) ?_
  rintro r w9 ⟨rfl, bN⟩
  replace D0 := dcarry_cell bN D0
  replace D1 := dcarry_cell bN D1
  replace D2 := dcarry_cell bN D2
  replace A0 := dcarry_cell bN A0
  replace A1 := dcarry_cell bN A1
  replace A2 := dcarry_cell bN A2
  replace AI := AI.keep bN
  replace B0 := dcarry_cell bN B0
  replace B1 := dcarry_cell bN B1
  replace B2 := dcarry_cell bN B2
  replace BI := BI.keep bN
  replace bw := nbelow_trans bw bN
  clear bN
  go_wp2_with fail
  refine Calls.mono (HSz.out _ (H1.out.keep bw) (hT0.out _ bw)) ?_
  rintro r w10 ⟨rfl, bN⟩
  replace D0 := dcarry_cell bN D0
  replace D1 := dcarry_cell bN D1
  replace D2 := dcarry_cell bN D2
  replace A0 := dcarry_cell bN A0
  replace A1 := dcarry_cell bN A1
  replace A2 := dcarry_cell bN A2
  replace AI := AI.keep bN
  replace B0 := dcarry_cell bN B0
  replace B1 := dcarry_cell bN B1
  replace B2 := dcarry_cell bN B2
  replace BI := BI.keep bN
  replace bw := nbelow_trans bw bN
  clear bN
  go_wp2_with fail
  refine Calls.mono (HTp.out _ (H1.out.keep bw) (hT0.out _ bw)) ?_
  rintro r w11 ⟨rfl, bN⟩
  replace D0 := dcarry_cell bN D0
  replace D1 := dcarry_cell bN D1
  replace D2 := dcarry_cell bN D2
  replace A0 := dcarry_cell bN A0
  replace A1 := dcarry_cell bN A1
  replace A2 := dcarry_cell bN A2
  replace AI := AI.keep bN
  replace B0 := dcarry_cell bN B0
  replace B1 := dcarry_cell bN B1
  replace B2 := dcarry_cell bN B2
  replace BI := BI.keep bN
  replace bw := nbelow_trans bw bN
  clear bN
  go_wp2_with fail
  go_ret
  exact ⟨rfl, bw⟩

set_option maxRecDepth 100000 in
set_option maxHeartbeats 4000000 in
theorem dcu_ch (s : Bool) (a : Option Addr) (len cap : Nat) (xs : List Int) (e : Int) (i : Int) (w : World) (h : IsW w a len cap xs) (hm : len ≤ 17592186044000) (hi : -9223372036854775808 ≤ i ∧ i ≤ 9223372036854775807) (hT : Tab w) (hl : ctE s (val xs) e i false = 0) (hh : ctE s (val xs) e i true = 0) (hgt : i < (blen (formD s (val xs) e).2.1 : Int)) (hlw : ¬ (formD s (val xs) e).2.2 + (blen (formD s (val xs) e).2.1 : Int) - 1 - i + 1 < -32768) :
    Calls Tryd.prog 6 #[dyV s a len cap e, .int .i64 i] w fun r w' => r = .returned (.bool true) ∧ Below w.heap.size w w' := by
  have hT0 : Hid (∀ w', Below w.heap.size w w' → Tab w') := fun w' hb => hT.kept hb
  have H1 : Hid (IsW w a len cap xs) := h
  have HL : Hid _ := fun W g t => pCut_calls s a len cap xs e i false W g (by omega) t hi.2
  have HH : Hid _ := fun W g t => pCut_calls s a len cap xs e i true W g (by omega) t hi.2
  obtain ⟨hr, hi1, gl1, gl2⟩ := ct_good hl
  obtain ⟨-, -, gh1, gh2⟩ := ct_good hh
  rw [hl, gl1] at HL
  rw [hh, gh1] at HH
  have hcn := form_can s (val xs) e
  have hcl := cutD_can hcn i false
  have hch := cutD_can hcn i true
  have HM : Hid _ := fun a' n' c' W g (q : n' ≤ 1024) g' t => dcmp_yes (cutD (formD s (val xs) e) i false).1 a' n' c' (wordsOf (cutD (formD s (val xs) e) i false).2.1) (cutD (formD s (val xs) e) i false).2.2 s a len cap xs e W g (by omega) g' (by omega) t (by rw [val_words]; exact gl2) hr
  have HNn : Hid _ := fun a' n' c' W g (q : n' ≤ 1024) g' t => dcmp_yes s a len cap xs e (cutD (formD s (val xs) e) i true).1 a' n' c' (wordsOf (cutD (formD s (val xs) e) i true).2.1) (cutD (formD s (val xs) e) i true).2.2 W g' (by omega) g (by omega) t hr (by rw [val_words]; exact gh2)
  rw [val_words, form_of_can hcl] at HM
  rw [val_words, form_of_can hch] at HNn
  have HSz : Hid _ := fun W g t => pSize_calls s a len cap xs e W g hm t
  have HTp : Hid _ := fun W g t => pTop_calls s a len cap xs e W g hm t
  have h0 : val xs ≠ 0 := fun q => by
    rw [q, form_zero] at hgt
    have : ((blen 0 : Nat) : Int) = 0 := rfl
    have hgt' : i < ((blen 0 : Nat) : Int) := hgt
    omega
  have hodd : (formD s (val xs) e).2.1 % 2 = 1 := by rw [form_pos s h0]; exact (odd_part h0).1
  obtain ⟨p, hp⟩ : ∃ p : Nat, i = (p : Int) := ⟨i.toNat, by omega⟩
  obtain ⟨j, hj⟩ : ∃ j : Nat, blen (formD s (val xs) e).2.1 = p + j := ⟨blen (formD s (val xs) e).2.1 - p, by omega⟩
  have hj0 : 0 < j := by omega
  obtain ⟨t1, t2⟩ := cut_two (formD s (val xs) e) i p j hp hj hj0
  obtain ⟨c1, c2, c3, c4, c5⟩ := cut_parts (formD s (val xs) e) hodd j p hj0 (by omega) hj
  have bl1 : (blen (cutD (formD s (val xs) e) i false).2.1 : Int) ≤ i := by rw [t1, hp]; have := c4 (if (formD s (val xs) e).1 = true then 1 else 0) (by split <;> omega); omega
  have bl2 : (blen (cutD (formD s (val xs) e) i true).2.1 : Int) ≤ i := by rw [t2, hp]; have := c4 (if (formD s (val xs) e).1 = true then 0 else 1) (by split <;> omega); omega
  rw [← t1] at c1 c3
  rw [← t2] at c2 c3
  rw [c1] at HM
  rw [c2] at HNn
  have HFl : Hid _ := fun a' n' c' W g (q : n' ≤ 1024) t => few_calls (cutD (formD s (val xs) e) i false) a' n' c' i W g q gl2 bl1 t
  have HFh : Hid _ := fun a' n' c' W g (q : n' ≤ 1024) t => few_calls (cutD (formD s (val xs) e) i true) a' n' c' i W g q gh2 bl2 t
  have e1 := ft_ok hr h0
  have e2 : szV (val xs) e = (blen (formD s (val xs) e).2.1 : Int) := by unfold szV; rw [e1, size_form s e h0]; rfl
  have e3 : tpV (val xs) e = (formD s (val xs) e).2.2 + (blen (formD s (val xs) e).2.1 : Int) - 1 := by unfold tpV; rw [e1, top_form s e h0]; rfl
  rw [e1, e2] at HSz
  rw [e1, e3] at HTp
  have hbd := form_bounds s (val xs) e hr
  have hbb : blen (formD s (val xs) e).2.1 ≤ 65536 := (great_not _).1 (form_fit s (val xs) e hr)
  have hw1 : IntKind.i64.wrap ((formD s (val xs) e).2.2 + (blen (formD s (val xs) e).2.1 : Int) - 1 - i) = (formD s (val xs) e).2.2 + (blen (formD s (val xs) e).2.1 : Int) - 1 - i := by rw [IntKind.wrap_i64]; omega
  have hw2 : IntKind.i64.wrap ((formD s (val xs) e).2.2 + (blen (formD s (val xs) e).2.1 : Int) - 1 - i + 1) = (formD s (val xs) e).2.2 + (blen (formD s (val xs) e).2.1 : Int) - 1 - i + 1 := by rw [IntKind.wrap_i64]; omega
  have hgl : ¬ (blen (formD s (val xs) e).2.1 : Int) ≤ i := by omega
  have hlow : ¬ (formD s (val xs) e).2.2 + (blen (formD s (val xs) e).2.1 : Int) - 1 - i + 1 < -32768 := hlw
  have hee : (formD s (val xs) e).2.2 + (j : Int) = (formD s (val xs) e).2.2 + (blen (formD s (val xs) e).2.1 : Int) - 1 - i + 1 := by omega
  have hup : (formD s (val xs) e).2.2 + (j : Int) ≤ 32768 := by
    have := (rightB_yes gl2).2
    rw [t1, form_pos _ (show (formD s (val xs) e).2.1 / 2 ^ j + (if (formD s (val xs) e).1 = true then 1 else 0) ≠ 0 by omega)] at this
    have h9 : (formD s (val xs) e).2.2 + (j : Int) + (tz ((formD s (val xs) e).2.1 / 2 ^ j + (if (formD s (val xs) e).1 = true then 1 else 0)) : Int) ≤ 32768 := this.2
    omega
  have HSb : Hid _ := fun a' n' c' b' m' d' W g (q : n' ≤ 1024) g' (q' : m' ≤ 1024) t => dsub_yes (cutD (formD s (val xs) e) i true).1 a' n' c' (wordsOf (cutD (formD s (val xs) e) i true).2.1) (cutD (formD s (val xs) e) i true).2.2 (cutD (formD s (val xs) e) i false).1 b' m' d' (wordsOf (cutD (formD s (val xs) e) i false).2.1) (cutD (formD s (val xs) e) i false).2.2 W g (by omega) g' (by omega) t (by rw [val_words]; exact gh2) (by rw [val_words]; exact gl2)
  rw [val_words, val_words, form_of_can hcl, form_of_can hch, c3] at HSb
  have hrw := room_yes (p := (false, 1, (formD s (val xs) e).2.2 + (j : Int))) great_one (by unfold inB; exact decide_eq_true ⟨by show -32768 ≤ (formD s (val xs) e).2.2 + (j : Int); omega, hup⟩)
  rw [hrw.1, hrw.2, hee] at HSb
  have HSm : Hid _ := fun a1 n1 c1 a2 w' g q1 g2 => qSame_calls false a1 n1 c1 (wordsOf 1) ((formD s (val xs) e).2.2 + (blen (formD s (val xs) e).2.1 : Int) - 1 - i + 1) false a2 1 1 (wordsOf 1) ((formD s (val xs) e).2.2 + (blen (formD s (val xs) e).2.1 : Int) - 1 - i + 1) w' g q1 g2 (by omega)
  rw [sameB_self] at HSm
  generalize cutD (formD s (val xs) e) i false = pl at *
  generalize cutD (formD s (val xs) e) i true = ph at *
  generalize (formD s (val xs) e).2.2 + (blen (formD s (val xs) e).2.1 : Int) - 1 = tv at *
  generalize (blen (formD s (val xs) e).2.1 : Int) = bx at *
  clear h hm hi hT hl hh hr hi1 gl1 gl2 gh1 gh2 hcn hcl hch h0 e1 e2 e3 hodd hp hj hj0 t1 t2 c1 c2 c3 c4 c5 bl1 bl2 hbd hbb hlw hgt hee hup hrw
  have bw : Below w.heap.size w (w.alloc (.cells #[.bool s, .slice a len cap, .int .i64 e] 25)) := below_one _ _
  have D0 : (w.alloc (.cells #[.bool s, .slice a len cap, .int .i64 e] 25)).cell? ⟨w.heap.size, 0, none⟩ = some (.bool s) := by go_simp
  have D1 : (w.alloc (.cells #[.bool s, .slice a len cap, .int .i64 e] 25)).cell? ⟨w.heap.size, 1, none⟩ = some (.slice a len cap) := by go_simp
  have D2 : (w.alloc (.cells #[.bool s, .slice a len cap, .int .i64 e] 25)).cell? ⟨w.heap.size, 2, none⟩ = some (.int .i64 e) := by go_simp
  go_enter Tryd.func6, Tryd.ntmps6
  go_wp2_with fail
  generalize (w.alloc (.cells #[.bool s, .slice a len cap, .int .i64 e] 25)) = w0 at *
  refine Calls.mono (dyBegins_calls _ (hT0.out _ bw)) ?_
  rintro r w1 ⟨rfl, bN⟩
  replace D0 := dcarry_cell bN D0
  replace D1 := dcarry_cell bN D1
  replace D2 := dcarry_cell bN D2
  replace bw := nbelow_trans bw bN
  clear bN
  go_wp2_with fail
  refine Calls.mono (HL.out _ (H1.out.keep bw) (hT0.out _ bw)) ?_
  rintro r w2 ⟨_, rfl, ⟨a2, n2, c2, rfl, HN2, hn2, hO2⟩, bN⟩
  replace D0 := dcarry_cell bN D0
  replace D1 := dcarry_cell bN D1
  replace D2 := dcarry_cell bN D2
  replace bw := nbelow_trans bw bN
  have bA := below_one w2 (.cells #[.bool pl.1, .slice a2 n2 c2, .int .i64 pl.2.2] 25)
  have AI := hO2.1.keep bA
  replace D0 := dcarry_cell bA D0
  replace D1 := dcarry_cell bA D1
  replace D2 := dcarry_cell bA D2
  have A0 : (w2.alloc (.cells #[.bool pl.1, .slice a2 n2 c2, .int .i64 pl.2.2] 25)).cell? ⟨w2.heap.size, 0, none⟩ = some (.bool pl.1) := by go_simp
  have A1 : (w2.alloc (.cells #[.bool pl.1, .slice a2 n2 c2, .int .i64 pl.2.2] 25)).cell? ⟨w2.heap.size, 1, none⟩ = some (.slice a2 n2 c2) := by go_simp
  have A2 : (w2.alloc (.cells #[.bool pl.1, .slice a2 n2 c2, .int .i64 pl.2.2] 25)).cell? ⟨w2.heap.size, 2, none⟩ = some (.int .i64 pl.2.2) := by go_simp
  replace bw := nbelow_trans bw bA
  clear bA bN hO2
  go_wp2_with fail
  generalize w2.alloc (.cells #[.bool pl.1, .slice a2 n2 c2, .int .i64 pl.2.2] 25) = w3 at *
  refine Calls.mono (HH.out _ (H1.out.keep bw) (hT0.out _ bw)) ?_
  rintro r w4 ⟨_, rfl, ⟨a4, n4, c4, rfl, HN4, hn4, hO4⟩, bN⟩
  replace D0 := dcarry_cell bN D0
  replace D1 := dcarry_cell bN D1
  replace D2 := dcarry_cell bN D2
  replace A0 := dcarry_cell bN A0
  replace A1 := dcarry_cell bN A1
  replace A2 := dcarry_cell bN A2
  replace AI := AI.keep bN
  replace bw := nbelow_trans bw bN
  have bA := below_one w4 (.cells #[.bool ph.1, .slice a4 n4 c4, .int .i64 ph.2.2] 25)
  have BI := hO4.1.keep bA
  replace D0 := dcarry_cell bA D0
  replace D1 := dcarry_cell bA D1
  replace D2 := dcarry_cell bA D2
  replace A0 := dcarry_cell bA A0
  replace A1 := dcarry_cell bA A1
  replace A2 := dcarry_cell bA A2
  replace AI := AI.keep bA
  have B0 : (w4.alloc (.cells #[.bool ph.1, .slice a4 n4 c4, .int .i64 ph.2.2] 25)).cell? ⟨w4.heap.size, 0, none⟩ = some (.bool ph.1) := by go_simp
  have B1 : (w4.alloc (.cells #[.bool ph.1, .slice a4 n4 c4, .int .i64 ph.2.2] 25)).cell? ⟨w4.heap.size, 1, none⟩ = some (.slice a4 n4 c4) := by go_simp
  have B2 : (w4.alloc (.cells #[.bool ph.1, .slice a4 n4 c4, .int .i64 ph.2.2] 25)).cell? ⟨w4.heap.size, 2, none⟩ = some (.int .i64 ph.2.2) := by go_simp
  replace bw := nbelow_trans bw bA
  clear bA bN hO4
  go_wp2_with fail
  generalize w4.alloc (.cells #[.bool ph.1, .slice a4 n4 c4, .int .i64 ph.2.2] 25) = w5 at *
  refine Calls.mono (HM.out _ _ _ _ AI hn2 (H1.out.keep bw) (hT0.out _ bw)) ?_
  rintro r w6 ⟨rfl, bN⟩
  replace D0 := dcarry_cell bN D0
  replace D1 := dcarry_cell bN D1
  replace D2 := dcarry_cell bN D2
  replace A0 := dcarry_cell bN A0
  replace A1 := dcarry_cell bN A1
  replace A2 := dcarry_cell bN A2
  replace AI := AI.keep bN
  replace B0 := dcarry_cell bN B0
  replace B1 := dcarry_cell bN B1
  replace B2 := dcarry_cell bN B2
  replace BI := BI.keep bN
  replace bw := nbelow_trans bw bN
  clear bN
  go_wp2_with fail
  refine Calls.mono (HNn.out _ _ _ _ BI hn4 (H1.out.keep bw) (hT0.out _ bw)) ?_
  rintro r w7 ⟨rfl, bN⟩
  replace D0 := dcarry_cell bN D0
  replace D1 := dcarry_cell bN D1
  replace D2 := dcarry_cell bN D2
  replace A0 := dcarry_cell bN A0
  replace A1 := dcarry_cell bN A1
  replace A2 := dcarry_cell bN A2
  replace AI := AI.keep bN
  replace B0 := dcarry_cell bN B0
  replace B1 := dcarry_cell bN B1
  replace B2 := dcarry_cell bN B2
  replace BI := BI.keep bN
  replace bw := nbelow_trans bw bN
  clear bN
  go_wp2_with fail
  refine Calls.mono (HFl.out _ _ _ _ AI hn2 (hT0.out _ bw)) ?_
  rintro r w8 ⟨rfl, bN⟩
  replace D0 := dcarry_cell bN D0
  replace D1 := dcarry_cell bN D1
  replace D2 := dcarry_cell bN D2
  replace A0 := dcarry_cell bN A0
  replace A1 := dcarry_cell bN A1
  replace A2 := dcarry_cell bN A2
  replace AI := AI.keep bN
  replace B0 := dcarry_cell bN B0
  replace B1 := dcarry_cell bN B1
  replace B2 := dcarry_cell bN B2
  replace BI := BI.keep bN
  replace bw := nbelow_trans bw bN
  clear bN
  go_wp2_with fail
  refine Calls.mono (HFh.out _ _ _ _ BI hn4 (hT0.out _ bw)) ?_
  rintro r w9 ⟨rfl, bN⟩
  replace D0 := dcarry_cell bN D0
  replace D1 := dcarry_cell bN D1
  replace D2 := dcarry_cell bN D2
  replace A0 := dcarry_cell bN A0
  replace A1 := dcarry_cell bN A1
  replace A2 := dcarry_cell bN A2
  replace AI := AI.keep bN
  replace B0 := dcarry_cell bN B0
  replace B1 := dcarry_cell bN B1
  replace B2 := dcarry_cell bN B2
  replace BI := BI.keep bN
  replace bw := nbelow_trans bw bN
  clear bN
  go_wp2_with fail
  refine Calls.mono (HSz.out _ (H1.out.keep bw) (hT0.out _ bw)) ?_
  rintro r w10 ⟨rfl, bN⟩
  replace D0 := dcarry_cell bN D0
  replace D1 := dcarry_cell bN D1
  replace D2 := dcarry_cell bN D2
  replace A0 := dcarry_cell bN A0
  replace A1 := dcarry_cell bN A1
  replace A2 := dcarry_cell bN A2
  replace AI := AI.keep bN
  replace B0 := dcarry_cell bN B0
  replace B1 := dcarry_cell bN B1
  replace B2 := dcarry_cell bN B2
  replace BI := BI.keep bN
  replace bw := nbelow_trans bw bN
  clear bN
  go_wp2_with fail
  refine Calls.mono (HTp.out _ (H1.out.keep bw) (hT0.out _ bw)) ?_
  rintro r w11 ⟨rfl, bN⟩
  replace D0 := dcarry_cell bN D0
  replace D1 := dcarry_cell bN D1
  replace D2 := dcarry_cell bN D2
  replace A0 := dcarry_cell bN A0
  replace A1 := dcarry_cell bN A1
  replace A2 := dcarry_cell bN A2
  replace AI := AI.keep bN
  replace B0 := dcarry_cell bN B0
  replace B1 := dcarry_cell bN B1
  replace B2 := dcarry_cell bN B2
  replace BI := BI.keep bN
  replace bw := nbelow_trans bw bN
  clear bN
  go_wp2_with fail
  refine Calls.mono (HSb.out _ _ _ _ _ _ _ BI hn4 AI hn2 (hT0.out _ bw)) ?_
  rintro r w12 ⟨_, rfl, ⟨a12, n12, c12, rfl, HN12, hn12, hO12⟩, bN⟩
  replace D0 := dcarry_cell bN D0
  replace D1 := dcarry_cell bN D1
  replace D2 := dcarry_cell bN D2
  replace A0 := dcarry_cell bN A0
  replace A1 := dcarry_cell bN A1
  replace A2 := dcarry_cell bN A2
  replace AI := AI.keep bN
  replace B0 := dcarry_cell bN B0
  replace B1 := dcarry_cell bN B1
  replace B2 := dcarry_cell bN B2
  replace BI := BI.keep bN
  replace bw := nbelow_trans bw bN
  have bA := below_one w12 (.cells #[.bool false, .slice a12 n12 c12, .int .i64 (tv - i + 1)] 25)
  have TI := hO12.1.keep bA
  have T0 : (w12.alloc (.cells #[.bool false, .slice a12 n12 c12, .int .i64 (tv - i + 1)] 25)).cell? ⟨w12.heap.size, 0, none⟩ = some (.bool false) := by go_simp
  have T1 : (w12.alloc (.cells #[.bool false, .slice a12 n12 c12, .int .i64 (tv - i + 1)] 25)).cell? ⟨w12.heap.size, 1, none⟩ = some (.slice a12 n12 c12) := by go_simp
  have T2 : (w12.alloc (.cells #[.bool false, .slice a12 n12 c12, .int .i64 (tv - i + 1)] 25)).cell? ⟨w12.heap.size, 2, none⟩ = some (.int .i64 (tv - i + 1)) := by go_simp
  replace bw := nbelow_trans bw bA
  clear bA bN hO12
  clear A0 A1 A2 AI B0 B1 B2 BI D0 D1 D2
  go_wp2_with fail
  have hOne := one_words (w12.alloc (.cells #[.bool false, .slice a12 n12 c12, .int .i64 (tv - i + 1)] 25))
  rw [World.size_alloc] at hOne
  have bB := below_one (w12.alloc (.cells #[.bool false, .slice a12 n12 c12, .int .i64 (tv - i + 1)] 25)) (.cells #[.int .u64 1] 42)
  replace TI := TI.keep bB
  replace bw := nbelow_trans bw bB
  refine Calls.mono (HSm.out _ _ _ _ _ TI (by omega) hOne) ?_
  rintro r w13 ⟨rfl, bN⟩
  replace bw := nbelow_trans bw bN
  clear bN bB
  go_wp2_with fail
  go_ret
  exact ⟨rfl, bw⟩

theorem dyadCut_walk (s : Bool) (a : Option Addr) (len cap : Nat) (xs : List Int) (e : Int) (i : Int) (w : World) (h : IsW w a len cap xs) (hm : len ≤ 17592186044000) (_he : -9223372036854775808 ≤ e ∧ e ≤ 9223372036854775807) (hi : -9223372036854775808 ≤ i ∧ i ≤ 9223372036854775807) (hT : Tab w) :
    Calls Tryd.prog 6 #[dyV s a len cap e, .int .i64 i] w fun r w' => r = .returned (.bool true) ∧ Below w.heap.size w w' := by
  by_cases hl : ctE s (val xs) e i false = 0
  · by_cases hh : ctE s (val xs) e i true = 0
    · by_cases hle : (blen (formD s (val xs) e).2.1 : Int) ≤ i
      · by_cases h0 : val xs = 0
        · exact dcu_ez s a len cap xs e i w h hm hi hT hl hh hle h0
        · exact dcu_en s a len cap xs e i w h hm hi hT hl hh hle h0
      · by_cases hlw : (formD s (val xs) e).2.2 + (blen (formD s (val xs) e).2.1 : Int) - 1 - i + 1 < -32768
        · exact dcu_cl s a len cap xs e i w h hm hi hT hl hh (by omega) hlw
        · exact dcu_ch s a len cap xs e i w h hm hi hT hl hh (by omega) hlw
    · exact dcu_ob s a len cap xs e i w h hm hi hT hl hh
  · by_cases hh : ctE s (val xs) e i true = 0
    · exact dcu_bo s a len cap xs e i w h hm hi hT hl hh
    · exact dcu_bb s a len cap xs e i w h hm hi hT hl hh

end

end Go.Proofs.YtblcddcecmbkbaaDoor
