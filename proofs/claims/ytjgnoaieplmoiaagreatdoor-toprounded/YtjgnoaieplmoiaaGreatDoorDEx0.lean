/- A finite binary64 comes back; the order of such numbers is that of their bits. -/
import Derived.Test.YtjgnoaieplmoiaaGreatDoorRDB
import Derived.Test.YtjgnoaieplmoiaaGreatDoorDCmp2
namespace Go.Proofs.YtjgnoaieplmoiaaGreatDoor
open Go.RowKit

/-- The order of two amounts is that of their multiples of one unit. -/
theorem amt_scale (mx : Nat) (ex : Int) (my : Nat) (ey : Int) (hx : mx ≠ 0) (hy : my ≠ 0) (K : Nat) (hex : -(K : Int) ≤ ex) (hey : -(K : Int) ≤ ey) : amtD mx ex my ey = cmpN (mx * 2 ^ (ex + (K : Int)).toNat) (my * 2 ^ (ey + (K : Int)).toNat) := by
  obtain ⟨i, hi⟩ : ∃ i : Nat, ex + (K : Int) = (i : Int) := ⟨(ex + (K : Int)).toNat, by omega⟩
  obtain ⟨j, hj⟩ : ∃ j : Nat, ey + (K : Int) = (j : Int) := ⟨(ey + (K : Int)).toNat, by omega⟩
  rw [hi, hj, Int.toNat_natCast, Int.toNat_natCast]
  have b1 := blen_mul mx i hx
  have b2 := blen_mul my j hy
  have nx : mx * 2 ^ i ≠ 0 := Nat.mul_ne_zero hx (Nat.pos_iff_ne_zero.1 (Nat.two_pow_pos i))
  have ny : my * 2 ^ j ≠ 0 := Nat.mul_ne_zero hy (Nat.pos_iff_ne_zero.1 (Nat.two_pow_pos j))
  unfold amtD
  by_cases ht : ex + (blen mx : Int) - 1 = ey + (blen my : Int) - 1
  · rw [if_neg (by omega)]
    by_cases hl : ex < ey
    · rw [if_pos hl]
      obtain ⟨d, hd⟩ : ∃ d : Nat, ey - ex = (d : Int) := ⟨(ey - ex).toNat, by omega⟩
      rw [hd, Int.toNat_natCast, show j = d + i by omega, Nat.pow_add, ← Nat.mul_assoc]
      unfold cmpN
      have hp := Nat.two_pow_pos i
      rcases Nat.lt_trichotomy (my * 2 ^ d) mx with q | q | q
      · have q2 := (Nat.mul_lt_mul_right hp).2 q
        rw [if_pos q, if_neg (by omega), if_pos q2]; rfl
      · rw [q]; simp
      · have q2 := (Nat.mul_lt_mul_right hp).2 q
        rw [if_neg (by omega), if_pos q, if_pos q2]
    · rw [if_neg hl]
      obtain ⟨d, hd⟩ : ∃ d : Nat, ex - ey = (d : Int) := ⟨(ex - ey).toNat, by omega⟩
      rw [hd, Int.toNat_natCast, show i = d + j by omega, Nat.pow_add, ← Nat.mul_assoc]
      unfold cmpN
      have hp := Nat.two_pow_pos j
      rcases Nat.lt_trichotomy (mx * 2 ^ d) my with q | q | q
      · have q2 := (Nat.mul_lt_mul_right hp).2 q
        rw [if_pos q, if_pos q2]
      · rw [q]; simp
      · have q2 := (Nat.mul_lt_mul_right hp).2 q
        rw [if_neg (by omega), if_pos q, if_neg (by omega), if_pos q2]
  · rw [if_pos ht]
    unfold Lib.compareInt cmpN
    have key : ∀ u v : Nat, u ≠ 0 → v ≠ 0 → blen u < blen v → u < v := fun u v hu hv hb => by
      have h1 := lt_blen u
      have h2 := blen_ge v hv
      have h3 : 2 ^ blen u ≤ 2 ^ (blen v - 1) := Nat.pow_le_pow_right (by decide) (by omega)
      omega
    rcases Int.lt_or_gt_of_ne ht with q | q
    · have := key _ _ nx ny (by omega)
      rw [if_pos q, if_pos this]
    · have := key _ _ ny nx (by omega)
      rw [if_neg (by omega), if_pos q, if_neg (by omega), if_pos this]
/-- A finite number's amount in units of 2^-1074. -/
def unitsV (x : Int) : Nat := (countV x).toNat * 2 ^ (unitV x + 1074).toNat
theorem unit_low (x : Int) : -1074 ≤ unitV x := by have := exp_bd x; unfold unitV; split <;> omega
theorem form_scale (s : Bool) (m : Nat) (e : Int) (h0 : m ≠ 0) (K : Nat) (he : -(K : Int) ≤ e) : (formD s m e).2.1 * 2 ^ ((formD s m e).2.2 + (K : Int)).toNat = m * 2 ^ (e + (K : Int)).toNat := by
  have h2 := (odd_part h0).2
  rw [form_pos s h0]
  show m / 2 ^ tz m * 2 ^ (e + (tz m : Int) + (K : Int)).toNat = _
  rw [show (e + (tz m : Int) + (K : Int)).toNat = tz m + (e + (K : Int)).toNat by omega, Nat.pow_add, ← Nat.mul_assoc, h2]
theorem mag_split (x : Int) (h : U x) : x % 9223372036854775808 = expV x * 4503599627370496 + fracV x ∧ (sgnB x = true → x = 9223372036854775808 + x % 9223372036854775808) ∧ (sgnB x = false → x = x % 9223372036854775808) := by
  unfold U at h
  unfold expV fracV sgnB
  refine ⟨by omega, fun q => ?_, fun q => ?_⟩
  · have := of_decide_eq_true q; omega
  · have := of_decide_eq_false q; omega
theorem units_mono (x y : Int) (hlt : expV x * 4503599627370496 + fracV x < expV y * 4503599627370496 + fracV y) : unitsV x < unitsV y := by
  have e1 := exp_bd x
  have e2 := exp_bd y
  have f1 := frac_bd x
  have f2 := frac_bd y
  unfold unitsV countV unitV
  by_cases h1 : expV x = 0
  · by_cases h2 : expV y = 0
    · rw [if_pos h1, if_pos h1, if_pos h2, if_pos h2]
      simp only [show ((-1074 : Int) + 1074).toNat = 0 from rfl, Nat.pow_zero, Nat.mul_one]
      omega
    · rw [if_pos h1, if_pos h1, if_neg h2, if_neg h2]
      simp only [show ((-1074 : Int) + 1074).toNat = 0 from rfl, Nat.pow_zero, Nat.mul_one]
      have := Nat.two_pow_pos (expV y - 1075 + 1074).toNat
      have h3 : (fracV y + 4503599627370496).toNat * 1 ≤ (fracV y + 4503599627370496).toNat * 2 ^ (expV y - 1075 + 1074).toNat := Nat.mul_le_mul_left _ this
      omega
  · have h2 : expV y ≠ 0 := by omega
    rw [if_neg h1, if_neg h1, if_neg h2, if_neg h2]
    obtain ⟨a, ha⟩ : ∃ a : Nat, expV x - 1075 + 1074 = (a : Int) := ⟨(expV x - 1075 + 1074).toNat, by omega⟩
    obtain ⟨b, hb⟩ : ∃ b : Nat, expV y - 1075 + 1074 = (b : Int) := ⟨(expV y - 1075 + 1074).toNat, by omega⟩
    rw [ha, hb, Int.toNat_natCast, Int.toNat_natCast]
    obtain ⟨f, hf⟩ : ∃ f : Nat, fracV x = (f : Int) := ⟨(fracV x).toNat, by omega⟩
    obtain ⟨g, hg⟩ : ∃ g : Nat, fracV y = (g : Int) := ⟨(fracV y).toNat, by omega⟩
    rw [hf, hg, show ((f : Int) + 4503599627370496).toNat = f + 4503599627370496 by omega, show ((g : Int) + 4503599627370496).toNat = g + 4503599627370496 by omega]
    by_cases he : a = b
    · subst he
      exact (Nat.mul_lt_mul_right (Nat.two_pow_pos a)).2 (by omega)
    · obtain ⟨d, rfl⟩ : ∃ d, b = a + 1 + d := ⟨b - a - 1, by omega⟩
      have hp := Nat.two_pow_pos a
      have hd := Nat.two_pow_pos d
      have h3 : (f + 4503599627370496) * 2 ^ a < 9007199254740992 * 2 ^ a := (Nat.mul_lt_mul_right hp).2 (by omega)
      have h4 : 4503599627370496 * 2 ^ (a + 1 + d) ≤ (g + 4503599627370496) * 2 ^ (a + 1 + d) := Nat.mul_le_mul_right _ (by omega)
      have h5 : 9007199254740992 * 2 ^ a ≤ 4503599627370496 * 2 ^ (a + 1 + d) := by
        rw [Nat.pow_add, Nat.pow_succ, show 4503599627370496 * (2 ^ a * 2 * 2 ^ d) = 9007199254740992 * 2 ^ a * 2 ^ d by rw [Nat.mul_assoc 9007199254740992, ← Nat.mul_assoc, ← Nat.mul_assoc, ← Nat.mul_assoc]; congr 1; rw [Nat.mul_assoc, Nat.mul_comm (2 ^ a) 2, ← Nat.mul_assoc]]
        exact Nat.le_mul_of_pos_right _ hd
      omega
theorem count_nn (x : Int) : 0 ≤ countV x := by have := frac_bd x; unfold countV; split <;> omega
theorem count_zero (x : Int) : (countV x).toNat = 0 ↔ expV x * 4503599627370496 + fracV x = 0 := by
  have := frac_bd x; have := exp_bd x
  unfold countV; split <;> omega
theorem units_cmp (x y : Int) : cmpN (unitsV x) (unitsV y) = Lib.compareInt (expV x * 4503599627370496 + fracV x) (expV y * 4503599627370496 + fracV y) := by
  unfold cmpN Lib.compareInt
  rcases Int.lt_trichotomy (expV x * 4503599627370496 + fracV x) (expV y * 4503599627370496 + fracV y) with q | q | q
  · rw [if_pos (units_mono x y q), if_pos q]
  · have e1 := exp_bd x
    have e2 := exp_bd y
    have f1 := frac_bd x
    have f2 := frac_bd y
    have h1 : expV x = expV y := by omega
    have h2 : fracV x = fracV y := by omega
    have h3 : unitsV x = unitsV y := by unfold unitsV countV unitV; rw [h1, h2]
    rw [h3, q]; simp
  · have := units_mono y x q
    rw [if_neg (by omega), if_pos this, if_neg (by omega), if_pos (by omega)]
/-- The order of finite numbers is that of their rungs. -/
theorem from_cmp (x y : Int) (ux : U x) (uy : U y) : cmpD (fromD x) (fromD y) = Lib.compareInt (rungV x) (rungV y) := by
  obtain ⟨a1, a2, a3⟩ := mag_split x ux
  obtain ⟨b1, b2, b3⟩ := mag_split y uy
  have z1 := count_zero x
  have z2 := count_zero y
  have e1 := exp_bd x
  have e2 := exp_bd y
  have f1 := frac_bd x
  have f2 := frac_bd y
  have s1 : sgnD (fromD x) = if expV x * 4503599627370496 + fracV x = 0 then 0 else if sgnB x = true then -1 else 1 := by
    unfold fromD sgnD
    by_cases h0 : (countV x).toNat = 0
    · rw [h0, form_zero, if_pos rfl, if_pos (z1.1 h0)]
    · have h1 := (odd_part h0).1
      rw [form_pos _ h0, if_neg (fun q => by have q' : (countV x).toNat / 2 ^ tz (countV x).toNat = 0 := q; rw [q'] at h1; exact absurd h1 (by decide)), if_neg (fun q => h0 (z1.2 q))]
  have s2 : sgnD (fromD y) = if expV y * 4503599627370496 + fracV y = 0 then 0 else if sgnB y = true then -1 else 1 := by
    unfold fromD sgnD
    by_cases h0 : (countV y).toNat = 0
    · rw [h0, form_zero, if_pos rfl, if_pos (z2.1 h0)]
    · have h1 := (odd_part h0).1
      rw [form_pos _ h0, if_neg (fun q => by have q' : (countV y).toNat / 2 ^ tz (countV y).toNat = 0 := q; rw [q'] at h1; exact absurd h1 (by decide)), if_neg (fun q => h0 (z2.2 q))]
  have r1 : rungV x = if sgnB x = true then -(expV x * 4503599627370496 + fracV x) else expV x * 4503599627370496 + fracV x := by
    unfold rungV
    cases hs : sgnB x with
    | true => have := a2 hs; rw [if_pos (of_decide_eq_true hs), if_pos rfl]; omega
    | false => have := a3 hs; rw [if_neg (of_decide_eq_false hs), if_neg (by decide)]; omega
  have r2 : rungV y = if sgnB y = true then -(expV y * 4503599627370496 + fracV y) else expV y * 4503599627370496 + fracV y := by
    unfold rungV
    cases hs : sgnB y with
    | true => have := b2 hs; rw [if_pos (of_decide_eq_true hs), if_pos rfl]; omega
    | false => have := b3 hs; rw [if_neg (of_decide_eq_false hs), if_neg (by decide)]; omega
  have hA : (countV x).toNat ≠ 0 → (countV y).toNat ≠ 0 → amtD (fromD x).2.1 (fromD x).2.2 (fromD y).2.1 (fromD y).2.2 = Lib.compareInt (expV x * 4503599627370496 + fracV x) (expV y * 4503599627370496 + fracV y) := fun h1 h2 => by
    have g1 : (fromD x).2.1 ≠ 0 := by
      have o := (odd_part h1).1
      unfold fromD; rw [form_pos _ h1]
      exact fun q => by have q' : (countV x).toNat / 2 ^ tz (countV x).toNat = 0 := q; rw [q'] at o; exact absurd o (by decide)
    have g2 : (fromD y).2.1 ≠ 0 := by
      have o := (odd_part h2).1
      unfold fromD; rw [form_pos _ h2]
      exact fun q => by have q' : (countV y).toNat / 2 ^ tz (countV y).toNat = 0 := q; rw [q'] at o; exact absurd o (by decide)
    have l1 : -((1074 : Nat) : Int) ≤ (fromD x).2.2 := by unfold fromD; rw [form_pos _ h1]; have := unit_low x; show _ ≤ unitV x + (tz _ : Int); omega
    have l2 : -((1074 : Nat) : Int) ≤ (fromD y).2.2 := by unfold fromD; rw [form_pos _ h2]; have := unit_low y; show _ ≤ unitV y + (tz _ : Int); omega
    rw [amt_scale _ _ _ _ g1 g2 1074 l1 l2, ← units_cmp x y]
    unfold fromD
    rw [form_scale _ _ _ h1 1074 (unit_low x), form_scale _ _ _ h2 1074 (unit_low y)]
    rfl
  have hz1 : (fromD x).2.1 = 0 ↔ expV x * 4503599627370496 + fracV x = 0 := by
    unfold fromD
    by_cases h0 : (countV x).toNat = 0
    · rw [h0, form_zero]; exact ⟨fun _ => z1.1 h0, fun _ => rfl⟩
    · have o := (odd_part h0).1
      rw [form_pos _ h0]
      refine ⟨fun q => ?_, fun q => absurd (z1.2 q) h0⟩
      have q' : (countV x).toNat / 2 ^ tz (countV x).toNat = 0 := q
      rw [q'] at o; exact absurd o (by decide)
  unfold cmpD
  rw [s1, s2, r1, r2]
  generalize expV x * 4503599627370496 + fracV x = A at *
  generalize expV y * 4503599627370496 + fracV y = B at *
  have hA0 : 0 ≤ A := by omega
  have hB0 : 0 ≤ B := by omega
  by_cases hA1 : A = 0
  · by_cases hB1 : B = 0
    · rw [if_pos hA1, if_pos hB1, if_neg (by decide), if_pos (hz1.2 hA1)]
      subst hA1; subst hB1
      cases sgnB x <;> cases sgnB y <;> rfl
    · rw [if_pos hA1, if_neg hB1]
      subst hA1
      unfold Lib.compareInt
      cases sgnB x <;> cases sgnB y <;> simp <;> omega
  · by_cases hB1 : B = 0
    · rw [if_neg hA1, if_pos hB1]
      subst hB1
      unfold Lib.compareInt
      cases sgnB x <;> cases sgnB y <;> simp <;> omega
    · have := hA (fun q => hA1 (z1.1 q)) (fun q => hB1 (z2.1 q))
      rw [if_neg hA1, if_neg hB1, if_neg (fun q => hA1 (hz1.1 q)), this]
      unfold Lib.compareInt
      cases sgnB x <;> cases sgnB y <;> simp <;> (repeat' split) <;> omega
/-- A finite number comes back, but for -0. -/
theorem to_from (x : Int) (ux : U x) (hx : finB x = true) : toR (fromD x).1 (fromD x).2.1 (fromD x).2.2 = (if (countV x).toNat = 0 then 0 else x, true) := by
  obtain ⟨a1, a2, a3⟩ := mag_split x ux
  have e1 := exp_bd x
  have f1 := frac_bd x
  have hfin : expV x ≤ 2046 := by
    have := of_decide_eq_true hx
    omega
  have hcl : (countV x).toNat < 2 ^ 53 := by unfold countV; split <;> omega
  have hbl : blen (countV x).toNat ≤ 53 := (blen_le _ _).2 hcl
  have hu : unitV x ≤ 971 ∧ -1074 ≤ unitV x := by unfold unitV; split <;> omega
  by_cases h0 : (countV x).toNat = 0
  · rw [if_pos h0]
    have hz : fromD x = (false, 0, 0) := by unfold fromD; rw [h0, form_zero]
    rw [hz]
    exact toR_zero (by unfold rightB inB; rw [great_zero]; decide)
  · rw [if_neg h0]
    have o1 := (odd_part h0).1
    have o2 := (odd_part h0).2
    have hp : fromD x = (sgnB x, (countV x).toNat / 2 ^ tz (countV x).toNat, unitV x + (tz (countV x).toNat : Int)) := by unfold fromD; rw [form_pos _ h0]
    have hm0 : (countV x).toNat / 2 ^ tz (countV x).toNat ≠ 0 := fun q => by rw [q] at o1; exact absurd o1 (by decide)
    have hb := blen_mul _ (tz (countV x).toNat) hm0
    rw [o2] at hb
    rw [hp]
    generalize hc' : (countV x).toNat / 2 ^ tz (countV x).toNat = m at *
    generalize tz (countV x).toNat = t at *
    have hfo : formD (sgnB x) m (unitV x + (t : Int)) = (sgnB x, m, unitV x + (t : Int)) := form_odd _ o1 _
    have hr : rightB m (unitV x + (t : Int)) = true := by
      have : greatB m = false := (great_not _).2 (by omega)
      unfold rightB inB
      rw [this, decide_eq_true (show -32768 ≤ unitV x + (t : Int) ∧ unitV x + (t : Int) ≤ 32768 by omega)]
      rfl
    have ht : toB (formD (sgnB x) m (unitV x + (t : Int))) = true := by
      rw [hfo]
      exact decide_eq_true ⟨by show blen m ≤ 53; omega, by show -1074 ≤ unitV x + (t : Int); omega, by show unitV x + (t : Int) + (blen m : Int) - 1 ≤ 1023; omega⟩
    show toR (sgnB x) m (unitV x + (t : Int)) = _
    rw [toR_yes hr hm0 ht, hfo]
    show (joinV (sgnB x) (fldE m (unitV x + (t : Int))) (fldF m (unitV x + (t : Int))), true) = _
    have hE : fldE m (unitV x + (t : Int)) = expV x ∧ fldF m (unitV x + (t : Int)) = fracV x := by
      unfold fldE fldF
      by_cases hx0 : expV x = 0
      · have hu2 : unitV x = -1074 := by unfold unitV; rw [if_pos hx0]
        have hcv : countV x = fracV x := by unfold countV; rw [if_pos hx0]
        have hb2 : blen (countV x).toNat ≤ 52 := (blen_le _ _).2 (by rw [hcv]; omega)
        rw [if_pos (by omega), if_pos (by omega), hu2, show (-1074 + (t : Int) + 1074).toNat = t by omega, o2, hcv]
        omega
      · have hu2 : unitV x = expV x - 1075 := by unfold unitV; rw [if_neg hx0]
        have hcv : countV x = fracV x + 4503599627370496 := by unfold countV; rw [if_neg hx0]
        have hb2 : ¬ blen (countV x).toNat ≤ 52 := fun q => by
          have := (blen_le _ _).1 q
          rw [hcv] at this
          omega
        rw [if_neg (by omega), if_neg (by omega), hu2, show 53 - blen m = t by omega, o2, hcv]
        omega
    rw [hE.1, hE.2]
    have hj : joinE (expV x) (fracV x) = 0 := by unfold joinE; rw [if_neg (by omega)]
    unfold joinV
    rw [if_pos hj]
    cases hs : sgnB x with
    | true => have := a2 hs; simp; omega
    | false => have := a3 hs; simp; omega
theorem from_right (x : Int) : rightB (fromD x).2.1 (fromD x).2.2 = true ∧ greatB (fromD x).2.1 = false := by
  have e1 := exp_bd x
  have f1 := frac_bd x
  have hcl : (countV x).toNat < 2 ^ 53 := by unfold countV; split <;> omega
  have hbl : blen (countV x).toNat ≤ 53 := (blen_le _ _).2 hcl
  have hu : unitV x ≤ 972 ∧ -1074 ≤ unitV x := by unfold unitV; split <;> omega
  have hg : greatB (fromD x).2.1 = false := (great_not _).2 (by have := blen_mono (form_amount_le (sgnB x) (countV x).toNat (unitV x)); show blen (formD _ _ _).2.1 ≤ _; omega)
  refine ⟨?_, hg⟩
  unfold rightB
  rw [hg]
  unfold fromD inB
  by_cases h0 : (countV x).toNat = 0
  · rw [h0, form_zero]; rfl
  · have := tz_le_blen (countV x).toNat
    rw [form_pos _ h0, decide_eq_true (show -32768 ≤ unitV x + (tz (countV x).toNat : Int) ∧ unitV x + (tz (countV x).toNat : Int) ≤ 32768 by omega)]
    rfl
end Go.Proofs.YtjgnoaieplmoiaaGreatDoor
