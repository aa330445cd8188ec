/- Floats without bounds, in least units: which whole numbers are floats; what is rounded; errors of sums are floats. Errors of sums are floats; what TwoSum and FastTwoSum leave is the exact error. TwoSum and FastTwoSum lose nothing. One operation on floats, as rounding in least units. Split and TwoProd lose nothing, in whole numbers. TwoProd loses nothing, in whole numbers. The steps without an error, float by float: what TwoSum and FastTwoSum leave is the exact error. Split and TwoProd, float by float: nothing is lost. Moderate floats: not too small; what the steps come to either way round. -/
import Derived.Test.YtlbaphijmonjoaaDTq

namespace Go.Proofs.Ytlbaphijmonjoaa.Fp
open EP Ieee

/-- A whole number of least units that a float is (whatever its size). -/
def Fl (x : Int) : Prop := ∃ c k : Nat, x.natAbs = c * 2 ^ k ∧ c ≤ 9007199254740992
theorem fl_neg {x : Int} (h : Fl x) : Fl (-x) := by
  obtain ⟨c, k, h1, h2⟩ := h
  exact ⟨c, k, by rw [Int.natAbs_neg]; exact h1, h2⟩
theorem fl_zero : Fl 0 := ⟨0, 0, rfl, by decide⟩
/-- the exponent of the last bit that is kept -/
def kk (x : Int) : Nat := x.natAbs.log2 - 52
theorem kk_lt (x : Int) : x.natAbs < 2 ^ (53 + kk x) := by
  by_cases h : x.natAbs = 0
  · rw [h]; exact pow2_pos _
  · obtain ⟨-, h2⟩ := kept_pow x.natAbs _ rfl h
    unfold kk
    exact Nat.lt_of_lt_of_le h2 (Nat.pow_le_pow_right (by decide) (by omega))
theorem kk_ge (x : Int) (h : 0 < kk x) : 2 ^ (52 + kk x) ≤ x.natAbs := by
  have h0 : x.natAbs ≠ 0 := fun q => by unfold kk at h; rw [q] at h; exact absurd h (by decide)
  obtain ⟨h1, -⟩ := kept_pow x.natAbs _ rfl h0
  unfold kk at *
  rw [show 52 + (x.natAbs.log2 - 52) = x.natAbs.log2 by omega]
  exact h1
theorem kk_mono {x y : Int} (h : x.natAbs ≤ y.natAbs) : kk x ≤ kk y := by
  unfold kk
  by_cases h0 : x.natAbs = 0
  · rw [h0]; exact Nat.zero_le _
  · have : x.natAbs.log2 ≤ y.natAbs.log2 := (Nat.le_log2 (by omega)).2 (Nat.le_trans (Nat.log2_self_le h0) h)
    omega
theorem kk_neg (x : Int) : kk (-x) = kk x := by unfold kk; rw [Int.natAbs_neg]
/-- what is a multiple of 2^j and has no more than 53 bits behind it -/
theorem fl_of {x : Int} (j : Nat) (h : 2 ^ j ∣ x.natAbs) (hb : x.natAbs ≤ 9007199254740992 * 2 ^ j) : Fl x := by
  obtain ⟨c, hc⟩ := h
  refine ⟨c, j, by rw [hc, Nat.mul_comm], ?_⟩
  rw [hc, Nat.mul_comm] at hb
  exact Nat.le_of_mul_le_mul_right hb (pow2_pos j)
/-- a float is a multiple of its last bit -/
theorem fl_dvd {x : Int} (h : Fl x) : 2 ^ kk x ∣ x.natAbs := by
  obtain ⟨c, k, h1, h2⟩ := h
  by_cases h0 : x.natAbs = 0
  · rw [h0]; exact Nat.dvd_zero _
  · by_cases hk : kk x ≤ k
    · rw [h1]
      exact Nat.dvd_trans (Nat.pow_dvd_pow 2 hk) (Nat.dvd_mul_left _ _)
    · have hge := kk_ge x (by omega)
      rw [h1] at hge ⊢
      have hp := pow2_pos k
      have h3 : 2 ^ (52 + kk x) = 2 ^ (52 + kk x - k) * 2 ^ k := by rw [← Nat.pow_add]; congr 1; omega
      rw [h3] at hge
      have h4 := Nat.le_of_mul_le_mul_right hge hp
      have h5 : 2 ^ 53 ≤ 2 ^ (52 + kk x - k) := Nat.pow_le_pow_right (by decide) (by omega)
      have h6 : (2 : Nat) ^ 53 = 9007199254740992 := by decide
      have h7 : c = 9007199254740992 := by omega
      have h8 : 52 + kk x - k = 53 := by
        by_cases q : 52 + kk x - k ≤ 53
        · omega
        · have := Nat.pow_le_pow_right (n := 2) (by decide) (show 54 ≤ 52 + kk x - k by omega)
          have h9 : (2 : Nat) ^ 54 = 18014398509481984 := by decide
          omega
      rw [h7, ← h6, ← Nat.pow_add]
      exact Nat.pow_dvd_pow 2 (by omega)
theorem R_he (T : Nat) : R (rn T) = he T (T.log2 - 52) * 2 ^ (T.log2 - 52) := by
  by_cases h : T = 0
  · rw [h]; decide
  · exact R_rn T h
theorem G_abs (E : Int) : (G E).natAbs = he E.natAbs (kk E) * 2 ^ kk E := by
  have := R_he E.natAbs
  unfold G kk
  split <;> omega
theorem he_top (T : Nat) : he T (T.log2 - 52) ≤ 9007199254740992 := by
  by_cases h : T = 0
  · rw [h]; decide
  · exact (rn_bounds T h).1
theorem G_fl (E : Int) : Fl (G E) := ⟨_, _, G_abs E, he_top _⟩
theorem G_dvd (E : Int) : 2 ^ kk E ∣ (G E).natAbs := by rw [G_abs]; exact Nat.dvd_mul_left _ _
theorem G_neg (E : Int) : G (-E) = - G E := by
  unfold G
  rw [Int.natAbs_neg]
  by_cases h : E < 0
  · rw [if_pos h, if_neg (by omega)]; omega
  · by_cases h0 : E = 0
    · rw [h0]; decide
    · rw [if_neg h, if_pos (by omega)]
theorem G_nonneg {E : Int} (h : 0 ≤ E) : 0 ≤ G E := by
  unfold G
  rw [if_neg (by omega)]
  omega
theorem G_fix {E : Int} (h : Fl E) : G E = E := by
  obtain ⟨c, hc⟩ := fl_dvd h
  have h1 := R_he E.natAbs
  have h2 : he E.natAbs (kk E) = c := by
    rw [show E.natAbs = c * 2 ^ kk E by rw [hc, Nat.mul_comm]]
    exact he_exact _ _
  have h3 : R (rn E.natAbs) = E.natAbs := by
    rw [h1, show E.natAbs.log2 - 52 = kk E from rfl, h2, Nat.mul_comm]
    exact hc.symm
  unfold G
  rw [h3]
  split <;> omega
theorem he_half (n d : Nat) : 2 * (he n d * 2 ^ d) ≤ 2 * n + 2 ^ d ∧ 2 * n ≤ 2 * (he n d * 2 ^ d) + 2 ^ d := by
  unfold he
  have hp := pow2_pos d
  have e := Nat.div_add_mod n (2 ^ d)
  have hm := Nat.mod_lt n hp
  have e2 : (n / 2 ^ d + (decide (2 ^ d < 2 * (n % 2 ^ d)) || ((2 ^ d == 2 * (n % 2 ^ d)) && (n / 2 ^ d % 2 == 1))).toNat) * 2 ^ d = 2 ^ d * (n / 2 ^ d) + (decide (2 ^ d < 2 * (n % 2 ^ d)) || ((2 ^ d == 2 * (n % 2 ^ d)) && (n / 2 ^ d % 2 == 1))).toNat * 2 ^ d := by rw [Nat.add_mul, Nat.mul_comm]
  rw [e2]
  generalize 2 ^ d * (n / 2 ^ d) = q at *
  generalize n / 2 ^ d % 2 = o at *
  generalize n % 2 ^ d = r at *
  generalize 2 ^ d = g at *
  by_cases p1 : g < 2 * r
  · rw [decide_eq_true p1, Bool.true_or]
    simp only [Bool.toNat_true, Nat.one_mul]
    omega
  · rw [decide_eq_false p1, Bool.false_or]
    by_cases p2 : g = 2 * r
    · cases hb : ((g == 2 * r) && (o == 1))
      · simp only [Bool.toNat_false, Nat.zero_mul]; omega
      · simp only [Bool.toNat_true, Nat.one_mul]; omega
    · rw [beq_eq_false_iff_ne.2 p2, Bool.false_and]
      simp only [Bool.toNat_false, Nat.zero_mul]
      omega
/-- what rounding takes away is at most half of the last bit that is kept -/
theorem G_half (E : Int) : 2 * (G E - E).natAbs ≤ 2 ^ kk E := by
  have h1 := he_half E.natAbs (kk E)
  have h2 := G_abs E
  generalize he E.natAbs (kk E) * 2 ^ kk E = m at *
  generalize 2 ^ kk E = g at *
  by_cases h : E < 0
  · have : G E ≤ 0 := by unfold G; rw [if_pos h]; omega
    omega
  · have := G_nonneg (show 0 ≤ E by omega)
    omega
end Go.Proofs.Ytlbaphijmonjoaa.Fp

namespace Go.Proofs.Ytlbaphijmonjoaa.Fp
open EP Ieee

/-- a multiple of 2^j -/
def Dv (j : Nat) (x : Int) : Prop := ((2 ^ j : Nat) : Int) ∣ x
theorem Dv.add {j : Nat} {x y : Int} (h : Dv j x) (k : Dv j y) : Dv j (x + y) := Int.dvd_add h k
theorem Dv.sub {j : Nat} {x y : Int} (h : Dv j x) (k : Dv j y) : Dv j (x - y) := Int.dvd_sub h k
theorem Dv.neg {j : Nat} {x : Int} (h : Dv j x) : Dv j (-x) := Int.dvd_neg.2 h
theorem Dv.low {i j : Nat} {x : Int} (h : Dv j x) (hi : i ≤ j) : Dv i x := Int.dvd_trans (Int.natCast_dvd_natCast.2 (Nat.pow_dvd_pow 2 hi)) h
theorem dv_abs {j : Nat} {x : Int} : Dv j x ↔ 2 ^ j ∣ x.natAbs := Int.ofNat_dvd_left
theorem fl_dv {x : Int} (h : Fl x) : Dv (kk x) x := dv_abs.2 (fl_dvd h)
theorem G_dv (E : Int) : Dv (kk E) (G E) := dv_abs.2 (G_dvd E)
theorem p53 (j : Nat) : 2 ^ (53 + j) = 9007199254740992 * 2 ^ j := by rw [Nat.pow_add]
theorem fl_dv_of {x : Int} (j : Nat) (h : Dv j x) (hb : x.natAbs ≤ 9007199254740992 * 2 ^ j) : Fl x := fl_of j (dv_abs.1 h) hb
/-- a multiple of g that is less than g in amount is 0 -/
theorem small_zero {j : Nat} {x : Int} (h : Dv j x) (hb : x.natAbs < 2 ^ j) : x = 0 := by
  obtain ⟨c, hc⟩ := dv_abs.1 h
  by_cases q : c = 0
  · rw [q, Nat.mul_zero] at hc; omega
  · have : 2 ^ j * 1 ≤ 2 ^ j * c := Nat.mul_le_mul_left _ (by omega)
    omega
/-- a multiple of g that is below a multiple of g is so by g at least -/
theorem gap {j : Nat} {x y : Int} (h : Dv j x) (k : Dv j y) (hlt : x < y) : x + ((2 ^ j : Nat) : Int) ≤ y := by
  refine Int.le_of_not_gt fun q => ?_
  have := small_zero (k.sub h) (by omega)
  omega
theorem near_mult (E m : Int) (h : Dv (kk E) m) : (E - G E).natAbs ≤ (E - m).natAbs := by
  refine Nat.le_of_not_lt fun q => ?_
  have h1 := G_half E
  have h2 : (m - G E).natAbs < 2 ^ kk E := by
    generalize 2 ^ kk E = g at *
    omega
  have := small_zero (h.sub (G_dv E)) h2
  omega
/-- nothing is nearer than what is rounded to -/
theorem near_fl (E f : Int) (hf : Fl f) : (E - G E).natAbs ≤ (E - f).natAbs := by
  by_cases hk : kk E ≤ kk f
  · exact near_mult E f ((fl_dv hf).low hk)
  · have h1 := kk_ge E (by omega)
    have h2 : f.natAbs < 2 ^ (52 + kk E) := Nat.lt_of_lt_of_le (kk_lt f) (Nat.pow_le_pow_right (by decide) (by omega))
    have hd : Dv (kk E) ((2 ^ (52 + kk E) : Nat) : Int) := dv_abs.2 (by rw [Int.natAbs_natCast]; exact Nat.pow_dvd_pow 2 (by omega))
    by_cases hs : E < 0
    · have := near_mult E _ hd.neg
      generalize 2 ^ (52 + kk E) = P at *
      omega
    · have := near_mult E _ hd
      generalize 2 ^ (52 + kk E) = P at *
      omega
/-- what is left of a sum of two floats is a float, and no greater than either -/
theorem err_le (a b : Int) (ha : Fl a) (hb : Fl b) : (a + b - G (a + b)).natAbs ≤ a.natAbs ∧ (a + b - G (a + b)).natAbs ≤ b.natAbs := by
  have h1 := near_fl (a + b) a ha
  have h2 := near_fl (a + b) b hb
  rw [show a + b - a = b by omega] at h1
  rw [show a + b - b = a by omega] at h2
  exact ⟨h2, h1⟩
theorem fl_sum_low {a b : Int} {j : Nat} (ha : Dv j a) (hb : Dv j b) (hk : kk (a + b) ≤ j) : Fl (a + b) :=
  fl_dv_of (kk (a + b)) ((ha.add hb).low hk) (by rw [← p53]; exact Nat.le_of_lt (kk_lt _))
theorem err_fl (a b : Int) (ha : Fl a) (hb : Fl b) : Fl (a + b - G (a + b)) := by
  obtain ⟨e1, e2⟩ := err_le a b ha hb
  have d1 : Dv (min (kk a) (kk b)) a := (fl_dv ha).low (Nat.min_le_left _ _)
  have d2 : Dv (min (kk a) (kk b)) b := (fl_dv hb).low (Nat.min_le_right _ _)
  by_cases hk : kk (a + b) ≤ min (kk a) (kk b)
  · rw [G_fix (fl_sum_low d1 d2 hk), Int.sub_self]
    exact fl_zero
  · refine fl_dv_of (min (kk a) (kk b)) ((d1.add d2).sub ((G_dv _).low (by omega))) ?_
    rw [← p53]
    have l1 := kk_lt a
    have l2 := kk_lt b
    by_cases q : kk a ≤ kk b
    · rw [Nat.min_eq_left q]; omega
    · rw [Nat.min_eq_right (by omega)]; omega
theorem sterbenz (x y : Int) (hx : Fl x) (hy : Fl y) (h0 : 0 ≤ y) (h1 : y ≤ x) (h2 : x ≤ 2 * y) : Fl (x - y) := by
  have hk : kk y ≤ kk x := kk_mono (by omega)
  refine fl_dv_of (kk y) (((fl_dv hx).low hk).sub (fl_dv hy)) ?_
  rw [← p53]
  have := kk_lt y
  omega
/-- the greatest multiple of 2^j below 2^(53 + j) -/
theorem top_gap {x : Int} {j : Nat} (h : Dv j x) (hb : x.natAbs < 2 ^ (53 + j)) : x.natAbs + 2 ^ j ≤ 2 ^ (53 + j) := by
  have hd : Dv j ((2 ^ (53 + j) : Nat) : Int) := dv_abs.2 (by rw [Int.natAbs_natCast]; exact Nat.pow_dvd_pow 2 (by omega))
  have hx : Dv j ((x.natAbs : Nat) : Int) := dv_abs.2 (by rw [Int.natAbs_natCast]; exact dv_abs.1 h)
  have := gap hx hd (by omega)
  omega
/-- a sum less the greater of the two is a float -/
theorem fast_exact (a b : Int) (ha : Fl a) (hb : Fl b) (h : b.natAbs ≤ a.natAbs) : Fl (G (a + b) - a) := by
  have hkk : kk b ≤ kk a := kk_mono h
  have d1 : Dv (kk b) a := (fl_dv ha).low hkk
  have d2 := fl_dv hb
  obtain ⟨-, e2⟩ := err_le a b ha hb
  have l2 := kk_lt b
  by_cases hk : kk (a + b) ≤ kk b
  · rw [G_fix (fl_sum_low d1 d2 hk), show a + b - a = b by omega]
    exact hb
  · by_cases ha2 : kk b < kk a
    · refine fl_dv_of (kk b + 1) (((G_dv _).low (by omega)).sub ((fl_dv ha).low ha2)) ?_
      rw [← p53, show 53 + (kk b + 1) = 53 + kk b + 1 by omega, Nat.pow_succ]
      omega
    · have hkab : kk a = kk b := by omega
      have l1 := kk_lt a
      rw [hkab] at l1
      have ls : kk (a + b) = kk b + 1 := by
        refine Nat.le_antisymm ?_ (by omega)
        refine Nat.le_of_not_lt fun q => ?_
        have h1 := kk_ge (a + b) (by omega)
        have h2 := Nat.pow_le_pow_right (n := 2) (by decide) (show 53 + kk b + 1 ≤ 52 + kk (a + b) by omega)
        rw [Nat.pow_succ] at h2
        omega
      have hh := G_half (a + b)
      rw [ls, Nat.pow_succ] at hh
      have tg := top_gap d2 l2
      refine fl_dv_of (kk b) (((G_dv _).low (by omega)).sub d1) ?_
      rw [← p53]
      generalize 2 ^ (53 + kk b) = P at *
      generalize 2 ^ kk b = g at *
      omega
end Go.Proofs.Ytlbaphijmonjoaa.Fp

namespace Go.Proofs.Ytlbaphijmonjoaa.Fp
open EP Ieee

theorem fl_twice {x : Int} (h : Fl x) : Fl (2 * x) := by
  obtain ⟨c, k, h1, h2⟩ := h
  exact ⟨c, k + 1, by rw [Int.natAbs_mul, h1, Nat.pow_succ]; show 2 * (c * 2 ^ k) = c * (2 ^ k * 2); rw [Nat.mul_comm 2, Nat.mul_assoc], h2⟩
/-- a float is small, or twice a float -/
theorem fl_half {s : Int} (h : Fl s) : s.natAbs ≤ 9007199254740992 ∨ ∃ d : Int, s = 2 * d ∧ Fl d := by
  obtain ⟨c, k, h1, h2⟩ := h
  cases k with
  | zero => left; rw [h1, Nat.pow_zero, Nat.mul_one]; exact h2
  | succ k =>
    right
    rw [Nat.pow_succ, ← Nat.mul_assoc] at h1
    by_cases hs : s < 0
    · exact ⟨-((c * 2 ^ k : Nat) : Int), by generalize c * 2 ^ k = m at *; omega, c, k, by rw [Int.natAbs_neg, Int.natAbs_natCast], h2⟩
    · exact ⟨((c * 2 ^ k : Nat) : Int), by generalize c * 2 ^ k = m at *; omega, c, k, by rw [Int.natAbs_natCast], h2⟩
theorem fl_small {x : Int} (h : x.natAbs ≤ 9007199254740992) : Fl x := ⟨x.natAbs, 0, by rw [Nat.pow_zero, Nat.mul_one], h⟩
theorem kk_twice (b : Int) : kk (2 * b) ≤ kk b + 1 := by
  refine Nat.le_of_not_lt fun q => ?_
  have h1 := kk_ge (2 * b) (by omega)
  have h2 := kk_lt b
  have h3 := Nat.pow_le_pow_right (n := 2) (by decide) (show 53 + kk b + 1 ≤ 52 + kk (2 * b) by omega)
  rw [Nat.pow_succ] at h3
  omega
/-- where the second is the greater and above 0: the first difference lies near it -/
theorem caseB (a b : Int) (ha : Fl a) (hb : Fl b) (h0 : 0 < b) (hab : a.natAbs < b.natAbs) : Fl (G (a + b) - G (G (a + b) - a)) ∧ Fl (b - G (G (a + b) - a)) := by
  have hes := err_fl a b ha hb
  have hhalf := G_half (a + b)
  have hs0 : 0 ≤ G (a + b) := G_nonneg (by omega)
  have hfs : Fl (G (a + b)) := G_fl _
  have hk1 : kk (a + b) ≤ kk b + 1 := Nat.le_trans (kk_mono (by omega)) (kk_twice b)
  have hup : a ≤ 0 → G (a + b) ≤ b := fun q => by have := G_mono (a + b) b (by omega); rwa [G_fix hb] at this
  have hlo : 0 ≤ a → b ≤ G (a + b) := fun q => by have := G_mono b (a + b) (by omega); rwa [G_fix hb] at this
  have hbig : ∀ f, Fl f → f ≤ a + b → f ≤ G (a + b) := fun f hf q => by have := G_mono f (a + b) q; rwa [G_fix hf] at this
  have hex : Fl (a + b) → G (a + b) = a + b := G_fix
  generalize G (a + b) = s at *
  by_cases hF : Fl (s - a)
  · rw [G_fix hF]
    exact ⟨by rw [show s - (s - a) = a by omega]; exact ha, by rw [show b - (s - a) = a + b - s by omega]; exact hes⟩
  · have hnear := near_fl (s - a) b hb
    have hdx := G_dv (s - a)
    have hfx : Fl (G (s - a)) := G_fl _
    have hxs : 0 ≤ a → G (s - a) ≤ s := fun q => by have := G_mono (s - a) s (by omega); rwa [G_fix hfs] at this
    have hsx : a ≤ 0 → s ≤ G (s - a) := fun q => by have := G_mono s (s - a) (by omega); rwa [G_fix hfs] at this
    have hup2 : ∀ f, Fl f → s - a ≤ f → G (s - a) ≤ f := fun f hf q => by have := G_mono (s - a) f q; rwa [G_fix hf] at this
    have hlo2 : ∀ f, Fl f → f ≤ s - a → f ≤ G (s - a) := fun f hf q => by have := G_mono f (s - a) q; rwa [G_fix hf] at this
    have hkx : kk b - 1 ≤ kk (s - a) := by
      by_cases hkb : kk b ≤ 1
      · omega
      · have hb2 := kk_ge b (by omega)
        refine Nat.le_of_not_lt fun q => ?_
        have h1 := kk_lt (s - a)
        have h2 := Nat.pow_le_pow_right (n := 2) (by decide) (show 53 + kk (s - a) ≤ 51 + kk b by omega)
        have h3 : 2 ^ (52 + kk b) = 2 * 2 ^ (51 + kk b) := by rw [show 52 + kk b = 51 + kk b + 1 by omega, Nat.pow_succ, Nat.mul_comm]
        have h4 : 2 ^ kk (a + b) ≤ 2 ^ (kk b + 1) := Nat.pow_le_pow_right (by decide) hk1
        have h5 : 2 ^ (kk b + 1) ≤ 2 ^ (51 + kk b) := Nat.pow_le_pow_right (by decide) (by omega)
        generalize 2 ^ (52 + kk b) = P at *
        generalize 2 ^ (51 + kk b) = Q at *
        generalize 2 ^ kk (a + b) = g at *
        generalize 2 ^ (kk b + 1) = g2 at *
        generalize 2 ^ (53 + kk (s - a)) = g3 at *
        omega
    generalize G (s - a) = x at *
    constructor
    · by_cases hn : a ≤ 0
      · have h1 := hsx hn
        have h2 : x ≤ 2 * s := by
          refine hup2 _ (fl_twice hfs) ?_
          by_cases q : 2 * (-a) ≤ b
          · have := hbig (-a) (fl_neg ha) (by omega)
            omega
          · exfalso
            have hst := sterbenz b (-a) hb (fl_neg ha) (by omega) (by omega) (by omega)
            rw [show b - -a = a + b by omega] at hst
            have := hex hst
            apply hF
            rw [this, show a + b - a = b by omega]
            exact hb
        have := fl_neg (sterbenz x s hfx hfs hs0 h1 h2)
        rwa [show -(x - s) = s - x by omega] at this
      · have h1 := hxs (by omega)
        have h2 := hlo (by omega)
        have h3 : s ≤ 2 * x := by
          rcases fl_half hfs with q | ⟨d, rfl, hd⟩
          · exact absurd (fl_small (by omega)) hF
          · by_cases q : a ≤ d
            · have := hlo2 d hd (by omega)
              omega
            · exfalso
              have hda : kk d ≤ kk a := kk_mono (by omega)
              have hdb : kk d ≤ kk b := kk_mono (by omega)
              have g1 := gap (fl_dv hd) ((fl_dv ha).low hda) (by omega)
              have g2 := gap ((fl_dv ha).low hda) ((fl_dv hb).low hdb) (by omega)
              have tg := top_gap (fl_dv hd) (kk_lt d)
              have hp : (0 : Nat) < 2 ^ kk d := pow2_pos _
              have hfd : Fl (d + ((2 ^ kk d : Nat) : Int)) := by
                refine fl_dv_of (kk d) ((fl_dv hd).add (Int.dvd_refl _)) ?_
                rw [← p53]
                generalize 2 ^ (53 + kk d) = P at *
                generalize 2 ^ kk d = g at *
                omega
              have := hbig _ (fl_twice hfd) (by generalize 2 ^ kk d = g at *; omega)
              generalize 2 ^ kk d = g at *
              omega
        exact sterbenz s x hfs hfx (by omega) h1 h3
    · refine fl_dv_of (kk b - 1) (((fl_dv hb).low (by omega)).sub (hdx.low hkx)) ?_
      have h4 : 2 ^ kk (a + b) ≤ 2 ^ (kk b + 1) := Nat.pow_le_pow_right (by decide) hk1
      have h5 : 2 ^ (kk b + 1) ≤ 4 * 2 ^ (kk b - 1) := by
        rw [show (4 : Nat) = 2 ^ 2 by decide, ← Nat.pow_add]
        exact Nat.pow_le_pow_right (by decide) (by omega)
      generalize 2 ^ kk (a + b) = g at *
      generalize 2 ^ (kk b + 1) = g2 at *
      generalize 2 ^ (kk b - 1) = g3 at *
      omega
/-- TwoSum's error is the exact one. -/
theorem twoSum_G (a b : Int) (ha : Fl a) (hb : Fl b) : G (G (a - G (G (a + b) - G (G (a + b) - a))) + G (b - G (G (a + b) - a))) = a + b - G (a + b) := by
  have hes := err_fl a b ha hb
  have hfs : Fl (G (a + b)) := G_fl _
  by_cases hF : Fl (G (a + b) - a)
  · rw [G_fix hF, show G (a + b) - (G (a + b) - a) = a by omega, G_fix ha, Int.sub_self, G_fix fl_zero, Int.zero_add, show b - (G (a + b) - a) = a + b - G (a + b) by omega, G_fix hes, G_fix hes]
  · have hab : a.natAbs < b.natAbs := by
      refine Nat.lt_of_not_le fun q => hF (fast_exact a b ha hb q)
    have hk : Fl (G (a + b) - G (G (a + b) - a)) ∧ Fl (b - G (G (a + b) - a)) := by
      by_cases hp : 0 < b
      · exact caseB a b ha hb hp hab
      · have := caseB (-a) (-b) (fl_neg ha) (fl_neg hb) (by omega) (by omega)
        rw [show -a + -b = -(a + b) by omega, G_neg, show -G (a + b) - -a = -(G (a + b) - a) by omega, G_neg] at this
        obtain ⟨q1, q2⟩ := this
        have q3 := fl_neg q1
        have q4 := fl_neg q2
        rw [show -(-G (a + b) - -G (G (a + b) - a)) = G (a + b) - G (G (a + b) - a) by omega] at q3
        rw [show -(-b - -G (G (a + b) - a)) = b - G (G (a + b) - a) by omega] at q4
        exact ⟨q3, q4⟩
    have hd := err_fl (G (a + b)) (-a) hfs (fl_neg ha)
    rw [show G (a + b) + -a = G (a + b) - a by omega] at hd
    have hda : Fl (a - (G (a + b) - G (G (a + b) - a))) := by
      have := fl_neg hd
      rwa [show -(G (a + b) - a - G (G (a + b) - a)) = a - (G (a + b) - G (G (a + b) - a)) by omega] at this
    rw [G_fix hk.1, G_fix hda, G_fix hk.2, show a - (G (a + b) - G (G (a + b) - a)) + (b - G (G (a + b) - a)) = a + b - G (a + b) by omega, G_fix hes]
/-- FastTwoSum's error is the exact one, where the second is no greater. -/
theorem fast_G (a b : Int) (ha : Fl a) (hb : Fl b) (h : b.natAbs ≤ a.natAbs ∨ a = 0) : G (b - G (G (a + b) - a)) = a + b - G (a + b) := by
  have hes := err_fl a b ha hb
  have hF : Fl (G (a + b) - a) := by
    rcases h with h | h
    · exact fast_exact a b ha hb h
    · subst h
      rw [Int.zero_add, G_fix hb, Int.sub_zero]
      exact hb
  rw [G_fix hF, show b - (G (a + b) - a) = a + b - G (a + b) by omega, G_fix hes]
end Go.Proofs.Ytlbaphijmonjoaa.Fp

namespace Go.Proofs.Ytlbaphijmonjoaa.Fp
open EP Ieee

theorem sum_E (da db : Datum) (s t : Bool) (m n p q : Nat) (va vb : Int)
    (ea : da = .number s m (-1074 + (p : Int))) (eb : db = .number t n (-1074 + (q : Int)))
    (hva : va = if s then - ((m * 2 ^ p : Nat) : Int) else ((m * 2 ^ p : Nat) : Int))
    (hvb : vb = if t then - ((n * 2 ^ q : Nat) : Int) else ((n * 2 ^ q : Nat) : Int)) (h0 : va + vb ≠ 0) :
    (da.sum db).map double.write = some (double.word (decide (va + vb < 0)) (min (rn (va + vb).natAbs) 9218868437227405312)) := by
  subst ea eb
  show some (double.nearest (if signed s m _ + signed t n _ = 0 then s && t else decide (signed s m _ + signed t n _ < 0)) (signed s m _ + signed t n _).natAbs _) = _
  have hb : min (-1074 + (p : Int)) (-1074 + (q : Int)) = -1074 + ((min p q : Nat) : Int) := by omega
  rw [hb]
  have hu : (-1074 + (p : Int) - (-1074 + ((min p q : Nat) : Int))).toNat = p - min p q := by omega
  have hw : (-1074 + (q : Int) - (-1074 + ((min p q : Nat) : Int))).toNat = q - min p q := by omega
  rw [hu, hw]
  have sa := signed_scale s m (p - min p q) (min p q) p (by omega)
  have sb := signed_scale t n (q - min p q) (min p q) q (by omega)
  rw [← hva] at sa
  rw [← hvb] at sb
  generalize signed s m (p - min p q) = A at *
  generalize signed t n (q - min p q) = B at *
  generalize min p q = z at *
  have hS : (A + B) * ((2 ^ z : Nat) : Int) = va + vb := by rw [Int.add_mul, sa, sb]
  have hM : (A + B).natAbs * 2 ^ z = (va + vb).natAbs := by rw [← hS, Int.natAbs_mul]; rfl
  have hz : (0 : Int) < ((2 ^ z : Nat) : Int) := by have := pow2_pos z; omega
  have hn : A + B ≠ 0 := fun q => h0 (by rw [← hS, q, Int.zero_mul])
  have hd : decide (A + B < 0) = decide (va + vb < 0) := by
    rw [Bool.eq_iff_iff, decide_eq_true_eq, decide_eq_true_eq, ← hS]
    constructor
    · intro g
      exact Int.mul_neg_of_neg_of_pos g hz
    · intro g
      refine Int.lt_of_not_ge fun k => ?_
      have := Int.mul_nonneg k (Int.le_of_lt hz)
      omega
  rw [if_neg hn, hd, nearest_rn _ _ _ (by omega), hM]
/-- a finite word of that rung is what is rounded to -/
theorem word_G (E : Int) (hf : finB (double.word (decide (E < 0)) (min (rn E.natAbs) 9218868437227405312)) = true) : V (double.word (decide (E < 0)) (min (rn E.natAbs) 9218868437227405312)) = G E := by
  by_cases hi : rn E.natAbs < 9218868437227405312
  · rw [Nat.min_eq_left (by omega)]
    rw [(word_V (decide (E < 0)) _ hi).2.1]
    unfold G
    by_cases hn : E < 0
    · rw [decide_eq_true hn, if_pos rfl, if_pos hn]
    · rw [decide_eq_false hn, if_neg (by simp), if_neg hn]
  · rw [Nat.min_eq_right (by omega)] at hf
    exfalso
    revert hf
    cases decide (E < 0) <;> decide
theorem sum_G (da db : Datum) (s t : Bool) (m n p q : Nat) (va vb : Int) (N : Nat) (hN : N = 2097)
    (ea : da = .number s m (-1074 + (p : Int))) (eb : db = .number t n (-1074 + (q : Int)))
    (hva : va = if s then - ((m * 2 ^ p : Nat) : Int) else ((m * 2 ^ p : Nat) : Int))
    (hvb : vb = if t then - ((n * 2 ^ q : Nat) : Int) else ((n * 2 ^ q : Nat) : Int)) (hE : (va + vb).natAbs < 2 ^ N) :
    ∃ r, (da.sum db).map double.write = some r ∧ finB r = true ∧ r < 18446744073709551616 ∧ V r = G (va + vb) := by
  obtain ⟨r, e1, e2, e3, e4⟩ := sum_spec da db s t m n p q va vb N hN ea eb hva hvb hE
  refine ⟨r, e1, e2, e3, ?_⟩
  by_cases h0 : va + vb = 0
  · rw [h0] at e4 ⊢
    have hg : G 0 = 0 := by decide
    rw [hg]
    simp only [Int.natAbs_zero, Int.sub_zero] at e4
    omega
  · have := sum_E da db s t m n p q va vb ea eb hva hvb h0
    rw [this] at e1
    obtain rfl := Option.some.inj e1
    exact word_G _ e2
theorem add_G (a b N : Nat) (hN : N = 2097) (ha : finB a = true) (hb : finB b = true) (hE : (V a + V b).natAbs < 2 ^ N) :
    ∃ r, double.add a b = some r ∧ finB r = true ∧ r < 18446744073709551616 ∧ V r = G (V a + V b) := by
  obtain ⟨m, p, e1, e2, -⟩ := read_fin a ha
  obtain ⟨n, q, e3, e4, -⟩ := read_fin b hb
  exact sum_G _ _ _ _ m n p q (V a) (V b) N hN e1 e3 (V_mk a m p e2) (V_mk b n q e4) hE
theorem sub_G (a b N : Nat) (hN : N = 2097) (ha : finB a = true) (hb : finB b = true) (hE : (V a - V b).natAbs < 2 ^ N) :
    ∃ r, double.sub a b = some r ∧ finB r = true ∧ r < 18446744073709551616 ∧ V r = G (V a - V b) := by
  obtain ⟨m, p, e1, e2, -⟩ := read_fin a ha
  obtain ⟨n, q, e3, e4, -⟩ := read_fin b hb
  have e5 : (double.read b).opposite = .number (!negB b) n (-1074 + (q : Int)) := by rw [e3]; rfl
  have hv : - V b = if (!negB b) then - ((n * 2 ^ q : Nat) : Int) else ((n * 2 ^ q : Nat) : Int) := by
    rw [V_mk b n q e4]
    cases negB b <;> simp
  rw [Int.sub_eq_add_neg] at hE ⊢
  exact sum_G _ _ _ _ m n p q (V a) (- V b) N hN e1 e5 (V_mk a m p e2) hv hE
/-- a float's own value is a float -/
theorem V_fl (x : Nat) (h : finB x = true) : Fl (V x) := by
  have hx : x % 9223372036854775808 < 9218868437227405312 := of_decide_eq_true h
  have hR : Fl ((R (x % 9223372036854775808) : Nat) : Int) := by
    generalize x % 9223372036854775808 = r at *
    unfold R
    split
    · exact ⟨r, 0, by rw [Int.natAbs_natCast, Nat.pow_zero, Nat.mul_one], by omega⟩
    · exact ⟨_, _, by rw [Int.natAbs_natCast], by omega⟩
  unfold V
  split
  · exact fl_neg hR
  · exact hR
/-- A product whose last bit is no less than the least number's. -/
theorem mul_G (a b : Nat) (D N : Nat) (hN : N = 2097) (hD : D = 1074) (ha : finB a = true) (hb : finB b = true) (Q : Int) (hQ : V a * V b = Q * ((2 ^ D : Nat) : Int)) (hlow : ∀ m p n q : Nat, m * 2 ^ p = (V a).natAbs → n * 2 ^ q = (V b).natAbs → double.read a = .number (negB a) m (-1074 + (p : Int)) → double.read b = .number (negB b) n (-1074 + (q : Int)) → D ≤ p + q) (hE : Q.natAbs < 2 ^ N) :
    ∃ r, double.mul a b = some r ∧ finB r = true ∧ r < 18446744073709551616 ∧ V r = G Q := by
  have hE2 : (V a * V b).natAbs < 2 ^ (N + D) := by
    rw [hQ, Int.natAbs_mul, Int.natAbs_natCast, Nat.pow_add]
    exact Nat.mul_lt_mul_of_pos_right hE (pow2_pos D)
  obtain ⟨r, e1, e2, e3, e4, -⟩ := mul_spec a b D N hN hD ha hb hE2
  refine ⟨r, e1, e2, e3, ?_⟩
  obtain ⟨m, p, r1, r2, -⟩ := read_fin a ha
  obtain ⟨n, q, r3, r4, -⟩ := read_fin b hb
  have va := V_mk a m p r2
  have vb := V_mk b n q r4
  have hA : (V a).natAbs = m * 2 ^ p := by rw [va]; split <;> simp only [Int.natAbs_neg, Int.natAbs_natCast]
  have hB : (V b).natAbs = n * 2 ^ q := by rw [vb]; split <;> simp only [Int.natAbs_neg, Int.natAbs_natCast]
  have hz := hlow m p n q hA.symm hB.symm r1 r3
  have hM : m * n * 2 ^ (p + q) = Q.natAbs * 2 ^ D := by
    have : (V a * V b).natAbs = Q.natAbs * 2 ^ D := by rw [hQ, Int.natAbs_mul, Int.natAbs_natCast]
    rw [← this, Int.natAbs_mul, hA, hB, Nat.pow_add]
    rw [Nat.mul_assoc m n, Nat.mul_assoc m (2 ^ p), Nat.mul_left_comm n]
  have hT : m * n * 2 ^ (p + q - D) = Q.natAbs := by
    rw [show p + q = (p + q - D) + D by omega, Nat.pow_add, ← Nat.mul_assoc] at hM
    exact Nat.eq_of_mul_eq_mul_right (pow2_pos D) hM
  unfold Format.mul at e1
  rw [r1, r3] at e1
  have e5 : some (double.nearest (negB a ^^ negB b) (m * n) (-1074 + (p : Int) + (-1074 + (q : Int)))) = some r := e1
  obtain rfl := Option.some.inj e5
  by_cases h0 : m * n = 0
  · have hq0 : Q = 0 := by rw [h0, Nat.zero_mul] at hT; omega
    rw [hq0]
    have hg : G 0 = 0 := by decide
    rw [hg, h0]
    unfold Format.nearest
    rw [if_pos rfl]
    cases negB a ^^ negB b <;> decide
  · have hpl : -1074 + (p : Int) + (-1074 + (q : Int)) = -1074 + ((p + q - D : Nat) : Int) := by omega
    rw [hpl, nearest_rn _ _ _ h0, hT] at e2 ⊢
    have hs : (negB a ^^ negB b) = decide (Q < 0) := by
      have hQ0 : Q ≠ 0 := fun z => h0 (by rw [z] at hT; simp only [Int.natAbs_zero] at hT; rcases Nat.mul_eq_zero.1 hT with k | k; exact k; have := pow2_pos (p + q - D); omega)
      have hm : m ≠ 0 := fun z => h0 (by rw [z, Nat.zero_mul])
      have hn : n ≠ 0 := fun z => h0 (by rw [z, Nat.mul_zero])
      have hmp : 0 < m * 2 ^ p := Nat.mul_pos (by omega) (pow2_pos p)
      have hnp : 0 < n * 2 ^ q := Nat.mul_pos (by omega) (pow2_pos q)
      have hDp : (0 : Int) < ((2 ^ D : Nat) : Int) := by have := pow2_pos D; omega
      generalize m * 2 ^ p = x at *
      generalize n * 2 ^ q = y at *
      have hxy : (0 : Int) < (x : Int) * (y : Int) := Int.mul_pos (by omega) (by omega)
      rw [va, vb] at hQ
      by_cases hq : Q < 0
      · have h1 := Int.mul_neg_of_neg_of_pos hq hDp
        rw [decide_eq_true hq, ← hQ] at *
        revert h1
        cases negB a <;> cases negB b <;> simp [Int.neg_mul, Int.mul_neg] <;> omega
      · have h1 := Int.mul_pos (show 0 < Q by omega) hDp
        rw [decide_eq_false hq]
        rw [← hQ] at h1
        revert h1
        cases negB a <;> cases negB b <;> simp [Int.neg_mul, Int.mul_neg] <;> omega
    rw [hs] at e2 ⊢
    exact word_G Q e2
end Go.Proofs.Ytlbaphijmonjoaa.Fp

namespace Go.Proofs.Ytlbaphijmonjoaa.Fp
open EP Ieee

theorem w52 : (2 : Nat) ^ 52 = 4503599627370496 := by decide
theorem G_twice (x : Int) : G (2 * x) = 2 * G x := by
  by_cases h : x.natAbs < 4503599627370496
  · rw [G_fix (fl_small (x := x) (by omega)), G_fix (fl_small (x := 2 * x) (by omega))]
  · have h0 : x.natAbs ≠ 0 := by omega
    have hl : (2 * x).natAbs.log2 = x.natAbs.log2 + 1 := by
      obtain ⟨h1, h2⟩ := kept_pow x.natAbs _ rfl h0
      have e : (2 * x).natAbs = 2 * x.natAbs := by omega
      rw [e]
      have hn : 2 * x.natAbs ≠ 0 := by omega
      refine Nat.le_antisymm ?_ ?_
      · refine Nat.le_of_lt_succ ((Nat.log2_lt hn).2 ?_)
        rw [Nat.pow_succ]
        omega
      · refine (Nat.le_log2 hn).2 ?_
        rw [Nat.pow_succ]
        omega
    have h52 : 52 ≤ x.natAbs.log2 := (Nat.le_log2 h0).2 (by rw [w52]; omega)
    have hk : kk (2 * x) = kk x + 1 := by unfold kk; omega
    have e1 := G_abs (2 * x)
    have e2 := G_abs x
    have e3 : he (2 * x).natAbs (kk x + 1) = he x.natAbs (kk x) := by
      have := he_scale x.natAbs (kk x) 1
      rw [Nat.pow_one] at this
      rw [show (2 * x).natAbs = x.natAbs * 2 by omega]
      exact this
    rw [hk, e3, Nat.pow_succ, ← Nat.mul_assoc, ← e2] at e1
    have s1 : 0 ≤ x → 0 ≤ G (2 * x) := fun q => G_nonneg (by omega)
    have s2 : 0 ≤ x → 0 ≤ G x := fun q => G_nonneg q
    have s3 : x ≤ 0 → G (2 * x) ≤ 0 := fun q => by have := G_nonneg (E := -(2 * x)) (by omega); rw [G_neg] at this; omega
    have s4 : x ≤ 0 → G x ≤ 0 := fun q => by have := G_nonneg (E := -x) (by omega); rw [G_neg] at this; omega
    rcases Int.le_total 0 x with q | q
    · have := s1 q; have := s2 q; omega
    · have := s3 q; have := s4 q; omega
theorem G_scale (i : Nat) (x : Int) : G (x * ((2 ^ i : Nat) : Int)) = G x * ((2 ^ i : Nat) : Int) := by
  induction i with
  | zero => rw [Nat.pow_zero]; simp
  | succ i ih =>
    have e : x * ((2 ^ (i + 1) : Nat) : Int) = 2 * (x * ((2 ^ i : Nat) : Int)) := by
      rw [Nat.pow_succ, Int.natCast_mul, Int.mul_comm 2, Int.mul_assoc]; rfl
    rw [e, G_twice, ih, Nat.pow_succ, Int.natCast_mul, Int.mul_comm 2, Int.mul_assoc]
    rfl
theorem kk_le {x : Int} {k : Nat} (h : x.natAbs < 2 ^ (53 + k)) : kk x ≤ k := by
  refine Nat.le_of_not_lt fun q => ?_
  have h1 := kk_ge x (by omega)
  have h2 := Nat.pow_le_pow_right (n := 2) (by decide) (show 53 + k ≤ 52 + kk x by omega)
  omega
theorem le_kk {x : Int} {k : Nat} (h : 2 ^ (52 + k) ≤ x.natAbs) : k ≤ kk x := by
  have h0 : x.natAbs ≠ 0 := by have := pow2_pos (52 + k); omega
  have := (Nat.le_log2 h0).2 h
  unfold kk
  omega
theorem w27 : (2 : Nat) ^ 27 = 134217728 := by decide
theorem w79 : (2 : Nat) ^ 79 = 604462909807314587353088 := by decide
theorem w80 : (2 : Nat) ^ 80 = 1208925819614629174706176 := by decide
theorem w81 : (2 : Nat) ^ 81 = 2417851639229258349412352 := by decide
theorem w28 : (2 : Nat) ^ 28 = 268435456 := by decide
theorem w26 : (2 : Nat) ^ 26 = 67108864 := by decide
/-- The two halves of a number of 53 bits. -/
def hiX (A : Int) : Int := G (G (134217729 * A) - G (G (134217729 * A) - A))
def loX (A : Int) : Int := G (A - hiX A)
theorem split_pos (A : Int) (h1 : 4503599627370496 ≤ A) (h2 : A < 9007199254740992) : ∃ H' : Int, hiX A = 134217728 * H' ∧ loX A = A - hiX A ∧ H'.natAbs ≤ 67108864 ∧ (A - hiX A).natAbs ≤ 67108864 := by
  unfold loX hiX
  have hFA : Fl A := fl_small (by omega)
  have hc := G_half (134217729 * A)
  have hk1 : kk (134217729 * A) ≤ 28 := kk_le (by rw [show 53 + 28 = 81 by omega, w81]; omega)
  have hk2 : 27 ≤ kk (134217729 * A) := le_kk (by rw [show 52 + 27 = 79 by omega, w79]; omega)
  have hd1 : Dv 27 (G (134217729 * A)) := (G_dv _).low hk2
  have hC : Fl (G (134217729 * A)) := G_fl _
  have hp28 : 2 ^ kk (134217729 * A) ≤ 268435456 := by rw [← w28]; exact Nat.pow_le_pow_right (by decide) hk1
  have hk27 : 134217729 * A < 1208925819614629174706176 → 2 ^ kk (134217729 * A) ≤ 134217728 := fun q => by
    rw [← w27]; exact Nat.pow_le_pow_right (by decide) (kk_le (by rw [show 53 + 27 = 80 by omega, w80]; omega))
  have hex : A = 4503599627370496 → G (134217729 * A) = 134217729 * A := fun q => by
    refine G_fix (fl_dv_of 27 ?_ ?_)
    · rw [q]; exact ⟨4503599660924928, by decide⟩
    · rw [q]; decide
  generalize G (134217729 * A) = C at *
  generalize 2 ^ kk (134217729 * A) = g at *
  have hq1 : 604462909807314587353088 ≤ C - A := by
    by_cases q : A = 4503599627370496
    · have := hex q; omega
    · by_cases q2 : 134217729 * A < 1208925819614629174706176
      · have := hk27 q2; omega
      · omega
  have hq2 : C - A ≤ 1208925819614629174706176 := by omega
  have hkq : 27 ≤ kk (C - A) := le_kk (by rw [show 52 + 27 = 79 by omega, w79]; omega)
  have hd2 : Dv 27 (G (C - A)) := (G_dv _).low hkq
  have hF2 : Fl (G (C - A)) := G_fl _
  have herr := err_fl C (-A) hC (fl_neg hFA)
  rw [show C + -A = C - A by omega] at herr
  have hh := G_half (C - A)
  have hle : (G (C - A) - (C - A)).natAbs ≤ 67108864 := by
    by_cases q : C - A = 1208925819614629174706176
    · have : G (C - A) = C - A := by
        rw [q]
        exact G_fix (fl_dv_of 80 ⟨1, by decide⟩ (by decide))
      omega
    · have : kk (C - A) ≤ 27 := kk_le (by rw [show 53 + 27 = 80 by omega, w80]; omega)
      have h3 : 2 ^ kk (C - A) ≤ 134217728 := by rw [← w27]; exact Nat.pow_le_pow_right (by decide) this
      omega
  generalize G (C - A) = d at *
  have hst : Fl (C - d) := sterbenz C d hC hF2 (by omega) (by omega) (by omega)
  rw [G_fix hst]
  have hl : Fl (A - (C - d)) := by
    have := fl_neg herr
    rwa [show -(C - A - d) = A - (C - d) by omega] at this
  rw [G_fix hl]
  obtain ⟨H', hH⟩ := hd1.sub hd2
  have hw : ((2 ^ 27 : Nat) : Int) = 134217728 := by rw [w27]; rfl
  rw [hw] at hH
  exact ⟨H', hH, rfl, by omega, by omega⟩
theorem hiX_neg (A : Int) : hiX (-A) = - hiX A := by
  unfold hiX
  rw [show 134217729 * -A = -(134217729 * A) by omega, G_neg, show -G (134217729 * A) - -A = -(G (134217729 * A) - A) by omega, G_neg, show -G (134217729 * A) - -G (G (134217729 * A) - A) = -(G (134217729 * A) - G (G (134217729 * A) - A)) by omega, G_neg]
theorem loX_neg (A : Int) : loX (-A) = - loX A := by
  unfold loX
  rw [hiX_neg, show -A - -hiX A = -(A - hiX A) by omega, G_neg]
/-- Split's halves: the first a multiple of 2^27, both of 26 bits; together the number. -/
theorem split_X (A : Int) (h1 : 4503599627370496 ≤ A.natAbs) (h2 : A.natAbs < 9007199254740992) : ∃ H' : Int, hiX A = 134217728 * H' ∧ loX A = A - hiX A ∧ H'.natAbs ≤ 67108864 ∧ (loX A).natAbs ≤ 67108864 := by
  by_cases hn : A < 0
  · obtain ⟨H', e1, e2, e3, e4⟩ := split_pos (-A) (by omega) (by omega)
    rw [hiX_neg] at e1 e2 e4
    rw [loX_neg] at e2
    exact ⟨-H', by omega, by omega, by omega, by omega⟩
  · obtain ⟨H', e1, e2, e3, e4⟩ := split_pos A (by omega) (by omega)
    exact ⟨H', e1, e2, e3, by omega⟩
end Go.Proofs.Ytlbaphijmonjoaa.Fp

namespace Go.Proofs.Ytlbaphijmonjoaa.Fp
open EP Ieee

theorem fl_27 (y : Int) (h : y.natAbs ≤ 9007199254740992) : Fl (134217728 * y) := ⟨y.natAbs, 27, by rw [w27]; omega, h⟩
theorem fl_54 (y : Int) (h : y.natAbs ≤ 9007199254740992) : Fl (18014398509481984 * y) := ⟨y.natAbs, 54, by rw [show (2 : Nat) ^ 54 = 18014398509481984 by decide]; omega, h⟩
theorem halves_mul (H' L M' N : Int) : (134217728 * H' + L) * (134217728 * M' + N) = 18014398509481984 * (H' * M') + 134217728 * (L * M') + 134217728 * (H' * N) + L * N := by
  have e1 : 134217728 * H' * (134217728 * M') = 18014398509481984 * (H' * M') := by
    rw [Int.mul_assoc, Int.mul_left_comm H', ← Int.mul_assoc]; rfl
  have e2 : 134217728 * H' * N = 134217728 * (H' * N) := Int.mul_assoc _ _ _
  have e3 : L * (134217728 * M') = 134217728 * (L * M') := Int.mul_left_comm _ _ _
  rw [Int.add_mul, Int.mul_add, Int.mul_add, e1, e2, e3]
  omega
theorem mul52 {x y : Int} (hx : x.natAbs ≤ 67108864) (hy : y.natAbs ≤ 67108864) : (x * y).natAbs ≤ 4503599627370496 := by
  rw [Int.natAbs_mul]
  exact Nat.le_trans (Nat.mul_le_mul hx hy) (by decide)
/-- TwoProd's error, in the halves of its factors -/
def erX (A B P : Int) : Int := G (G (loX A * loX B) - G (G (G (P - G (hiX A * hiX B)) - G (loX A * hiX B)) - G (hiX A * loX B)))
theorem prod_X (A B : Int) (a1 : 4503599627370496 ≤ A.natAbs) (a2 : A.natAbs < 9007199254740992) (b1 : 4503599627370496 ≤ B.natAbs) (b2 : B.natAbs < 9007199254740992) : erX A B (G (A * B)) = A * B - G (A * B) := by
  obtain ⟨H', h1, h2, h3, h4⟩ := split_X A a1 a2
  obtain ⟨M', m1, m2, m3, m4⟩ := split_X B b1 b2
  have hlo : 20282409603651670423947251286016 ≤ (A * B).natAbs := by
    rw [Int.natAbs_mul]
    exact Nat.le_trans (by decide) (Nat.mul_le_mul a1 b1)
  have hup : (A * B).natAbs < 81129638414606681695789005144064 := by
    rw [Int.natAbs_mul]
    exact Nat.lt_of_le_of_lt (Nat.mul_le_mul (Nat.le_sub_one_of_lt a2) (Nat.le_sub_one_of_lt b2)) (by decide)
  have k1 : 52 ≤ kk (A * B) := le_kk (by rw [show (2 : Nat) ^ (52 + 52) = 20282409603651670423947251286016 by decide]; exact hlo)
  have k2 : kk (A * B) ≤ 53 := kk_le (by rw [show (2 : Nat) ^ (53 + 53) = 81129638414606681695789005144064 by decide]; exact hup)
  have hP := (G_dv (A * B)).low k1
  have hh := G_half (A * B)
  have hg : 2 ^ kk (A * B) ≤ 9007199254740992 := by
    have := Nat.pow_le_pow_right (n := 2) (by decide) k2
    rwa [show (2 : Nat) ^ 53 = 9007199254740992 by decide] at this
  have hAB : A * B = 18014398509481984 * (H' * M') + 134217728 * (loX A * M') + 134217728 * (H' * loX B) + loX A * loX B := by
    rw [← halves_mul]
    congr 1 <;> omega
  have q1 := mul52 h3 m3
  have q2 := mul52 h4 m3
  have q3 := mul52 h3 m4
  have q4 := mul52 h4 m4
  have eHM : hiX A * hiX B = 18014398509481984 * (H' * M') := by
    rw [h1, m1, Int.mul_assoc, Int.mul_left_comm H', ← Int.mul_assoc]; rfl
  have eLM : loX A * hiX B = 134217728 * (loX A * M') := by rw [m1]; exact Int.mul_left_comm _ _ _
  have eHN : hiX A * loX B = 134217728 * (H' * loX B) := by rw [h1]; exact Int.mul_assoc _ _ _
  unfold erX
  rw [eHM, eLM, eHN]
  generalize G (A * B) = P at *
  generalize A * B = AB at *
  generalize 2 ^ kk AB = g at *
  generalize H' * M' = hm at *
  generalize loX A * M' = lm at *
  generalize H' * loX B = hn at *
  generalize loX A * loX B = ln at *
  rw [G_fix (fl_54 hm (by omega)), G_fix (fl_27 lm (by omega)), G_fix (fl_27 hn (by omega)), G_fix (fl_small (x := ln) (by omega))]
  have d54 : Dv 52 (18014398509481984 * hm) := ⟨4 * hm, by rw [w52]; omega⟩
  have d27 : Dv 27 (134217728 * lm) := ⟨lm, by rw [w27]; rfl⟩
  have f1 : Fl (P - 18014398509481984 * hm) := fl_dv_of 52 (hP.sub d54) (by rw [w52]; omega)
  rw [G_fix f1]
  have f2 : Fl (P - 18014398509481984 * hm - 134217728 * lm) := fl_dv_of 27 (((hP.sub d54).low (by decide)).sub d27) (by rw [w27]; omega)
  rw [G_fix f2]
  have f3 : Fl (P - 18014398509481984 * hm - 134217728 * lm - 134217728 * hn) := fl_small (by omega)
  rw [G_fix f3]
  have f4 : Fl (ln - (P - 18014398509481984 * hm - 134217728 * lm - 134217728 * hn)) := fl_small (by omega)
  rw [G_fix f4]
  omega
end Go.Proofs.Ytlbaphijmonjoaa.Fp

namespace Go.Proofs.Ytlbaphijmonjoaa.Fp
open EP Ieee

theorem bd_lt {a n N : Nat} (h : bd a n) (hn : n + 1 ≤ N) : (V a).natAbs < 2 ^ N := by
  have h1 := h.2
  have h2 := Nat.pow_le_pow_right (n := 2) (by decide) hn
  rw [Nat.pow_succ] at h2
  have := pow2_pos n
  omega
theorem fo_G_add {a b n : Nat} (ha : bd a n) (hb : bd b n) (hn : n ≤ 2090) : ∃ r, fo .add a b = some r ∧ r < 18446744073709551616 ∧ bd r (n + 2) ∧ V r = G (V a + V b) := by
  obtain ⟨r, e, h1, h2⟩ := add_bd ha hb hn
  obtain ⟨M, hM⟩ : ∃ M : Nat, M = 2096 := ⟨_, rfl⟩
  have k1 := bd_lt ha (N := M) (by omega)
  have k2 := bd_lt hb (N := M) (by omega)
  obtain ⟨r', e4, -, -, e6⟩ := add_G a b (M + 1) (by omega) ha.1 hb.1 (by
    rw [Nat.pow_succ]
    generalize 2 ^ M = P at *
    omega)
  obtain rfl := Option.some.inj (e.symm.trans e4)
  refine ⟨r, ?_, h1, h2, e6⟩
  show (double.add a b).bind _ = _
  rw [e]; show (if finB r then some r else none) = _; rw [if_pos h2.1]
theorem fo_G_sub {a b n : Nat} (ha : bd a n) (hb : bd b n) (hn : n ≤ 2090) : ∃ r, fo .sub a b = some r ∧ r < 18446744073709551616 ∧ bd r (n + 2) ∧ V r = G (V a - V b) := by
  obtain ⟨r, e, h1, h2⟩ := sub_bd ha hb hn
  obtain ⟨M, hM⟩ : ∃ M : Nat, M = 2096 := ⟨_, rfl⟩
  have k1 := bd_lt ha (N := M) (by omega)
  have k2 := bd_lt hb (N := M) (by omega)
  obtain ⟨r', e4, -, -, e6⟩ := sub_G a b (M + 1) (by omega) ha.1 hb.1 (by
    rw [Nat.pow_succ]
    generalize 2 ^ M = P at *
    omega)
  obtain rfl := Option.some.inj (e.symm.trans e4)
  refine ⟨r, ?_, h1, h2, e6⟩
  show (double.sub a b).bind _ = _
  rw [e]; show (if finB r then some r else none) = _; rw [if_pos h2.1]
/-- TwoSum's two floats: the sum rounded, and what is left of it, exactly. -/
theorem twoSum_V {a b n : Nat} (ha : bd a n) (hb : bd b n) (hn : n ≤ 2080) : ∃ s t, twoSumO a b = some (s, t) ∧ bd s (n + 2) ∧ bd t (n + 10) ∧ V s = G (V a + V b) ∧ V t = V a + V b - V s := by
  obtain ⟨s, e1, -, b1, g1⟩ := fo_G_add ha hb (by omega)
  obtain ⟨x, e2, -, b2, g2⟩ := fo_G_sub b1 (ha.mono (by omega)) (by omega)
  obtain ⟨y, e3, -, b3, g3⟩ := fo_G_sub (b1.mono (by omega)) b2 (by omega)
  obtain ⟨u, e4, -, b4, g4⟩ := fo_G_sub (ha.mono (by omega)) b3 (by omega)
  obtain ⟨v, e5, -, b5, g5⟩ := fo_G_sub (hb.mono (by omega)) b2 (by omega)
  obtain ⟨t, e6, -, b6, g6⟩ := fo_G_add b4 (b5.mono (by omega)) (by omega)
  refine ⟨s, t, by simp only [twoSumO, e1, e2, e3, e4, e5, e6, Option.bind_some], b1, b6, g1, ?_⟩
  rw [g6, g4, g5, g3, g2, g1]
  exact twoSum_G (V a) (V b) (V_fl a ha.1) (V_fl b hb.1)
theorem fast_V {a b n : Nat} (ha : bd a n) (hb : bd b n) (hn : n ≤ 2080) (h : (V b).natAbs ≤ (V a).natAbs ∨ V a = 0) : ∃ s t, fastO a b = some (s, t) ∧ bd s (n + 2) ∧ bd t (n + 6) ∧ V s = G (V a + V b) ∧ V t = V a + V b - V s := by
  obtain ⟨s, e1, -, b1, g1⟩ := fo_G_add ha hb (by omega)
  obtain ⟨x, e2, -, b2, g2⟩ := fo_G_sub b1 (ha.mono (by omega)) (by omega)
  obtain ⟨t, e3, -, b3, g3⟩ := fo_G_sub (hb.mono (by omega)) b2 (by omega)
  refine ⟨s, t, by simp only [fastO, e1, e2, e3, Option.bind_some], b1, b3, g1, ?_⟩
  rw [g3, g2, g1]
  exact fast_G (V a) (V b) (V_fl a ha.1) (V_fl b hb.1) h
end Go.Proofs.Ytlbaphijmonjoaa.Fp

namespace Go.Proofs.Ytlbaphijmonjoaa.Fp
open EP Ieee

theorem read_fin2 (x : Nat) (h : finB x = true) (m p : Nat) (hr : double.read x = .number (negB x) m (-1074 + (p : Int))) : m < 9007199254740992 := by
  have h' : x % 9223372036854775808 < 9218868437227405312 := of_decide_eq_true h
  have hs : double.signWeight = 9223372036854775808 := by decide
  have hlp : double.leastPlace = -1074 := by decide
  have hbi : double.binade = 4503599627370496 := by decide
  have hir : double.infRung = 9218868437227405312 := by decide
  unfold Format.read at hr
  dsimp only at hr
  rw [hs, hlp, hbi, hir] at hr
  generalize x % 9223372036854775808 = r at *
  by_cases h1 : r < 4503599627370496
  · rw [if_pos h1] at hr
    simp only [Datum.number.injEq] at hr
    omega
  · rw [if_neg h1, if_pos h'] at hr
    simp only [Datum.number.injEq] at hr
    omega
theorem exp_low {m p v x : Nat} (hm : m < 9007199254740992) (h : m * 2 ^ p = v) (hv : 2 ^ x ≤ v) : x ≤ p + 52 := by
  refine Nat.le_of_not_lt fun q => ?_
  have h1 : m * 2 ^ p < 2 ^ 53 * 2 ^ p := Nat.mul_lt_mul_of_pos_right (by rw [show (2 : Nat) ^ 53 = 9007199254740992 by decide]; exact hm) (pow2_pos p)
  rw [← Nat.pow_add] at h1
  have h2 := Nat.pow_le_pow_right (n := 2) (by decide) (show 53 + p ≤ x by omega)
  omega
/-- A product of floats that are 0, or not too small. -/
theorem fo_G_mul {a b m n k x y : Nat} (ha : bd a m) (hb : bd b n) (hk : m + n = k + 1074) (hn : k ≤ 2090) (Q : Int) (D : Nat) (hD : D = 1074) (hQ : V a * V b = Q * ((2 ^ D : Nat) : Int)) (hlow : V a = 0 ∨ V b = 0 ∨ (2 ^ x ≤ (V a).natAbs ∧ 2 ^ y ≤ (V b).natAbs ∧ 1178 ≤ x + y)) : ∃ r, fo .mul a b = some r ∧ r < 18446744073709551616 ∧ bd r (k + 1) ∧ V r = G Q := by
  obtain ⟨r, e, h1, h2⟩ := mul_bd ha hb hk hn
  obtain ⟨N, hN⟩ : ∃ N : Nat, N = 2097 := ⟨_, rfl⟩
  have hDp := pow2_pos D
  have hQa : Q.natAbs * 2 ^ D ≤ 2 ^ k * 2 ^ D := by
    have : (V a * V b).natAbs = Q.natAbs * 2 ^ D := by rw [hQ, Int.natAbs_mul, Int.natAbs_natCast]
    rw [← this, Int.natAbs_mul, ← Nat.pow_add, hD, ← hk, Nat.pow_add]
    exact Nat.mul_le_mul ha.2 hb.2
  have hQb : Q.natAbs < 2 ^ N := Nat.lt_of_le_of_lt (Nat.le_of_mul_le_mul_right hQa hDp) (Nat.pow_lt_pow_right (by decide) (by omega))
  have hV : V r = G Q := by
    by_cases h0 : V a * V b = 0
    · have hq : Q = 0 := by
        rw [h0] at hQ
        rcases Int.mul_eq_zero.1 hQ.symm with q | q
        · exact q
        · omega
      obtain ⟨r', e1, -, -, e4, -⟩ := mul_spec a b D N hN hD ha.1 hb.1 (by rw [h0]; exact pow2_pos _)
      obtain rfl := Option.some.inj (e.symm.trans e1)
      have hg : G 0 = 0 := by decide
      rw [hq, hg]
      rw [h0] at e4
      simp only [Int.natAbs_zero, Nat.mul_zero, Nat.zero_add] at e4
      have h3 : (V r).natAbs = 0 := by
        refine Nat.eq_zero_of_not_pos fun q => ?_
        have : 1 * 2 ^ D ≤ (V r).natAbs * 2 ^ D := Nat.mul_le_mul_right _ q
        omega
      omega
    · obtain ⟨r', e1, -, -, e4⟩ := mul_G a b D N hN hD ha.1 hb.1 Q hQ (fun m' p n' q f1 f2 f3 f4 => by
        rcases hlow with z | z | ⟨g1, g2, g3⟩
        · exact absurd (by rw [z, Int.zero_mul]) h0
        · exact absurd (by rw [z, Int.mul_zero]) h0
        · have k1 := exp_low (read_fin2 a ha.1 m' p f3) f1 g1
          have k2 := exp_low (read_fin2 b hb.1 n' q f4) f2 g2
          omega) hQb
      obtain rfl := Option.some.inj (e.symm.trans e1)
      exact e4
  refine ⟨r, ?_, h1, h2, hV⟩
  show (double.mul a b).bind _ = _
  rw [e]; show (if finB r then some r else none) = _; rw [if_pos h2.1]
/-- A float as a number of 53 bits times a power of 2 (or 0), not too small. -/
def Nm (a : Nat) (A : Int) (i : Nat) : Prop := V a = A * ((2 ^ i : Nat) : Int) ∧ (A = 0 ∨ (4503599627370496 ≤ A.natAbs ∧ A.natAbs < 9007199254740992)) ∧ 622 ≤ i
theorem splitter_V (D : Nat) (hD : D = 1074) : V 4728779608772575232 = 134217729 * ((2 ^ D : Nat) : Int) := by
  rw [hD]; decide +kernel
theorem split_V {a n i : Nat} {A : Int} (ha : bd a n) (hn : n ≤ 2040) (hN : Nm a A i) : ∃ h l, splitO a = some (h, l) ∧ bd h (n + 33) ∧ bd l (n + 35) ∧ V h = hiX A * ((2 ^ i : Nat) : Int) ∧ V l = loX A * ((2 ^ i : Nat) : Int) := by
  obtain ⟨hv, hA, hi⟩ := hN
  obtain ⟨D, hD⟩ : ∃ D : Nat, D = 1074 := ⟨_, rfl⟩
  have hmul : V 4728779608772575232 * V a = 134217729 * V a * ((2 ^ D : Nat) : Int) := by
    rw [splitter_V D hD, Int.mul_assoc, Int.mul_comm ((2 ^ D : Nat) : Int), ← Int.mul_assoc]
  obtain ⟨c, e1, -, b1, g1⟩ := fo_G_mul (k := n + 28) (x := 26 + D) (y := i) splitter_bd ha (by omega) (by omega) (134217729 * V a) D hD hmul (by
    rcases hA with z | z
    · right; left; rw [hv, z, Int.zero_mul]
    · right; right
      refine ⟨?_, ?_, by omega⟩
      · rw [splitter_V D hD, Int.natAbs_mul, Int.natAbs_natCast, Nat.pow_add]
        exact Nat.mul_le_mul_right _ (by decide)
      · rw [hv, Int.natAbs_mul, Int.natAbs_natCast]
        exact Nat.le_mul_of_pos_left _ (by omega))
  obtain ⟨x, e2, -, b2, g2⟩ := fo_G_sub b1 (ha.mono (by omega)) (by omega)
  obtain ⟨h, e3, -, b3, g3⟩ := fo_G_sub (b1.mono (by omega)) b2 (by omega)
  obtain ⟨l, e4, -, b4, g4⟩ := fo_G_sub (ha.mono (by omega)) b3 (by omega)
  have s1 : V c = G (134217729 * A) * ((2 ^ i : Nat) : Int) := by rw [g1, hv, ← Int.mul_assoc, G_scale]
  have s2 : V x = G (G (134217729 * A) - A) * ((2 ^ i : Nat) : Int) := by rw [g2, s1, hv, ← Int.sub_mul, G_scale]
  have s3 : V h = hiX A * ((2 ^ i : Nat) : Int) := by rw [g3, s1, s2, ← Int.sub_mul, G_scale]; rfl
  have s4 : V l = loX A * ((2 ^ i : Nat) : Int) := by rw [g4, s3, hv, ← Int.sub_mul, G_scale]; rfl
  exact ⟨h, l, by simp only [splitO, e1, e2, e3, e4, Option.bind_some], b3, b4, s3, s4⟩
theorem scale2 (x y : Int) (i j K D : Nat) (h : i + j = K + D) : x * ((2 ^ i : Nat) : Int) * (y * ((2 ^ j : Nat) : Int)) = x * y * ((2 ^ K : Nat) : Int) * ((2 ^ D : Nat) : Int) := by
  have e : ((2 ^ i : Nat) : Int) * ((2 ^ j : Nat) : Int) = ((2 ^ K : Nat) : Int) * ((2 ^ D : Nat) : Int) := by
    rw [← Int.natCast_mul, ← Int.natCast_mul, ← Nat.pow_add, ← Nat.pow_add, h]
  rw [Int.mul_assoc x, Int.mul_left_comm ((2 ^ i : Nat) : Int), e, ← Int.mul_assoc x, ← Int.mul_assoc]
theorem pow_le_part (x : Int) (i : Nat) (h : x ≠ 0) : 2 ^ i ≤ (x * ((2 ^ i : Nat) : Int)).natAbs := by
  rw [Int.natAbs_mul, Int.natAbs_natCast]
  exact Nat.le_mul_of_pos_left _ (by omega)
theorem low_or (x y : Int) (i j : Nat) (hij : 1178 ≤ i + j) : x * ((2 ^ i : Nat) : Int) = 0 ∨ y * ((2 ^ j : Nat) : Int) = 0 ∨ (2 ^ i ≤ (x * ((2 ^ i : Nat) : Int)).natAbs ∧ 2 ^ j ≤ (y * ((2 ^ j : Nat) : Int)).natAbs ∧ 1178 ≤ i + j) := by
  by_cases hx : x = 0
  · left; rw [hx, Int.zero_mul]
  · by_cases hy : y = 0
    · right; left; rw [hy, Int.zero_mul]
    · exact .inr (.inr ⟨pow_le_part x i hx, pow_le_part y j hy, hij⟩)
theorem prod_XZ (A B : Int) (hA : A = 0 ∨ (4503599627370496 ≤ A.natAbs ∧ A.natAbs < 9007199254740992)) (hB : B = 0 ∨ (4503599627370496 ≤ B.natAbs ∧ B.natAbs < 9007199254740992)) : erX A B (G (A * B)) = A * B - G (A * B) := by
  have z1 : hiX 0 = 0 := by decide
  have z2 : loX 0 = 0 := by decide
  have z3 : G 0 = 0 := by decide
  rcases hA with q | q
  · subst q
    unfold erX
    simp only [z1, z2, Int.zero_mul, z3, Int.sub_zero]
  · rcases hB with r | r
    · subst r
      unfold erX
      simp only [z1, z2, Int.mul_zero, z3, Int.sub_zero]
    · exact prod_X A B q.1 q.2 r.1 r.2
/-- TwoProd's two floats: the product rounded, and what is left of it, exactly (in units of 2^K). -/
theorem twoProd_V {a b n k i j K : Nat} {A B : Int} (ha : bd a n) (hb : bd b n) (hk : n + n = k + 1074) (hn : k ≤ 2000) (hA : Nm a A i) (hB : Nm b B j) (hK : i + j = K + 1074) : ∃ p e, twoProdO a b = some (p, e) ∧ bd p (k + 1) ∧ bd e (k + 80) ∧ V p = G (A * B) * ((2 ^ K : Nat) : Int) ∧ V e = (A * B - G (A * B)) * ((2 ^ K : Nat) : Int) := by
  obtain ⟨D, hD⟩ : ∃ D : Nat, D = 1074 := ⟨_, rfl⟩
  have hKD : i + j = K + D := by omega
  have hij : 1178 ≤ i + j := by have := hA.2.2; have := hB.2.2; omega
  obtain ⟨p, e1, -, b1, g1⟩ := fo_G_mul (x := i) (y := j) ha hb hk (by omega) (A * B * ((2 ^ K : Nat) : Int)) D hD (by rw [hA.1, hB.1]; exact scale2 A B i j K D hKD) (by rw [hA.1, hB.1]; exact low_or A B i j hij)
  obtain ⟨h, l, e2, b2, b3, v1, v2⟩ := split_V ha (by omega) hA
  obtain ⟨m, n', e3, b4, b5, v3, v4⟩ := split_V hb (by omega) hB
  replace b2 := b2.mono (n := n + 35) (by omega)
  replace b4 := b4.mono (n := n + 35) (by omega)
  obtain ⟨hm, e4, -, c1, g4⟩ := fo_G_mul (k := k + 70) (x := i) (y := j) b2 b4 (by omega) (by omega) (hiX A * hiX B * ((2 ^ K : Nat) : Int)) D hD (by rw [v1, v3]; exact scale2 _ _ i j K D hKD) (by rw [v1, v3]; exact low_or _ _ i j hij)
  obtain ⟨x, e5, -, c2, g5⟩ := fo_G_sub (b1.mono (by omega)) c1 (by omega)
  obtain ⟨lm, e6, -, c3, g6⟩ := fo_G_mul (k := k + 70) (x := i) (y := j) b3 b4 (by omega) (by omega) (loX A * hiX B * ((2 ^ K : Nat) : Int)) D hD (by rw [v2, v3]; exact scale2 _ _ i j K D hKD) (by rw [v2, v3]; exact low_or _ _ i j hij)
  obtain ⟨y, e7, -, c4, g7⟩ := fo_G_sub c2 (c3.mono (by omega)) (by omega)
  obtain ⟨hn', e8, -, c5, g8⟩ := fo_G_mul (k := k + 70) (x := i) (y := j) b2 b5 (by omega) (by omega) (hiX A * loX B * ((2 ^ K : Nat) : Int)) D hD (by rw [v1, v4]; exact scale2 _ _ i j K D hKD) (by rw [v1, v4]; exact low_or _ _ i j hij)
  obtain ⟨z, e9, -, c6, g9⟩ := fo_G_sub c4 (c5.mono (by omega)) (by omega)
  obtain ⟨ln, e10, -, c7, g10⟩ := fo_G_mul (k := k + 70) (x := i) (y := j) b3 b5 (by omega) (by omega) (loX A * loX B * ((2 ^ K : Nat) : Int)) D hD (by rw [v2, v4]; exact scale2 _ _ i j K D hKD) (by rw [v2, v4]; exact low_or _ _ i j hij)
  obtain ⟨e, e11, -, c8, g11⟩ := fo_G_sub (c7.mono (by omega)) c6 (by omega)
  have t1 : V p = G (A * B) * ((2 ^ K : Nat) : Int) := by rw [g1, G_scale]
  refine ⟨p, e, by simp only [twoProdO, e1, e2, e3, e4, e5, e6, e7, e8, e9, e10, e11, Option.bind_some], b1, c8.mono (by omega), t1, ?_⟩
  rw [g11, g10, g9, g8, g7, g6, g5, g4, t1, G_scale, G_scale, G_scale, G_scale, ← Int.sub_mul, G_scale, ← Int.sub_mul, G_scale, ← Int.sub_mul, G_scale, ← Int.sub_mul, G_scale]
  rw [← prod_XZ A B hA.2.1 hB.2.1]
  rfl
end Go.Proofs.Ytlbaphijmonjoaa.Fp

namespace Go.Proofs.Ytlbaphijmonjoaa.Fp
open Go.RowKit EP Ieee

theorem least_674 (X : Nat) (hX : X = 674) : V 2805742567851819008 = ((2 ^ X : Nat) : Int) := by rw [hX]; decide +kernel
theorem in_lo (x X : Nat) (hX : X = 674) (h : inB x = true) : 2 ^ X ≤ (V x).natAbs := by
  have hx := (in_bd x h).1
  have hc1 : finB 2805742567851819008 = true := by decide
  unfold inB at h
  simp only [Bool.and_eq_true, Bool.or_eq_true, beq_iff_eq] at h
  have a1 : V 2805742567851819008 ≤ V x := by
    rcases h.1 with h1 | h1
    · exact Int.le_of_lt (order_gt_V x _ hx hc1 h1)
    · rw [order_eq_V x _ hx hc1 h1]; exact Int.le_refl _
  rw [least_674 X hX] at a1
  generalize 2 ^ X = P at *
  omega
theorem neg_lo (a X : Nat) (w : World) (hX : X = 674) (hb : bd a 1475) (h : inB (fv .sub 0 a w) = true) : 2 ^ X ≤ (V a).natAbs := by
  have h0 : bd 0 1475 := ⟨by decide, by rw [show V 0 = 0 by decide]; exact Nat.zero_le _⟩
  obtain ⟨r, e1, -, -, e4⟩ := fo_G_sub h0 hb (by decide)
  rw [fv_eq e1 w] at h
  have h1 := in_lo r X hX h
  rw [e4, show V 0 = 0 by decide, Int.zero_sub, G_fix (fl_neg (V_fl a hb.1)), Int.natAbs_neg] at h1
  exact h1
theorem norm_of (a X : Nat) (hX : X = 674) (fa : finB a = true) (h : V a = 0 ∨ 2 ^ X ≤ (V a).natAbs) : ∃ A i, Nm a A i := by
  rcases h with h | h
  · exact ⟨0, 622, by rw [h, Int.zero_mul], .inl rfl, Nat.le_refl _⟩
  · have hk : 622 ≤ kk (V a) := le_kk (by rw [show 52 + 622 = X by omega]; exact h)
    obtain ⟨A, hA⟩ := fl_dv (V_fl a fa)
    have h1 := kk_lt (V a)
    have h2 := kk_ge (V a) (by omega)
    generalize kk (V a) = i at *
    have hp := pow2_pos i
    have e : (V a).natAbs = A.natAbs * 2 ^ i := by rw [hA, Int.natAbs_mul, Int.natAbs_natCast, Nat.mul_comm]
    rw [e, p53] at h1
    rw [e, Nat.pow_add, w52] at h2
    exact ⟨A, i, by rw [hA, Int.mul_comm], .inr ⟨Nat.le_of_mul_le_mul_right h2 hp, Nat.lt_of_mul_lt_mul_right h1⟩, hk⟩
theorem eq_of_V {x y : Nat} (hx : finB x = true) (hy : finB y = true) (h : V x = V y) : (double.order x y == some .eq) = true := by
  rw [order_fin x y hx hy, h]
  have : compare (V y) (V y) = .eq := by show compareOfLessAndEq (V y) (V y) = _; unfold compareOfLessAndEq; rw [if_neg (by omega), if_pos rfl]
  rw [this]; rfl
/-- all that EftOrder asks of moderate floats -/
theorem order_all (a b i j : Nat) (A' B' : Int) (ha : bd a 1475) (hb : bd b 1475) (hA : Nm a A' i) (hB : Nm b B' j) :
    ∃ s t u v p e q f x y, twoSumO a b = some (s, t) ∧ twoSumO b a = some (u, v) ∧ twoProdO a b = some (p, e) ∧ twoProdO b a = some (q, f) ∧ twoSumO s t = some (x, y) ∧
      (double.order s u == some .eq) = true ∧ (double.order t v == some .eq) = true ∧ (double.order p q == some .eq) = true ∧ (double.order e f == some .eq) = true ∧ (double.order x s == some .eq) = true ∧ (double.order y t == some .eq) = true := by
  obtain ⟨s, t, e1, b1, b2, g1, g2⟩ := twoSum_V ha hb (by decide)
  obtain ⟨u, v, e2, b3, b4, g3, g4⟩ := twoSum_V hb ha (by decide)
  have hi := hA.2.2
  have hj := hB.2.2
  obtain ⟨p, e, e3, b5, b6, g5, g6⟩ := twoProd_V (k := 1876) (K := i + j - 1074) ha hb (by decide) (by decide) hA hB (by omega)
  obtain ⟨q, f, e4, b7, b8, g7, g8⟩ := twoProd_V (k := 1876) (K := i + j - 1074) hb ha (by decide) (by decide) hB hA (by omega)
  obtain ⟨x, y, e5, b9, b10, g9, g10⟩ := twoSum_V (n := 1485) (b1.mono (by decide)) b2 (by decide)
  have k1 : V s = V u := by rw [g1, g3, Int.add_comm]
  have k2 : V t = V v := by rw [g2, g4, k1, Int.add_comm]
  have k3 : V p = V q := by rw [g5, g7, Int.mul_comm B']
  have k4 : V e = V f := by rw [g6, g8, Int.mul_comm B']
  have k5 : V x = V s := by rw [g9, g2, show V s + (V a + V b - V s) = V a + V b by omega, g1]
  have k6 : V y = V t := by rw [g10, k5]; omega
  exact ⟨s, t, u, v, p, e, q, f, x, y, e1, e2, e3, e4, e5, eq_of_V b1.1 b3.1 k1, eq_of_V b2.1 b4.1 k2, eq_of_V b5.1 b7.1 k3, eq_of_V b6.1 b8.1 k4, eq_of_V b9.1 b1.1 k5, eq_of_V b10.1 b2.1 k6⟩
end Go.Proofs.Ytlbaphijmonjoaa.Fp
