/- Errors of sums are floats; what TwoSum and FastTwoSum leave is the exact error. -/
import Derived.Test.YtiibjhemljkgbaaESx
namespace Go.Proofs.Ytiibjhemljkgbaa.Fp
open EP Ieee

/-- a multiple of 2^j -/
def Dv (j : Nat) (x : Int) : Prop := ((2 ^ j : Nat) : Int) ∣ x
theorem Dv.add {j : Nat} {x y : Int} (h : Dv j x) (k : Dv j y) : Dv j (x + y) := Int.dvd_add h k
theorem Dv.sub {j : Nat} {x y : Int} (h : Dv j x) (k : Dv j y) : Dv j (x - y) := Int.dvd_sub h k
theorem Dv.neg {j : Nat} {x : Int} (h : Dv j x) : Dv j (-x) := Int.dvd_neg.2 h
theorem Dv.low {i j : Nat} {x : Int} (h : Dv j x) (hi : i ≤ j) : Dv i x := Int.dvd_trans (Int.natCast_dvd_natCast.2 (Nat.pow_dvd_pow 2 hi)) h
theorem dv_abs {j : Nat} {x : Int} : Dv j x ↔ 2 ^ j ∣ x.natAbs := Int.ofNat_dvd_left
theorem fl_dv {x : Int} (h : Fl x) : Dv (kk x) x := dv_abs.2 (fl_dvd h)
theorem G_dv (E : Int) : Dv (kk E) (G E) := dv_abs.2 (G_dvd E)
theorem p53 (j : Nat) : 2 ^ (53 + j) = 9007199254740992 * 2 ^ j := by rw [Nat.pow_add]
theorem fl_dv_of {x : Int} (j : Nat) (h : Dv j x) (hb : x.natAbs ≤ 9007199254740992 * 2 ^ j) : Fl x := fl_of j (dv_abs.1 h) hb
/-- a multiple of g that is less than g in amount is 0 -/
theorem small_zero {j : Nat} {x : Int} (h : Dv j x) (hb : x.natAbs < 2 ^ j) : x = 0 := by
  obtain ⟨c, hc⟩ := dv_abs.1 h
  by_cases q : c = 0
  · rw [q, Nat.mul_zero] at hc; omega
  · have : 2 ^ j * 1 ≤ 2 ^ j * c := Nat.mul_le_mul_left _ (by omega)
    omega
/-- a multiple of g that is below a multiple of g is so by g at least -/
theorem gap {j : Nat} {x y : Int} (h : Dv j x) (k : Dv j y) (hlt : x < y) : x + ((2 ^ j : Nat) : Int) ≤ y := by
  refine Int.le_of_not_gt fun q => ?_
  have := small_zero (k.sub h) (by omega)
  omega
theorem near_mult (E m : Int) (h : Dv (kk E) m) : (E - G E).natAbs ≤ (E - m).natAbs := by
  refine Nat.le_of_not_lt fun q => ?_
  have h1 := G_half E
  have h2 : (m - G E).natAbs < 2 ^ kk E := by
    generalize 2 ^ kk E = g at *
    omega
  have := small_zero (h.sub (G_dv E)) h2
  omega
/-- nothing is nearer than what is rounded to -/
theorem near_fl (E f : Int) (hf : Fl f) : (E - G E).natAbs ≤ (E - f).natAbs := by
  by_cases hk : kk E ≤ kk f
  · exact near_mult E f ((fl_dv hf).low hk)
  · have h1 := kk_ge E (by omega)
    have h2 : f.natAbs < 2 ^ (52 + kk E) := Nat.lt_of_lt_of_le (kk_lt f) (Nat.pow_le_pow_right (by decide) (by omega))
    have hd : Dv (kk E) ((2 ^ (52 + kk E) : Nat) : Int) := dv_abs.2 (by rw [Int.natAbs_natCast]; exact Nat.pow_dvd_pow 2 (by omega))
    by_cases hs : E < 0
    · have := near_mult E _ hd.neg
      generalize 2 ^ (52 + kk E) = P at *
      omega
    · have := near_mult E _ hd
      generalize 2 ^ (52 + kk E) = P at *
      omega
/-- what is left of a sum of two floats is a float, and no greater than either -/
theorem err_le (a b : Int) (ha : Fl a) (hb : Fl b) : (a + b - G (a + b)).natAbs ≤ a.natAbs ∧ (a + b - G (a + b)).natAbs ≤ b.natAbs := by
  have h1 := near_fl (a + b) a ha
  have h2 := near_fl (a + b) b hb
  rw [show a + b - a = b by omega] at h1
  rw [show a + b - b = a by omega] at h2
  exact ⟨h2, h1⟩
theorem fl_sum_low {a b : Int} {j : Nat} (ha : Dv j a) (hb : Dv j b) (hk : kk (a + b) ≤ j) : Fl (a + b) :=
  fl_dv_of (kk (a + b)) ((ha.add hb).low hk) (by rw [← p53]; exact Nat.le_of_lt (kk_lt _))
theorem err_fl (a b : Int) (ha : Fl a) (hb : Fl b) : Fl (a + b - G (a + b)) := by
  obtain ⟨e1, e2⟩ := err_le a b ha hb
  have d1 : Dv (min (kk a) (kk b)) a := (fl_dv ha).low (Nat.min_le_left _ _)
  have d2 : Dv (min (kk a) (kk b)) b := (fl_dv hb).low (Nat.min_le_right _ _)
  by_cases hk : kk (a + b) ≤ min (kk a) (kk b)
  · rw [G_fix (fl_sum_low d1 d2 hk), Int.sub_self]
    exact fl_zero
  · refine fl_dv_of (min (kk a) (kk b)) ((d1.add d2).sub ((G_dv _).low (by omega))) ?_
    rw [← p53]
    have l1 := kk_lt a
    have l2 := kk_lt b
    by_cases q : kk a ≤ kk b
    · rw [Nat.min_eq_left q]; omega
    · rw [Nat.min_eq_right (by omega)]; omega
theorem sterbenz (x y : Int) (hx : Fl x) (hy : Fl y) (h0 : 0 ≤ y) (h1 : y ≤ x) (h2 : x ≤ 2 * y) : Fl (x - y) := by
  have hk : kk y ≤ kk x := kk_mono (by omega)
  refine fl_dv_of (kk y) (((fl_dv hx).low hk).sub (fl_dv hy)) ?_
  rw [← p53]
  have := kk_lt y
  omega
/-- the greatest multiple of 2^j below 2^(53 + j) -/
theorem top_gap {x : Int} {j : Nat} (h : Dv j x) (hb : x.natAbs < 2 ^ (53 + j)) : x.natAbs + 2 ^ j ≤ 2 ^ (53 + j) := by
  have hd : Dv j ((2 ^ (53 + j) : Nat) : Int) := dv_abs.2 (by rw [Int.natAbs_natCast]; exact Nat.pow_dvd_pow 2 (by omega))
  have hx : Dv j ((x.natAbs : Nat) : Int) := dv_abs.2 (by rw [Int.natAbs_natCast]; exact dv_abs.1 h)
  have := gap hx hd (by omega)
  omega
/-- a sum less the greater of the two is a float -/
theorem fast_exact (a b : Int) (ha : Fl a) (hb : Fl b) (h : b.natAbs ≤ a.natAbs) : Fl (G (a + b) - a) := by
  have hkk : kk b ≤ kk a := kk_mono h
  have d1 : Dv (kk b) a := (fl_dv ha).low hkk
  have d2 := fl_dv hb
  obtain ⟨-, e2⟩ := err_le a b ha hb
  have l2 := kk_lt b
  by_cases hk : kk (a + b) ≤ kk b
  · rw [G_fix (fl_sum_low d1 d2 hk), show a + b - a = b by omega]
    exact hb
  · by_cases ha2 : kk b < kk a
    · refine fl_dv_of (kk b + 1) (((G_dv _).low (by omega)).sub ((fl_dv ha).low ha2)) ?_
      rw [← p53, show 53 + (kk b + 1) = 53 + kk b + 1 by omega, Nat.pow_succ]
      omega
    · have hkab : kk a = kk b := by omega
      have l1 := kk_lt a
      rw [hkab] at l1
      have ls : kk (a + b) = kk b + 1 := by
        refine Nat.le_antisymm ?_ (by omega)
        refine Nat.le_of_not_lt fun q => ?_
        have h1 := kk_ge (a + b) (by omega)
        have h2 := Nat.pow_le_pow_right (n := 2) (by decide) (show 53 + kk b + 1 ≤ 52 + kk (a + b) by omega)
        rw [Nat.pow_succ] at h2
        omega
      have hh := G_half (a + b)
      rw [ls, Nat.pow_succ] at hh
      have tg := top_gap d2 l2
      refine fl_dv_of (kk b) (((G_dv _).low (by omega)).sub d1) ?_
      rw [← p53]
      generalize 2 ^ (53 + kk b) = P at *
      generalize 2 ^ kk b = g at *
      omega
end Go.Proofs.Ytiibjhemljkgbaa.Fp
