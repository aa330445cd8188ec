/- Floats without bounds, in least units: which whole numbers are floats; what is rounded; errors of sums are floats. -/
import Derived.Test.YtiibjhemljkgbaaDTq
namespace Go.Proofs.Ytiibjhemljkgbaa.Fp
open EP Ieee

/-- A whole number of least units that a float is (whatever its size). -/
def Fl (x : Int) : Prop := ∃ c k : Nat, x.natAbs = c * 2 ^ k ∧ c ≤ 9007199254740992
theorem fl_neg {x : Int} (h : Fl x) : Fl (-x) := by
  obtain ⟨c, k, h1, h2⟩ := h
  exact ⟨c, k, by rw [Int.natAbs_neg]; exact h1, h2⟩
theorem fl_zero : Fl 0 := ⟨0, 0, rfl, by decide⟩
/-- the exponent of the last bit that is kept -/
def kk (x : Int) : Nat := x.natAbs.log2 - 52
theorem kk_lt (x : Int) : x.natAbs < 2 ^ (53 + kk x) := by
  by_cases h : x.natAbs = 0
  · rw [h]; exact pow2_pos _
  · obtain ⟨-, h2⟩ := kept_pow x.natAbs _ rfl h
    unfold kk
    exact Nat.lt_of_lt_of_le h2 (Nat.pow_le_pow_right (by decide) (by omega))
theorem kk_ge (x : Int) (h : 0 < kk x) : 2 ^ (52 + kk x) ≤ x.natAbs := by
  have h0 : x.natAbs ≠ 0 := fun q => by unfold kk at h; rw [q] at h; exact absurd h (by decide)
  obtain ⟨h1, -⟩ := kept_pow x.natAbs _ rfl h0
  unfold kk at *
  rw [show 52 + (x.natAbs.log2 - 52) = x.natAbs.log2 by omega]
  exact h1
theorem kk_mono {x y : Int} (h : x.natAbs ≤ y.natAbs) : kk x ≤ kk y := by
  unfold kk
  by_cases h0 : x.natAbs = 0
  · rw [h0]; exact Nat.zero_le _
  · have : x.natAbs.log2 ≤ y.natAbs.log2 := (Nat.le_log2 (by omega)).2 (Nat.le_trans (Nat.log2_self_le h0) h)
    omega
theorem kk_neg (x : Int) : kk (-x) = kk x := by unfold kk; rw [Int.natAbs_neg]
/-- what is a multiple of 2^j and has no more than 53 bits behind it -/
theorem fl_of {x : Int} (j : Nat) (h : 2 ^ j ∣ x.natAbs) (hb : x.natAbs ≤ 9007199254740992 * 2 ^ j) : Fl x := by
  obtain ⟨c, hc⟩ := h
  refine ⟨c, j, by rw [hc, Nat.mul_comm], ?_⟩
  rw [hc, Nat.mul_comm] at hb
  exact Nat.le_of_mul_le_mul_right hb (pow2_pos j)
/-- a float is a multiple of its last bit -/
theorem fl_dvd {x : Int} (h : Fl x) : 2 ^ kk x ∣ x.natAbs := by
  obtain ⟨c, k, h1, h2⟩ := h
  by_cases h0 : x.natAbs = 0
  · rw [h0]; exact Nat.dvd_zero _
  · by_cases hk : kk x ≤ k
    · rw [h1]
      exact Nat.dvd_trans (Nat.pow_dvd_pow 2 hk) (Nat.dvd_mul_left _ _)
    · have hge := kk_ge x (by omega)
      rw [h1] at hge ⊢
      have hp := pow2_pos k
      have h3 : 2 ^ (52 + kk x) = 2 ^ (52 + kk x - k) * 2 ^ k := by rw [← Nat.pow_add]; congr 1; omega
      rw [h3] at hge
      have h4 := Nat.le_of_mul_le_mul_right hge hp
      have h5 : 2 ^ 53 ≤ 2 ^ (52 + kk x - k) := Nat.pow_le_pow_right (by decide) (by omega)
      have h6 : (2 : Nat) ^ 53 = 9007199254740992 := by decide
      have h7 : c = 9007199254740992 := by omega
      have h8 : 52 + kk x - k = 53 := by
        by_cases q : 52 + kk x - k ≤ 53
        · omega
        · have := Nat.pow_le_pow_right (n := 2) (by decide) (show 54 ≤ 52 + kk x - k by omega)
          have h9 : (2 : Nat) ^ 54 = 18014398509481984 := by decide
          omega
      rw [h7, ← h6, ← Nat.pow_add]
      exact Nat.pow_dvd_pow 2 (by omega)
theorem R_he (T : Nat) : R (rn T) = he T (T.log2 - 52) * 2 ^ (T.log2 - 52) := by
  by_cases h : T = 0
  · rw [h]; decide
  · exact R_rn T h
theorem G_abs (E : Int) : (G E).natAbs = he E.natAbs (kk E) * 2 ^ kk E := by
  have := R_he E.natAbs
  unfold G kk
  split <;> omega
theorem he_top (T : Nat) : he T (T.log2 - 52) ≤ 9007199254740992 := by
  by_cases h : T = 0
  · rw [h]; decide
  · exact (rn_bounds T h).1
theorem G_fl (E : Int) : Fl (G E) := ⟨_, _, G_abs E, he_top _⟩
theorem G_dvd (E : Int) : 2 ^ kk E ∣ (G E).natAbs := by rw [G_abs]; exact Nat.dvd_mul_left _ _
theorem G_neg (E : Int) : G (-E) = - G E := by
  unfold G
  rw [Int.natAbs_neg]
  by_cases h : E < 0
  · rw [if_pos h, if_neg (by omega)]; omega
  · by_cases h0 : E = 0
    · rw [h0]; decide
    · rw [if_neg h, if_pos (by omega)]
theorem G_nonneg {E : Int} (h : 0 ≤ E) : 0 ≤ G E := by
  unfold G
  rw [if_neg (by omega)]
  omega
theorem G_fix {E : Int} (h : Fl E) : G E = E := by
  obtain ⟨c, hc⟩ := fl_dvd h
  have h1 := R_he E.natAbs
  have h2 : he E.natAbs (kk E) = c := by
    rw [show E.natAbs = c * 2 ^ kk E by rw [hc, Nat.mul_comm]]
    exact he_exact _ _
  have h3 : R (rn E.natAbs) = E.natAbs := by
    rw [h1, show E.natAbs.log2 - 52 = kk E from rfl, h2, Nat.mul_comm]
    exact hc.symm
  unfold G
  rw [h3]
  split <;> omega
theorem he_half (n d : Nat) : 2 * (he n d * 2 ^ d) ≤ 2 * n + 2 ^ d ∧ 2 * n ≤ 2 * (he n d * 2 ^ d) + 2 ^ d := by
  unfold he
  have hp := pow2_pos d
  have e := Nat.div_add_mod n (2 ^ d)
  have hm := Nat.mod_lt n hp
  have e2 : (n / 2 ^ d + (decide (2 ^ d < 2 * (n % 2 ^ d)) || ((2 ^ d == 2 * (n % 2 ^ d)) && (n / 2 ^ d % 2 == 1))).toNat) * 2 ^ d = 2 ^ d * (n / 2 ^ d) + (decide (2 ^ d < 2 * (n % 2 ^ d)) || ((2 ^ d == 2 * (n % 2 ^ d)) && (n / 2 ^ d % 2 == 1))).toNat * 2 ^ d := by rw [Nat.add_mul, Nat.mul_comm]
  rw [e2]
  generalize 2 ^ d * (n / 2 ^ d) = q at *
  generalize n / 2 ^ d % 2 = o at *
  generalize n % 2 ^ d = r at *
  generalize 2 ^ d = g at *
  by_cases p1 : g < 2 * r
  · rw [decide_eq_true p1, Bool.true_or]
    simp only [Bool.toNat_true, Nat.one_mul]
    omega
  · rw [decide_eq_false p1, Bool.false_or]
    by_cases p2 : g = 2 * r
    · cases hb : ((g == 2 * r) && (o == 1))
      · simp only [Bool.toNat_false, Nat.zero_mul]; omega
      · simp only [Bool.toNat_true, Nat.one_mul]; omega
    · rw [beq_eq_false_iff_ne.2 p2, Bool.false_and]
      simp only [Bool.toNat_false, Nat.zero_mul]
      omega
/-- what rounding takes away is at most half of the last bit that is kept -/
theorem G_half (E : Int) : 2 * (G E - E).natAbs ≤ 2 ^ kk E := by
  have h1 := he_half E.natAbs (kk E)
  have h2 := G_abs E
  generalize he E.natAbs (kk E) * 2 ^ kk E = m at *
  generalize 2 ^ kk E = g at *
  by_cases h : E < 0
  · have : G E ≤ 0 := by unfold G; rw [if_pos h]; omega
    omega
  · have := G_nonneg (show 0 ≤ E by omega)
    omega
end Go.Proofs.Ytiibjhemljkgbaa.Fp
