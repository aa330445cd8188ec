/- Split and TwoProd lose nothing, in whole numbers. -/
import Derived.Test.YtiibjhemljkgbaaESw
namespace Go.Proofs.Ytiibjhemljkgbaa.Fp
open EP Ieee

theorem w52 : (2 : Nat) ^ 52 = 4503599627370496 := by decide
theorem G_twice (x : Int) : G (2 * x) = 2 * G x := by
  by_cases h : x.natAbs < 4503599627370496
  · rw [G_fix (fl_small (x := x) (by omega)), G_fix (fl_small (x := 2 * x) (by omega))]
  · have h0 : x.natAbs ≠ 0 := by omega
    have hl : (2 * x).natAbs.log2 = x.natAbs.log2 + 1 := by
      obtain ⟨h1, h2⟩ := kept_pow x.natAbs _ rfl h0
      have e : (2 * x).natAbs = 2 * x.natAbs := by omega
      rw [e]
      have hn : 2 * x.natAbs ≠ 0 := by omega
      refine Nat.le_antisymm ?_ ?_
      · refine Nat.le_of_lt_succ ((Nat.log2_lt hn).2 ?_)
        rw [Nat.pow_succ]
        omega
      · refine (Nat.le_log2 hn).2 ?_
        rw [Nat.pow_succ]
        omega
    have h52 : 52 ≤ x.natAbs.log2 := (Nat.le_log2 h0).2 (by rw [w52]; omega)
    have hk : kk (2 * x) = kk x + 1 := by unfold kk; omega
    have e1 := G_abs (2 * x)
    have e2 := G_abs x
    have e3 : he (2 * x).natAbs (kk x + 1) = he x.natAbs (kk x) := by
      have := he_scale x.natAbs (kk x) 1
      rw [Nat.pow_one] at this
      rw [show (2 * x).natAbs = x.natAbs * 2 by omega]
      exact this
    rw [hk, e3, Nat.pow_succ, ← Nat.mul_assoc, ← e2] at e1
    have s1 : 0 ≤ x → 0 ≤ G (2 * x) := fun q => G_nonneg (by omega)
    have s2 : 0 ≤ x → 0 ≤ G x := fun q => G_nonneg q
    have s3 : x ≤ 0 → G (2 * x) ≤ 0 := fun q => by have := G_nonneg (E := -(2 * x)) (by omega); rw [G_neg] at this; omega
    have s4 : x ≤ 0 → G x ≤ 0 := fun q => by have := G_nonneg (E := -x) (by omega); rw [G_neg] at this; omega
    rcases Int.le_total 0 x with q | q
    · have := s1 q; have := s2 q; omega
    · have := s3 q; have := s4 q; omega
theorem G_scale (i : Nat) (x : Int) : G (x * ((2 ^ i : Nat) : Int)) = G x * ((2 ^ i : Nat) : Int) := by
  induction i with
  | zero => rw [Nat.pow_zero]; simp
  | succ i ih =>
    have e : x * ((2 ^ (i + 1) : Nat) : Int) = 2 * (x * ((2 ^ i : Nat) : Int)) := by
      rw [Nat.pow_succ, Int.natCast_mul, Int.mul_comm 2, Int.mul_assoc]; rfl
    rw [e, G_twice, ih, Nat.pow_succ, Int.natCast_mul, Int.mul_comm 2, Int.mul_assoc]
    rfl
theorem kk_le {x : Int} {k : Nat} (h : x.natAbs < 2 ^ (53 + k)) : kk x ≤ k := by
  refine Nat.le_of_not_lt fun q => ?_
  have h1 := kk_ge x (by omega)
  have h2 := Nat.pow_le_pow_right (n := 2) (by decide) (show 53 + k ≤ 52 + kk x by omega)
  omega
theorem le_kk {x : Int} {k : Nat} (h : 2 ^ (52 + k) ≤ x.natAbs) : k ≤ kk x := by
  have h0 : x.natAbs ≠ 0 := by have := pow2_pos (52 + k); omega
  have := (Nat.le_log2 h0).2 h
  unfold kk
  omega
theorem w27 : (2 : Nat) ^ 27 = 134217728 := by decide
theorem w79 : (2 : Nat) ^ 79 = 604462909807314587353088 := by decide
theorem w80 : (2 : Nat) ^ 80 = 1208925819614629174706176 := by decide
theorem w81 : (2 : Nat) ^ 81 = 2417851639229258349412352 := by decide
theorem w28 : (2 : Nat) ^ 28 = 268435456 := by decide
theorem w26 : (2 : Nat) ^ 26 = 67108864 := by decide
/-- The two halves of a number of 53 bits. -/
def hiX (A : Int) : Int := G (G (134217729 * A) - G (G (134217729 * A) - A))
def loX (A : Int) : Int := G (A - hiX A)
theorem split_pos (A : Int) (h1 : 4503599627370496 ≤ A) (h2 : A < 9007199254740992) : ∃ H' : Int, hiX A = 134217728 * H' ∧ loX A = A - hiX A ∧ H'.natAbs ≤ 67108864 ∧ (A - hiX A).natAbs ≤ 67108864 := by
  unfold loX hiX
  have hFA : Fl A := fl_small (by omega)
  have hc := G_half (134217729 * A)
  have hk1 : kk (134217729 * A) ≤ 28 := kk_le (by rw [show 53 + 28 = 81 by omega, w81]; omega)
  have hk2 : 27 ≤ kk (134217729 * A) := le_kk (by rw [show 52 + 27 = 79 by omega, w79]; omega)
  have hd1 : Dv 27 (G (134217729 * A)) := (G_dv _).low hk2
  have hC : Fl (G (134217729 * A)) := G_fl _
  have hp28 : 2 ^ kk (134217729 * A) ≤ 268435456 := by rw [← w28]; exact Nat.pow_le_pow_right (by decide) hk1
  have hk27 : 134217729 * A < 1208925819614629174706176 → 2 ^ kk (134217729 * A) ≤ 134217728 := fun q => by
    rw [← w27]; exact Nat.pow_le_pow_right (by decide) (kk_le (by rw [show 53 + 27 = 80 by omega, w80]; omega))
  have hex : A = 4503599627370496 → G (134217729 * A) = 134217729 * A := fun q => by
    refine G_fix (fl_dv_of 27 ?_ ?_)
    · rw [q]; exact ⟨4503599660924928, by decide⟩
    · rw [q]; decide
  generalize G (134217729 * A) = C at *
  generalize 2 ^ kk (134217729 * A) = g at *
  have hq1 : 604462909807314587353088 ≤ C - A := by
    by_cases q : A = 4503599627370496
    · have := hex q; omega
    · by_cases q2 : 134217729 * A < 1208925819614629174706176
      · have := hk27 q2; omega
      · omega
  have hq2 : C - A ≤ 1208925819614629174706176 := by omega
  have hkq : 27 ≤ kk (C - A) := le_kk (by rw [show 52 + 27 = 79 by omega, w79]; omega)
  have hd2 : Dv 27 (G (C - A)) := (G_dv _).low hkq
  have hF2 : Fl (G (C - A)) := G_fl _
  have herr := err_fl C (-A) hC (fl_neg hFA)
  rw [show C + -A = C - A by omega] at herr
  have hh := G_half (C - A)
  have hle : (G (C - A) - (C - A)).natAbs ≤ 67108864 := by
    by_cases q : C - A = 1208925819614629174706176
    · have : G (C - A) = C - A := by
        rw [q]
        exact G_fix (fl_dv_of 80 ⟨1, by decide⟩ (by decide))
      omega
    · have : kk (C - A) ≤ 27 := kk_le (by rw [show 53 + 27 = 80 by omega, w80]; omega)
      have h3 : 2 ^ kk (C - A) ≤ 134217728 := by rw [← w27]; exact Nat.pow_le_pow_right (by decide) this
      omega
  generalize G (C - A) = d at *
  have hst : Fl (C - d) := sterbenz C d hC hF2 (by omega) (by omega) (by omega)
  rw [G_fix hst]
  have hl : Fl (A - (C - d)) := by
    have := fl_neg herr
    rwa [show -(C - A - d) = A - (C - d) by omega] at this
  rw [G_fix hl]
  obtain ⟨H', hH⟩ := hd1.sub hd2
  have hw : ((2 ^ 27 : Nat) : Int) = 134217728 := by rw [w27]; rfl
  rw [hw] at hH
  exact ⟨H', hH, rfl, by omega, by omega⟩
theorem hiX_neg (A : Int) : hiX (-A) = - hiX A := by
  unfold hiX
  rw [show 134217729 * -A = -(134217729 * A) by omega, G_neg, show -G (134217729 * A) - -A = -(G (134217729 * A) - A) by omega, G_neg, show -G (134217729 * A) - -G (G (134217729 * A) - A) = -(G (134217729 * A) - G (G (134217729 * A) - A)) by omega, G_neg]
theorem loX_neg (A : Int) : loX (-A) = - loX A := by
  unfold loX
  rw [hiX_neg, show -A - -hiX A = -(A - hiX A) by omega, G_neg]
/-- Split's halves: the first a multiple of 2^27, both of 26 bits; together the number. -/
theorem split_X (A : Int) (h1 : 4503599627370496 ≤ A.natAbs) (h2 : A.natAbs < 9007199254740992) : ∃ H' : Int, hiX A = 134217728 * H' ∧ loX A = A - hiX A ∧ H'.natAbs ≤ 67108864 ∧ (loX A).natAbs ≤ 67108864 := by
  by_cases hn : A < 0
  · obtain ⟨H', e1, e2, e3, e4⟩ := split_pos (-A) (by omega) (by omega)
    rw [hiX_neg] at e1 e2 e4
    rw [loX_neg] at e2
    exact ⟨-H', by omega, by omega, by omega, by omega⟩
  · obtain ⟨H', e1, e2, e3, e4⟩ := split_pos A (by omega) (by omega)
    exact ⟨H', e1, e2, e3, by omega⟩
end Go.Proofs.Ytiibjhemljkgbaa.Fp
