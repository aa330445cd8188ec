/- TwoProd loses nothing, in whole numbers. -/
import Derived.Test.YtiibjhemljkgbaaESp
namespace Go.Proofs.Ytiibjhemljkgbaa.Fp
open EP Ieee

theorem fl_27 (y : Int) (h : y.natAbs ≤ 9007199254740992) : Fl (134217728 * y) := ⟨y.natAbs, 27, by rw [w27]; omega, h⟩
theorem fl_54 (y : Int) (h : y.natAbs ≤ 9007199254740992) : Fl (18014398509481984 * y) := ⟨y.natAbs, 54, by rw [show (2 : Nat) ^ 54 = 18014398509481984 by decide]; omega, h⟩
theorem halves_mul (H' L M' N : Int) : (134217728 * H' + L) * (134217728 * M' + N) = 18014398509481984 * (H' * M') + 134217728 * (L * M') + 134217728 * (H' * N) + L * N := by
  have e1 : 134217728 * H' * (134217728 * M') = 18014398509481984 * (H' * M') := by
    rw [Int.mul_assoc, Int.mul_left_comm H', ← Int.mul_assoc]; rfl
  have e2 : 134217728 * H' * N = 134217728 * (H' * N) := Int.mul_assoc _ _ _
  have e3 : L * (134217728 * M') = 134217728 * (L * M') := Int.mul_left_comm _ _ _
  rw [Int.add_mul, Int.mul_add, Int.mul_add, e1, e2, e3]
  omega
theorem mul52 {x y : Int} (hx : x.natAbs ≤ 67108864) (hy : y.natAbs ≤ 67108864) : (x * y).natAbs ≤ 4503599627370496 := by
  rw [Int.natAbs_mul]
  exact Nat.le_trans (Nat.mul_le_mul hx hy) (by decide)
/-- TwoProd's error, in the halves of its factors -/
def erX (A B P : Int) : Int := G (G (loX A * loX B) - G (G (G (P - G (hiX A * hiX B)) - G (loX A * hiX B)) - G (hiX A * loX B)))
theorem prod_X (A B : Int) (a1 : 4503599627370496 ≤ A.natAbs) (a2 : A.natAbs < 9007199254740992) (b1 : 4503599627370496 ≤ B.natAbs) (b2 : B.natAbs < 9007199254740992) : erX A B (G (A * B)) = A * B - G (A * B) := by
  obtain ⟨H', h1, h2, h3, h4⟩ := split_X A a1 a2
  obtain ⟨M', m1, m2, m3, m4⟩ := split_X B b1 b2
  have hlo : 20282409603651670423947251286016 ≤ (A * B).natAbs := by
    rw [Int.natAbs_mul]
    exact Nat.le_trans (by decide) (Nat.mul_le_mul a1 b1)
  have hup : (A * B).natAbs < 81129638414606681695789005144064 := by
    rw [Int.natAbs_mul]
    exact Nat.lt_of_le_of_lt (Nat.mul_le_mul (Nat.le_sub_one_of_lt a2) (Nat.le_sub_one_of_lt b2)) (by decide)
  have k1 : 52 ≤ kk (A * B) := le_kk (by rw [show (2 : Nat) ^ (52 + 52) = 20282409603651670423947251286016 by decide]; exact hlo)
  have k2 : kk (A * B) ≤ 53 := kk_le (by rw [show (2 : Nat) ^ (53 + 53) = 81129638414606681695789005144064 by decide]; exact hup)
  have hP := (G_dv (A * B)).low k1
  have hh := G_half (A * B)
  have hg : 2 ^ kk (A * B) ≤ 9007199254740992 := by
    have := Nat.pow_le_pow_right (n := 2) (by decide) k2
    rwa [show (2 : Nat) ^ 53 = 9007199254740992 by decide] at this
  have hAB : A * B = 18014398509481984 * (H' * M') + 134217728 * (loX A * M') + 134217728 * (H' * loX B) + loX A * loX B := by
    rw [← halves_mul]
    congr 1 <;> omega
  have q1 := mul52 h3 m3
  have q2 := mul52 h4 m3
  have q3 := mul52 h3 m4
  have q4 := mul52 h4 m4
  have eHM : hiX A * hiX B = 18014398509481984 * (H' * M') := by
    rw [h1, m1, Int.mul_assoc, Int.mul_left_comm H', ← Int.mul_assoc]; rfl
  have eLM : loX A * hiX B = 134217728 * (loX A * M') := by rw [m1]; exact Int.mul_left_comm _ _ _
  have eHN : hiX A * loX B = 134217728 * (H' * loX B) := by rw [h1]; exact Int.mul_assoc _ _ _
  unfold erX
  rw [eHM, eLM, eHN]
  generalize G (A * B) = P at *
  generalize A * B = AB at *
  generalize 2 ^ kk AB = g at *
  generalize H' * M' = hm at *
  generalize loX A * M' = lm at *
  generalize H' * loX B = hn at *
  generalize loX A * loX B = ln at *
  rw [G_fix (fl_54 hm (by omega)), G_fix (fl_27 lm (by omega)), G_fix (fl_27 hn (by omega)), G_fix (fl_small (x := ln) (by omega))]
  have d54 : Dv 52 (18014398509481984 * hm) := ⟨4 * hm, by rw [w52]; omega⟩
  have d27 : Dv 27 (134217728 * lm) := ⟨lm, by rw [w27]; rfl⟩
  have f1 : Fl (P - 18014398509481984 * hm) := fl_dv_of 52 (hP.sub d54) (by rw [w52]; omega)
  rw [G_fix f1]
  have f2 : Fl (P - 18014398509481984 * hm - 134217728 * lm) := fl_dv_of 27 (((hP.sub d54).low (by decide)).sub d27) (by rw [w27]; omega)
  rw [G_fix f2]
  have f3 : Fl (P - 18014398509481984 * hm - 134217728 * lm - 134217728 * hn) := fl_small (by omega)
  rw [G_fix f3]
  have f4 : Fl (ln - (P - 18014398509481984 * hm - 134217728 * lm - 134217728 * hn)) := fl_small (by omega)
  rw [G_fix f4]
  omega
end Go.Proofs.Ytiibjhemljkgbaa.Fp
