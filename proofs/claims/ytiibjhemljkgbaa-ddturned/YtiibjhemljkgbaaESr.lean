/- Moderate floats: not too small; what the steps come to either way round. -/
import Derived.Test.YtiibjhemljkgbaaESt
namespace Go.Proofs.Ytiibjhemljkgbaa.Fp
open Go.RowKit EP Ieee

theorem least_674 (X : Nat) (hX : X = 674) : V 2805742567851819008 = ((2 ^ X : Nat) : Int) := by rw [hX]; decide +kernel
theorem in_lo (x X : Nat) (hX : X = 674) (h : inB x = true) : 2 ^ X ≤ (V x).natAbs := by
  have hx := (in_bd x h).1
  have hc1 : finB 2805742567851819008 = true := by decide
  unfold inB at h
  simp only [Bool.and_eq_true, Bool.or_eq_true, beq_iff_eq] at h
  have a1 : V 2805742567851819008 ≤ V x := by
    rcases h.1 with h1 | h1
    · exact Int.le_of_lt (order_gt_V x _ hx hc1 h1)
    · rw [order_eq_V x _ hx hc1 h1]; exact Int.le_refl _
  rw [least_674 X hX] at a1
  generalize 2 ^ X = P at *
  omega
theorem neg_lo (a X : Nat) (w : World) (hX : X = 674) (hb : bd a 1475) (h : inB (fv .sub 0 a w) = true) : 2 ^ X ≤ (V a).natAbs := by
  have h0 : bd 0 1475 := ⟨by decide, by rw [show V 0 = 0 by decide]; exact Nat.zero_le _⟩
  obtain ⟨r, e1, -, -, e4⟩ := fo_G_sub h0 hb (by decide)
  rw [fv_eq e1 w] at h
  have h1 := in_lo r X hX h
  rw [e4, show V 0 = 0 by decide, Int.zero_sub, G_fix (fl_neg (V_fl a hb.1)), Int.natAbs_neg] at h1
  exact h1
theorem norm_of (a X : Nat) (hX : X = 674) (fa : finB a = true) (h : V a = 0 ∨ 2 ^ X ≤ (V a).natAbs) : ∃ A i, Nm a A i := by
  rcases h with h | h
  · exact ⟨0, 622, by rw [h, Int.zero_mul], .inl rfl, Nat.le_refl _⟩
  · have hk : 622 ≤ kk (V a) := le_kk (by rw [show 52 + 622 = X by omega]; exact h)
    obtain ⟨A, hA⟩ := fl_dv (V_fl a fa)
    have h1 := kk_lt (V a)
    have h2 := kk_ge (V a) (by omega)
    generalize kk (V a) = i at *
    have hp := pow2_pos i
    have e : (V a).natAbs = A.natAbs * 2 ^ i := by rw [hA, Int.natAbs_mul, Int.natAbs_natCast, Nat.mul_comm]
    rw [e, p53] at h1
    rw [e, Nat.pow_add, w52] at h2
    exact ⟨A, i, by rw [hA, Int.mul_comm], .inr ⟨Nat.le_of_mul_le_mul_right h2 hp, Nat.lt_of_mul_lt_mul_right h1⟩, hk⟩
theorem eq_of_V {x y : Nat} (hx : finB x = true) (hy : finB y = true) (h : V x = V y) : (double.order x y == some .eq) = true := by
  rw [order_fin x y hx hy, h]
  have : compare (V y) (V y) = .eq := by show compareOfLessAndEq (V y) (V y) = _; unfold compareOfLessAndEq; rw [if_neg (by omega), if_pos rfl]
  rw [this]; rfl
/-- all that EftOrder asks of moderate floats -/
theorem order_all (a b i j : Nat) (A' B' : Int) (ha : bd a 1475) (hb : bd b 1475) (hA : Nm a A' i) (hB : Nm b B' j) :
    ∃ s t u v p e q f x y, twoSumO a b = some (s, t) ∧ twoSumO b a = some (u, v) ∧ twoProdO a b = some (p, e) ∧ twoProdO b a = some (q, f) ∧ twoSumO s t = some (x, y) ∧
      (double.order s u == some .eq) = true ∧ (double.order t v == some .eq) = true ∧ (double.order p q == some .eq) = true ∧ (double.order e f == some .eq) = true ∧ (double.order x s == some .eq) = true ∧ (double.order y t == some .eq) = true := by
  obtain ⟨s, t, e1, b1, b2, g1, g2⟩ := twoSum_V ha hb (by decide)
  obtain ⟨u, v, e2, b3, b4, g3, g4⟩ := twoSum_V hb ha (by decide)
  have hi := hA.2.2
  have hj := hB.2.2
  obtain ⟨p, e, e3, b5, b6, g5, g6⟩ := twoProd_V (k := 1876) (K := i + j - 1074) ha hb (by decide) (by decide) hA hB (by omega)
  obtain ⟨q, f, e4, b7, b8, g7, g8⟩ := twoProd_V (k := 1876) (K := i + j - 1074) hb ha (by decide) (by decide) hB hA (by omega)
  obtain ⟨x, y, e5, b9, b10, g9, g10⟩ := twoSum_V (n := 1485) (b1.mono (by decide)) b2 (by decide)
  have k1 : V s = V u := by rw [g1, g3, Int.add_comm]
  have k2 : V t = V v := by rw [g2, g4, k1, Int.add_comm]
  have k3 : V p = V q := by rw [g5, g7, Int.mul_comm B']
  have k4 : V e = V f := by rw [g6, g8, Int.mul_comm B']
  have k5 : V x = V s := by rw [g9, g2, show V s + (V a + V b - V s) = V a + V b by omega, g1]
  have k6 : V y = V t := by rw [g10, k5]; omega
  exact ⟨s, t, u, v, p, e, q, f, x, y, e1, e2, e3, e4, e5, eq_of_V b1.1 b3.1 k1, eq_of_V b2.1 b4.1 k2, eq_of_V b5.1 b7.1 k3, eq_of_V b6.1 b8.1 k4, eq_of_V b9.1 b1.1 k5, eq_of_V b10.1 b2.1 k6⟩
end Go.Proofs.Ytiibjhemljkgbaa.Fp
