/- What the steps lose: nothing, float by float, with their words; and as dyadic numbers. -/
import Derived.Test.YtlbaphijmonjoaaTME
import Derived.Test.YtlbaphijmonjoaaDF0T
namespace Go.Proofs.Ytlbaphijmonjoaa.Fp
open Go.RowKit EP Ieee

theorem twoSum_W {a b n : Nat} (ha : bd a n) (hb : bd b n) (hn : n ≤ 2080) : ∃ s t, twoSumO a b = some (s, t) ∧ bd s (n + 2) ∧ bd t (n + 10) ∧ V s = G (V a + V b) ∧ V t = V a + V b - V s ∧ s < 18446744073709551616 ∧ t < 18446744073709551616 := by
  obtain ⟨s, e1, q1, b1, g1⟩ := fo_G_add ha hb (by omega)
  obtain ⟨x, e2, q2, b2, g2⟩ := fo_G_sub b1 (ha.mono (by omega)) (by omega)
  obtain ⟨y, e3, q3, b3, g3⟩ := fo_G_sub (b1.mono (by omega)) b2 (by omega)
  obtain ⟨u, e4, q4, b4, g4⟩ := fo_G_sub (ha.mono (by omega)) b3 (by omega)
  obtain ⟨v, e5, q5, b5, g5⟩ := fo_G_sub (hb.mono (by omega)) b2 (by omega)
  obtain ⟨t, e6, q6, b6, g6⟩ := fo_G_add b4 (b5.mono (by omega)) (by omega)
  refine ⟨s, t, by simp only [twoSumO, e1, e2, e3, e4, e5, e6, Option.bind_some], b1, b6, g1, ?_, q1, q6⟩
  rw [g6, g4, g5, g3, g2, g1]
  exact twoSum_G (V a) (V b) (V_fl a ha.1) (V_fl b hb.1)
theorem fast_W {a b n : Nat} (ha : bd a n) (hb : bd b n) (hn : n ≤ 2080) : ∃ s t, fastO a b = some (s, t) ∧ bd s (n + 2) ∧ bd t (n + 6) ∧ V s = G (V a + V b) ∧ ((V b).natAbs ≤ (V a).natAbs ∨ V a = 0 → V t = V a + V b - V s) ∧ s < 18446744073709551616 ∧ t < 18446744073709551616 := by
  obtain ⟨s, e1, q1, b1, g1⟩ := fo_G_add ha hb (by omega)
  obtain ⟨x, e2, q2, b2, g2⟩ := fo_G_sub b1 (ha.mono (by omega)) (by omega)
  obtain ⟨t, e3, q3, b3, g3⟩ := fo_G_sub (hb.mono (by omega)) b2 (by omega)
  refine ⟨s, t, by simp only [fastO, e1, e2, e3, Option.bind_some], b1, b3, g1, fun h => ?_, q1, q3⟩
  rw [g3, g2, g1]
  exact fast_G (V a) (V b) (V_fl a ha.1) (V_fl b hb.1) h
theorem split_W {a n i : Nat} {A : Int} (ha : bd a n) (hn : n ≤ 2040) (hN : Nm a A i) : ∃ h l, splitO a = some (h, l) ∧ bd h (n + 33) ∧ bd l (n + 35) ∧ V h = hiX A * ((2 ^ i : Nat) : Int) ∧ V l = loX A * ((2 ^ i : Nat) : Int) ∧ h < 18446744073709551616 ∧ l < 18446744073709551616 := by
  obtain ⟨hv, hA, hi⟩ := hN
  obtain ⟨D, hD⟩ : ∃ D : Nat, D = 1074 := ⟨_, rfl⟩
  have hmul : V 4728779608772575232 * V a = 134217729 * V a * ((2 ^ D : Nat) : Int) := by
    rw [splitter_V D hD, Int.mul_assoc, Int.mul_comm ((2 ^ D : Nat) : Int), ← Int.mul_assoc]
  obtain ⟨c, e1, q1, b1, g1⟩ := fo_G_mul (k := n + 28) (x := 26 + D) (y := i) splitter_bd ha (by omega) (by omega) (134217729 * V a) D hD hmul (by
    rcases hA with z | z
    · right; left; rw [hv, z, Int.zero_mul]
    · right; right
      refine ⟨?_, ?_, by omega⟩
      · rw [splitter_V D hD, Int.natAbs_mul, Int.natAbs_natCast, Nat.pow_add]
        exact Nat.mul_le_mul_right _ (by decide)
      · rw [hv, Int.natAbs_mul, Int.natAbs_natCast]
        exact Nat.le_mul_of_pos_left _ (by omega))
  obtain ⟨x, e2, q2, b2, g2⟩ := fo_G_sub b1 (ha.mono (by omega)) (by omega)
  obtain ⟨h, e3, q3, b3, g3⟩ := fo_G_sub (b1.mono (by omega)) b2 (by omega)
  obtain ⟨l, e4, q4, b4, g4⟩ := fo_G_sub (ha.mono (by omega)) b3 (by omega)
  have s1 : V c = G (134217729 * A) * ((2 ^ i : Nat) : Int) := by rw [g1, hv, ← Int.mul_assoc, G_scale]
  have s2 : V x = G (G (134217729 * A) - A) * ((2 ^ i : Nat) : Int) := by rw [g2, s1, hv, ← Int.sub_mul, G_scale]
  have s3 : V h = hiX A * ((2 ^ i : Nat) : Int) := by rw [g3, s1, s2, ← Int.sub_mul, G_scale]; rfl
  have s4 : V l = loX A * ((2 ^ i : Nat) : Int) := by rw [g4, s3, hv, ← Int.sub_mul, G_scale]; rfl
  exact ⟨h, l, by simp only [splitO, e1, e2, e3, e4, Option.bind_some], b3, b4, s3, s4, q3, q4⟩
theorem twoProd_W {a b n k i j K : Nat} {A B : Int} (ha : bd a n) (hb : bd b n) (hk : n + n = k + 1074) (hn : k ≤ 2000) (hA : Nm a A i) (hB : Nm b B j) (hK : i + j = K + 1074) : ∃ p e, twoProdO a b = some (p, e) ∧ bd p (k + 1) ∧ bd e (k + 80) ∧ V p = G (A * B) * ((2 ^ K : Nat) : Int) ∧ V e = (A * B - G (A * B)) * ((2 ^ K : Nat) : Int) ∧ p < 18446744073709551616 ∧ e < 18446744073709551616 := by
  obtain ⟨D, hD⟩ : ∃ D : Nat, D = 1074 := ⟨_, rfl⟩
  have hKD : i + j = K + D := by omega
  have hij : 1178 ≤ i + j := by have := hA.2.2; have := hB.2.2; omega
  obtain ⟨p, e1, q1, b1, g1⟩ := fo_G_mul (x := i) (y := j) ha hb hk (by omega) (A * B * ((2 ^ K : Nat) : Int)) D hD (by rw [hA.1, hB.1]; exact scale2 A B i j K D hKD) (by rw [hA.1, hB.1]; exact low_or A B i j hij)
  obtain ⟨h, l, e2, b2, b3, v1, v2⟩ := split_V ha (by omega) hA
  obtain ⟨m, n', e3, b4, b5, v3, v4⟩ := split_V hb (by omega) hB
  replace b2 := b2.mono (n := n + 35) (by omega)
  replace b4 := b4.mono (n := n + 35) (by omega)
  obtain ⟨hm, e4, q2, c1, g4⟩ := fo_G_mul (k := k + 70) (x := i) (y := j) b2 b4 (by omega) (by omega) (hiX A * hiX B * ((2 ^ K : Nat) : Int)) D hD (by rw [v1, v3]; exact scale2 _ _ i j K D hKD) (by rw [v1, v3]; exact low_or _ _ i j hij)
  obtain ⟨x, e5, q3, c2, g5⟩ := fo_G_sub (b1.mono (by omega)) c1 (by omega)
  obtain ⟨lm, e6, q4, c3, g6⟩ := fo_G_mul (k := k + 70) (x := i) (y := j) b3 b4 (by omega) (by omega) (loX A * hiX B * ((2 ^ K : Nat) : Int)) D hD (by rw [v2, v3]; exact scale2 _ _ i j K D hKD) (by rw [v2, v3]; exact low_or _ _ i j hij)
  obtain ⟨y, e7, q5, c4, g7⟩ := fo_G_sub c2 (c3.mono (by omega)) (by omega)
  obtain ⟨hn', e8, q6, c5, g8⟩ := fo_G_mul (k := k + 70) (x := i) (y := j) b2 b5 (by omega) (by omega) (hiX A * loX B * ((2 ^ K : Nat) : Int)) D hD (by rw [v1, v4]; exact scale2 _ _ i j K D hKD) (by rw [v1, v4]; exact low_or _ _ i j hij)
  obtain ⟨z, e9, q7, c6, g9⟩ := fo_G_sub c4 (c5.mono (by omega)) (by omega)
  obtain ⟨ln, e10, q8, c7, g10⟩ := fo_G_mul (k := k + 70) (x := i) (y := j) b3 b5 (by omega) (by omega) (loX A * loX B * ((2 ^ K : Nat) : Int)) D hD (by rw [v2, v4]; exact scale2 _ _ i j K D hKD) (by rw [v2, v4]; exact low_or _ _ i j hij)
  obtain ⟨e, e11, q9, c8, g11⟩ := fo_G_sub (c7.mono (by omega)) c6 (by omega)
  have t1 : V p = G (A * B) * ((2 ^ K : Nat) : Int) := by rw [g1, G_scale]
  refine ⟨p, e, by simp only [twoProdO, e1, e2, e3, e4, e5, e6, e7, e8, e9, e10, e11, Option.bind_some], b1, c8.mono (by omega), t1, ?_, q1, q9⟩
  rw [g11, g10, g9, g8, g7, g6, g5, g4, t1, G_scale, G_scale, G_scale, G_scale, ← Int.sub_mul, G_scale, ← Int.sub_mul, G_scale, ← Int.sub_mul, G_scale, ← Int.sub_mul, G_scale]
  rw [← prod_XZ A B hA.2.1 hB.2.1]
  rfl

theorem pow27 (i : Nat) : ((2 ^ (27 + i) : Nat) : Int) = 134217728 * ((2 ^ i : Nat) : Int) := by
  have h : (2 : Nat) ^ (27 + i) = 134217728 * 2 ^ i := by rw [Nat.pow_add]
  rw [h]
  generalize 2 ^ i = P
  omega
set_option maxRecDepth 20000 in
theorem exact_all (a b i j : Nat) (A' B' : Int) (ha : bd a 1475) (hb : bd b 1475) (hA : Nm a A' i) (hB : Nm b B' j) :
    ∃ s t u v h l p e, twoSumO a b = some (s, t) ∧ fastO a b = some (u, v) ∧ splitO a = some (h, l) ∧ twoProdO a b = some (p, e) ∧
      (s < 18446744073709551616 ∧ t < 18446744073709551616 ∧ u < 18446744073709551616 ∧ v < 18446744073709551616 ∧ h < 18446744073709551616 ∧ l < 18446744073709551616 ∧ p < 18446744073709551616 ∧ e < 18446744073709551616) ∧
      (EP.finB s = true ∧ EP.finB t = true ∧ EP.finB u = true ∧ EP.finB v = true ∧ EP.finB h = true ∧ EP.finB l = true ∧ EP.finB p = true ∧ EP.finB e = true) ∧
      V s + V t = V a + V b ∧ ((V b).natAbs ≤ (V a).natAbs ∨ V a = 0 → V u + V v = V a + V b) ∧ V h + V l = V a ∧
      (∃ (H L : Int) (k : Nat), V h = H * ((2 ^ k : Nat) : Int) ∧ V l = L * ((2 ^ i : Nat) : Int) ∧ H.natAbs ≤ 67108864 ∧ L.natAbs ≤ 67108864) ∧
      (∀ D : Nat, D = 1074 → (V p + V e) * ((2 ^ D : Nat) : Int) = V a * V b) := by
  obtain ⟨s, t, e1, b1, b2, g1, g2, l1, l2⟩ := twoSum_W ha hb (by decide)
  obtain ⟨u, v, e2, b3, b4, g3, g4, l3, l4⟩ := fast_W ha hb (by decide)
  obtain ⟨h, l, e3, b5, b6, g5, g6, l5, l6⟩ := split_W ha (by decide) hA
  have hi := hA.2.2
  have hj := hB.2.2
  obtain ⟨p, e, e4, b7, b8, g7, g8, l7, l8⟩ := twoProd_W (k := 1876) (K := i + j - 1074) ha hb (by decide) (by decide) hA hB (by omega)
  have hs : ∃ H' : Int, hiX A' = 134217728 * H' ∧ loX A' = A' - hiX A' ∧ H'.natAbs ≤ 67108864 ∧ (loX A').natAbs ≤ 67108864 := by
    rcases hA.2.1 with z | z
    · rw [z]; exact ⟨0, by decide, by decide, by decide, by decide⟩
    · exact split_X A' z.1 z.2
  obtain ⟨H', k1, k2, k3, k4⟩ := hs
  have f1 : EP.finB s = true := b1.1
  have f2 : EP.finB t = true := b2.1
  have f3 : EP.finB u = true := b3.1
  have f4 : EP.finB v = true := b4.1
  have f5 : EP.finB h = true := b5.1
  have f6 : EP.finB l = true := b6.1
  have f7 : EP.finB p = true := b7.1
  have f8 : EP.finB e = true := b8.1
  clear b1 b2 b3 b4 b5 b6 b7 b8
  have w1 : V s + V t = V a + V b := by rw [g2]; omega
  have w2 : (V b).natAbs ≤ (V a).natAbs ∨ V a = 0 → V u + V v = V a + V b := fun c => by rw [g4 c]; omega
  refine ⟨s, t, u, v, h, l, p, e, e1, e2, e3, e4, ⟨l1, l2, l3, l4, l5, l6, l7, l8⟩, ⟨f1, f2, f3, f4, f5, f6, f7, f8⟩, w1, w2, ?_, ⟨H', loX A', 27 + i, ?_, g6, k3, k4⟩, fun D hD => ?_⟩
  · rw [g5, g6, ← Int.add_mul, k2, hA.1]; congr 1; omega
  · rw [g5, k1, pow27 i, Int.mul_comm 134217728 H', Int.mul_assoc]
  · rw [g7, g8, ← Int.add_mul, show G (A' * B') + (A' * B' - G (A' * B')) = A' * B' by omega, hA.1, hB.1]
    exact (scale2 A' B' i j (i + j - 1074) D (by omega)).symm
end Go.Proofs.Ytlbaphijmonjoaa.Fp

namespace Go.Proofs.Ytlbaphijmonjoaa
open Go.RowKit

theorem fin_eq (x : Nat) : finB (x : Int) = EP.finB x := by
  unfold finB EP.finB
  rw [Bool.eq_iff_iff, decide_eq_true_eq, decide_eq_true_eq]
  omega
theorem units_R (x : Nat) : (countV (x : Int)).toNat * 2 ^ (unitV (x : Int) - -1074).toNat = EP.R (x % 9223372036854775808) := by
  unfold EP.R countV unitV expV fracV
  by_cases h : (x : Int) / 4503599627370496 % 2048 = 0
  · rw [if_pos h, if_pos h, if_pos (by omega)]
    rw [show ((-1074 : Int) - -1074).toNat = 0 by decide, Nat.pow_zero, Nat.mul_one]
    omega
  · rw [if_neg h, if_neg h, if_neg (by omega)]
    have e1 : ((x : Int) / 4503599627370496 % 2048 - 1075 - -1074).toNat = x % 9223372036854775808 / 4503599627370496 - 1 := by omega
    have e2 : ((x : Int) % 4503599627370496 + 4503599627370496).toNat = 4503599627370496 + x % 9223372036854775808 % 4503599627370496 := by omega
    rw [e1]
    congr 1
theorem vI_from (x : Nat) (hx : x < 18446744073709551616) (fx : EP.finB x = true) : vI (fromP (x : Int)) (-1074) = EP.V x := by
  have hf : finB (x : Int) = true := (fin_eq x).trans fx
  unfold fromP
  rw [if_pos hf]
  unfold fromD
  rw [vI_form _ _ _ _ (unit_bd _).1, units_R x]
  unfold EP.V sI sgnB EP.negB
  by_cases h : 9223372036854775808 ≤ x
  · rw [decide_eq_true (show (9223372036854775808 : Int) ≤ (x : Int) by omega), if_pos rfl, show x / 9223372036854775808 % 2 = 1 by omega]
    simp
  · rw [decide_eq_false (show ¬ (9223372036854775808 : Int) ≤ (x : Int) by omega), if_neg (by simp), show x / 9223372036854775808 % 2 = 0 by omega]
    simp

def exQ (h l : Nat) : Bool × Nat × Int := sumD (fromP (h : Int)) (fromP (l : Int))
theorem exQ_can (h l : Nat) : CanD (exQ h l) := sum_canF (fr_can _) (fr_can _)
theorem exQ_low (h l : Nat) : -1074 ≤ (exQ h l).2.2 := by
  unfold exQ
  exact sum_low (fromP (h : Int)) (fromP (l : Int)) (-1074) (by decide) (fr_low _) (fr_low _)
theorem exQ_vI (a b : Nat) (ha : a < 18446744073709551616) (hb : b < 18446744073709551616) (fa : EP.finB a = true) (fb : EP.finB b = true) : vI (exQ a b) (-1074) = EP.V a + EP.V b := by
  unfold exQ
  rw [vI_sum _ _ _ (fr_low _) (fr_low _), vI_from a ha fa, vI_from b hb fb]
theorem exQ_len (h l : Nat) : (wordsOf (exQ h l).2.1).length ≤ 1024 ∧ blen (exQ h l).2.1 ≤ 65536 ∧ -32768 ≤ (exQ h l).2.2 ∧ (exQ h l).2.2 ≤ 32768 := by
  have h1 := (fr_sum_room (h : Int) (l : Int)).1
  unfold exQ
  unfold roomE at h1
  split at h1
  · rename_i q
    unfold roomB at q
    rw [Bool.and_eq_true] at q
    have hb := (great_not _).1 (show greatB (sumD (fromP (h : Int)) (fromP (l : Int))).2.1 = false by simpa using q.1)
    exact ⟨(words_len2 _ _).2 hb, hb, inB_yes q.2⟩
  · exact absurd h1 (by decide)
theorem exQ_eq (a b c d : Nat) (ha : a < 18446744073709551616) (hb : b < 18446744073709551616) (hc : c < 18446744073709551616) (hd : d < 18446744073709551616) (fa : EP.finB a = true) (fb : EP.finB b = true) (fc : EP.finB c = true) (fd : EP.finB d = true) (h : EP.V a + EP.V b = EP.V c + EP.V d) : exQ a b = exQ c d :=
  vI_inj _ _ (exQ_can _ _) (exQ_can _ _) (-1074) (exQ_low _ _) (exQ_low _ _) (by rw [exQ_vI a b ha hb fa fb, exQ_vI c d hc hd fc fd, h])
theorem exQ_one (a b c : Nat) (ha : a < 18446744073709551616) (hb : b < 18446744073709551616) (hc : c < 18446744073709551616) (fa : EP.finB a = true) (fb : EP.finB b = true) (fc : EP.finB c = true) (h : EP.V a + EP.V b = EP.V c) : exQ a b = fromP (c : Int) :=
  vI_inj _ _ (exQ_can _ _) (fr_can _) (-1074) (exQ_low _ _) (fr_low _) (by rw [exQ_vI a b ha hb fa fb, vI_from c hc fc, h])
theorem vI_down (p : Bool × Nat × Int) (E : Int) (D : Nat) (h : E ≤ p.2.2) : vI p (E - D) = vI p E * ((2 ^ D : Nat) : Int) := by
  unfold vI
  rw [show (p.2.2 - (E - (D : Int))).toNat = (p.2.2 - E).toNat + D by omega, Nat.pow_add, ← Nat.mul_assoc, Int.natCast_mul (p.2.1 * _), Int.mul_assoc]
theorem exQ_mul (p e a b : Nat) (hp : p < 18446744073709551616) (he : e < 18446744073709551616) (ha : a < 18446744073709551616) (hb : b < 18446744073709551616) (fp : EP.finB p = true) (fe : EP.finB e = true) (fa : EP.finB a = true) (fb : EP.finB b = true) (h : ∀ D : Nat, D = 1074 → (EP.V p + EP.V e) * ((2 ^ D : Nat) : Int) = EP.V a * EP.V b) : exQ p e = mulD (fromP (a : Int)) (fromP (b : Int)) := by
  obtain ⟨D, hD⟩ : ∃ D : Nat, D = 1074 := ⟨_, rfl⟩
  have e1 : (-1074 : Int) - (D : Int) = -1074 + -1074 := by omega
  have lo := exQ_low p e
  refine vI_inj _ _ (exQ_can _ _) (form_can _ _ _) (-1074 - (D : Int)) (by omega) (by rw [e1]; exact mul_low _ _ _ _ (by decide) (fr_low _) (fr_low _)) ?_
  rw [vI_down _ _ D lo, exQ_vI p e hp he fp fe, e1, vI_mul _ _ _ _ (fr_low _) (fr_low _), vI_from a ha fa, vI_from b hb fb]
  exact h D hD
theorem odd_le {m H x y M : Nat} (h : m * 2 ^ x = H * 2 ^ y) (ho : m = 0 ∨ m % 2 = 1) (hH : H ≤ M) : m ≤ M := by
  by_cases hxy : y ≤ x
  · have e : 2 ^ x = 2 ^ (x - y) * 2 ^ y := by rw [← Nat.pow_add]; congr 1; omega
    rw [e, ← Nat.mul_assoc] at h
    have h1 := Nat.eq_of_mul_eq_mul_right (Nat.two_pow_pos y) h
    have h2 := Nat.le_mul_of_pos_right m (Nat.two_pow_pos (x - y))
    omega
  · have e : 2 ^ y = 2 ^ (y - x) * 2 ^ x := by rw [← Nat.pow_add]; congr 1; omega
    rw [e, ← Nat.mul_assoc] at h
    have h1 := Nat.eq_of_mul_eq_mul_right (Nat.two_pow_pos x) h
    have e2 : 2 ^ (y - x) = 2 * 2 ^ (y - x - 1) := by rw [← Nat.pow_succ']; congr 1; omega
    rw [e2, Nat.mul_left_comm] at h1
    omega
theorem half_bits (x : Nat) (H : Int) (k : Nat) (hx : x < 18446744073709551616) (fx : EP.finB x = true) (h : EP.V x = H * ((2 ^ k : Nat) : Int)) (hH : H.natAbs ≤ 67108864) : ((blen (fromP (x : Int)).2.1 : Int) - (tz (fromP (x : Int)).2.1 : Int)) ≤ 26 := by
  have h1 := vI_from x hx fx
  rw [h] at h1
  have h2 := congrArg Int.natAbs h1
  unfold vI at h2
  rw [Int.natAbs_mul, Int.natAbs_mul, Int.natAbs_natCast, Int.natAbs_natCast] at h2
  have h3 : (sI (fromP (x : Int)).1).natAbs = 1 := by unfold sI; split <;> rfl
  rw [h3, Nat.one_mul] at h2
  have hc := fr_can (x : Int)
  have ho : (fromP (x : Int)).2.1 = 0 ∨ (fromP (x : Int)).2.1 % 2 = 1 := by
    rcases hc with c | c
    · left; rw [c]
    · right; exact c
  have h4 := odd_le h2 ho hH
  have h5 : (fromP (x : Int)).2.1 < 2 ^ 26 := by
    have : (2 : Nat) ^ 26 = 67108864 := by decide
    omega
  have h6 := (blen_le _ 26).2 h5
  omega
end Go.Proofs.Ytlbaphijmonjoaa
