/- Split and TwoProd, float by float: nothing is lost. -/
import Derived.Test.YtiibjhemljkgbaaESv
namespace Go.Proofs.Ytiibjhemljkgbaa.Fp
open EP Ieee

theorem read_fin2 (x : Nat) (h : finB x = true) (m p : Nat) (hr : double.read x = .number (negB x) m (-1074 + (p : Int))) : m < 9007199254740992 := by
  have h' : x % 9223372036854775808 < 9218868437227405312 := of_decide_eq_true h
  have hs : double.signWeight = 9223372036854775808 := by decide
  have hlp : double.leastPlace = -1074 := by decide
  have hbi : double.binade = 4503599627370496 := by decide
  have hir : double.infRung = 9218868437227405312 := by decide
  unfold Format.read at hr
  dsimp only at hr
  rw [hs, hlp, hbi, hir] at hr
  generalize x % 9223372036854775808 = r at *
  by_cases h1 : r < 4503599627370496
  · rw [if_pos h1] at hr
    simp only [Datum.number.injEq] at hr
    omega
  · rw [if_neg h1, if_pos h'] at hr
    simp only [Datum.number.injEq] at hr
    omega
theorem exp_low {m p v x : Nat} (hm : m < 9007199254740992) (h : m * 2 ^ p = v) (hv : 2 ^ x ≤ v) : x ≤ p + 52 := by
  refine Nat.le_of_not_lt fun q => ?_
  have h1 : m * 2 ^ p < 2 ^ 53 * 2 ^ p := Nat.mul_lt_mul_of_pos_right (by rw [show (2 : Nat) ^ 53 = 9007199254740992 by decide]; exact hm) (pow2_pos p)
  rw [← Nat.pow_add] at h1
  have h2 := Nat.pow_le_pow_right (n := 2) (by decide) (show 53 + p ≤ x by omega)
  omega
/-- A product of floats that are 0, or not too small. -/
theorem fo_G_mul {a b m n k x y : Nat} (ha : bd a m) (hb : bd b n) (hk : m + n = k + 1074) (hn : k ≤ 2090) (Q : Int) (D : Nat) (hD : D = 1074) (hQ : V a * V b = Q * ((2 ^ D : Nat) : Int)) (hlow : V a = 0 ∨ V b = 0 ∨ (2 ^ x ≤ (V a).natAbs ∧ 2 ^ y ≤ (V b).natAbs ∧ 1178 ≤ x + y)) : ∃ r, fo .mul a b = some r ∧ r < 18446744073709551616 ∧ bd r (k + 1) ∧ V r = G Q := by
  obtain ⟨r, e, h1, h2⟩ := mul_bd ha hb hk hn
  obtain ⟨N, hN⟩ : ∃ N : Nat, N = 2097 := ⟨_, rfl⟩
  have hDp := pow2_pos D
  have hQa : Q.natAbs * 2 ^ D ≤ 2 ^ k * 2 ^ D := by
    have : (V a * V b).natAbs = Q.natAbs * 2 ^ D := by rw [hQ, Int.natAbs_mul, Int.natAbs_natCast]
    rw [← this, Int.natAbs_mul, ← Nat.pow_add, hD, ← hk, Nat.pow_add]
    exact Nat.mul_le_mul ha.2 hb.2
  have hQb : Q.natAbs < 2 ^ N := Nat.lt_of_le_of_lt (Nat.le_of_mul_le_mul_right hQa hDp) (Nat.pow_lt_pow_right (by decide) (by omega))
  have hV : V r = G Q := by
    by_cases h0 : V a * V b = 0
    · have hq : Q = 0 := by
        rw [h0] at hQ
        rcases Int.mul_eq_zero.1 hQ.symm with q | q
        · exact q
        · omega
      obtain ⟨r', e1, -, -, e4, -⟩ := mul_spec a b D N hN hD ha.1 hb.1 (by rw [h0]; exact pow2_pos _)
      obtain rfl := Option.some.inj (e.symm.trans e1)
      have hg : G 0 = 0 := by decide
      rw [hq, hg]
      rw [h0] at e4
      simp only [Int.natAbs_zero, Nat.mul_zero, Nat.zero_add] at e4
      have h3 : (V r).natAbs = 0 := by
        refine Nat.eq_zero_of_not_pos fun q => ?_
        have : 1 * 2 ^ D ≤ (V r).natAbs * 2 ^ D := Nat.mul_le_mul_right _ q
        omega
      omega
    · obtain ⟨r', e1, -, -, e4⟩ := mul_G a b D N hN hD ha.1 hb.1 Q hQ (fun m' p n' q f1 f2 f3 f4 => by
        rcases hlow with z | z | ⟨g1, g2, g3⟩
        · exact absurd (by rw [z, Int.zero_mul]) h0
        · exact absurd (by rw [z, Int.mul_zero]) h0
        · have k1 := exp_low (read_fin2 a ha.1 m' p f3) f1 g1
          have k2 := exp_low (read_fin2 b hb.1 n' q f4) f2 g2
          omega) hQb
      obtain rfl := Option.some.inj (e.symm.trans e1)
      exact e4
  refine ⟨r, ?_, h1, h2, hV⟩
  show (double.mul a b).bind _ = _
  rw [e]; show (if finB r then some r else none) = _; rw [if_pos h2.1]
/-- A float as a number of 53 bits times a power of 2 (or 0), not too small. -/
def Nm (a : Nat) (A : Int) (i : Nat) : Prop := V a = A * ((2 ^ i : Nat) : Int) ∧ (A = 0 ∨ (4503599627370496 ≤ A.natAbs ∧ A.natAbs < 9007199254740992)) ∧ 622 ≤ i
theorem splitter_V (D : Nat) (hD : D = 1074) : V 4728779608772575232 = 134217729 * ((2 ^ D : Nat) : Int) := by
  rw [hD]; decide +kernel
theorem split_V {a n i : Nat} {A : Int} (ha : bd a n) (hn : n ≤ 2040) (hN : Nm a A i) : ∃ h l, splitO a = some (h, l) ∧ bd h (n + 33) ∧ bd l (n + 35) ∧ V h = hiX A * ((2 ^ i : Nat) : Int) ∧ V l = loX A * ((2 ^ i : Nat) : Int) := by
  obtain ⟨hv, hA, hi⟩ := hN
  obtain ⟨D, hD⟩ : ∃ D : Nat, D = 1074 := ⟨_, rfl⟩
  have hmul : V 4728779608772575232 * V a = 134217729 * V a * ((2 ^ D : Nat) : Int) := by
    rw [splitter_V D hD, Int.mul_assoc, Int.mul_comm ((2 ^ D : Nat) : Int), ← Int.mul_assoc]
  obtain ⟨c, e1, -, b1, g1⟩ := fo_G_mul (k := n + 28) (x := 26 + D) (y := i) splitter_bd ha (by omega) (by omega) (134217729 * V a) D hD hmul (by
    rcases hA with z | z
    · right; left; rw [hv, z, Int.zero_mul]
    · right; right
      refine ⟨?_, ?_, by omega⟩
      · rw [splitter_V D hD, Int.natAbs_mul, Int.natAbs_natCast, Nat.pow_add]
        exact Nat.mul_le_mul_right _ (by decide)
      · rw [hv, Int.natAbs_mul, Int.natAbs_natCast]
        exact Nat.le_mul_of_pos_left _ (by omega))
  obtain ⟨x, e2, -, b2, g2⟩ := fo_G_sub b1 (ha.mono (by omega)) (by omega)
  obtain ⟨h, e3, -, b3, g3⟩ := fo_G_sub (b1.mono (by omega)) b2 (by omega)
  obtain ⟨l, e4, -, b4, g4⟩ := fo_G_sub (ha.mono (by omega)) b3 (by omega)
  have s1 : V c = G (134217729 * A) * ((2 ^ i : Nat) : Int) := by rw [g1, hv, ← Int.mul_assoc, G_scale]
  have s2 : V x = G (G (134217729 * A) - A) * ((2 ^ i : Nat) : Int) := by rw [g2, s1, hv, ← Int.sub_mul, G_scale]
  have s3 : V h = hiX A * ((2 ^ i : Nat) : Int) := by rw [g3, s1, s2, ← Int.sub_mul, G_scale]; rfl
  have s4 : V l = loX A * ((2 ^ i : Nat) : Int) := by rw [g4, s3, hv, ← Int.sub_mul, G_scale]; rfl
  exact ⟨h, l, by simp only [splitO, e1, e2, e3, e4, Option.bind_some], b3, b4, s3, s4⟩
theorem scale2 (x y : Int) (i j K D : Nat) (h : i + j = K + D) : x * ((2 ^ i : Nat) : Int) * (y * ((2 ^ j : Nat) : Int)) = x * y * ((2 ^ K : Nat) : Int) * ((2 ^ D : Nat) : Int) := by
  have e : ((2 ^ i : Nat) : Int) * ((2 ^ j : Nat) : Int) = ((2 ^ K : Nat) : Int) * ((2 ^ D : Nat) : Int) := by
    rw [← Int.natCast_mul, ← Int.natCast_mul, ← Nat.pow_add, ← Nat.pow_add, h]
  rw [Int.mul_assoc x, Int.mul_left_comm ((2 ^ i : Nat) : Int), e, ← Int.mul_assoc x, ← Int.mul_assoc]
theorem pow_le_part (x : Int) (i : Nat) (h : x ≠ 0) : 2 ^ i ≤ (x * ((2 ^ i : Nat) : Int)).natAbs := by
  rw [Int.natAbs_mul, Int.natAbs_natCast]
  exact Nat.le_mul_of_pos_left _ (by omega)
theorem low_or (x y : Int) (i j : Nat) (hij : 1178 ≤ i + j) : x * ((2 ^ i : Nat) : Int) = 0 ∨ y * ((2 ^ j : Nat) : Int) = 0 ∨ (2 ^ i ≤ (x * ((2 ^ i : Nat) : Int)).natAbs ∧ 2 ^ j ≤ (y * ((2 ^ j : Nat) : Int)).natAbs ∧ 1178 ≤ i + j) := by
  by_cases hx : x = 0
  · left; rw [hx, Int.zero_mul]
  · by_cases hy : y = 0
    · right; left; rw [hy, Int.zero_mul]
    · exact .inr (.inr ⟨pow_le_part x i hx, pow_le_part y j hy, hij⟩)
theorem prod_XZ (A B : Int) (hA : A = 0 ∨ (4503599627370496 ≤ A.natAbs ∧ A.natAbs < 9007199254740992)) (hB : B = 0 ∨ (4503599627370496 ≤ B.natAbs ∧ B.natAbs < 9007199254740992)) : erX A B (G (A * B)) = A * B - G (A * B) := by
  have z1 : hiX 0 = 0 := by decide
  have z2 : loX 0 = 0 := by decide
  have z3 : G 0 = 0 := by decide
  rcases hA with q | q
  · subst q
    unfold erX
    simp only [z1, z2, Int.zero_mul, z3, Int.sub_zero]
  · rcases hB with r | r
    · subst r
      unfold erX
      simp only [z1, z2, Int.mul_zero, z3, Int.sub_zero]
    · exact prod_X A B q.1 q.2 r.1 r.2
/-- TwoProd's two floats: the product rounded, and what is left of it, exactly (in units of 2^K). -/
theorem twoProd_V {a b n k i j K : Nat} {A B : Int} (ha : bd a n) (hb : bd b n) (hk : n + n = k + 1074) (hn : k ≤ 2000) (hA : Nm a A i) (hB : Nm b B j) (hK : i + j = K + 1074) : ∃ p e, twoProdO a b = some (p, e) ∧ bd p (k + 1) ∧ bd e (k + 80) ∧ V p = G (A * B) * ((2 ^ K : Nat) : Int) ∧ V e = (A * B - G (A * B)) * ((2 ^ K : Nat) : Int) := by
  obtain ⟨D, hD⟩ : ∃ D : Nat, D = 1074 := ⟨_, rfl⟩
  have hKD : i + j = K + D := by omega
  have hij : 1178 ≤ i + j := by have := hA.2.2; have := hB.2.2; omega
  obtain ⟨p, e1, -, b1, g1⟩ := fo_G_mul (x := i) (y := j) ha hb hk (by omega) (A * B * ((2 ^ K : Nat) : Int)) D hD (by rw [hA.1, hB.1]; exact scale2 A B i j K D hKD) (by rw [hA.1, hB.1]; exact low_or A B i j hij)
  obtain ⟨h, l, e2, b2, b3, v1, v2⟩ := split_V ha (by omega) hA
  obtain ⟨m, n', e3, b4, b5, v3, v4⟩ := split_V hb (by omega) hB
  replace b2 := b2.mono (n := n + 35) (by omega)
  replace b4 := b4.mono (n := n + 35) (by omega)
  obtain ⟨hm, e4, -, c1, g4⟩ := fo_G_mul (k := k + 70) (x := i) (y := j) b2 b4 (by omega) (by omega) (hiX A * hiX B * ((2 ^ K : Nat) : Int)) D hD (by rw [v1, v3]; exact scale2 _ _ i j K D hKD) (by rw [v1, v3]; exact low_or _ _ i j hij)
  obtain ⟨x, e5, -, c2, g5⟩ := fo_G_sub (b1.mono (by omega)) c1 (by omega)
  obtain ⟨lm, e6, -, c3, g6⟩ := fo_G_mul (k := k + 70) (x := i) (y := j) b3 b4 (by omega) (by omega) (loX A * hiX B * ((2 ^ K : Nat) : Int)) D hD (by rw [v2, v3]; exact scale2 _ _ i j K D hKD) (by rw [v2, v3]; exact low_or _ _ i j hij)
  obtain ⟨y, e7, -, c4, g7⟩ := fo_G_sub c2 (c3.mono (by omega)) (by omega)
  obtain ⟨hn', e8, -, c5, g8⟩ := fo_G_mul (k := k + 70) (x := i) (y := j) b2 b5 (by omega) (by omega) (hiX A * loX B * ((2 ^ K : Nat) : Int)) D hD (by rw [v1, v4]; exact scale2 _ _ i j K D hKD) (by rw [v1, v4]; exact low_or _ _ i j hij)
  obtain ⟨z, e9, -, c6, g9⟩ := fo_G_sub c4 (c5.mono (by omega)) (by omega)
  obtain ⟨ln, e10, -, c7, g10⟩ := fo_G_mul (k := k + 70) (x := i) (y := j) b3 b5 (by omega) (by omega) (loX A * loX B * ((2 ^ K : Nat) : Int)) D hD (by rw [v2, v4]; exact scale2 _ _ i j K D hKD) (by rw [v2, v4]; exact low_or _ _ i j hij)
  obtain ⟨e, e11, -, c8, g11⟩ := fo_G_sub (c7.mono (by omega)) c6 (by omega)
  have t1 : V p = G (A * B) * ((2 ^ K : Nat) : Int) := by rw [g1, G_scale]
  refine ⟨p, e, by simp only [twoProdO, e1, e2, e3, e4, e5, e6, e7, e8, e9, e10, e11, Option.bind_some], b1, c8.mono (by omega), t1, ?_⟩
  rw [g11, g10, g9, g8, g7, g6, g5, g4, t1, G_scale, G_scale, G_scale, G_scale, ← Int.sub_mul, G_scale, ← Int.sub_mul, G_scale, ← Int.sub_mul, G_scale, ← Int.sub_mul, G_scale]
  rw [← prod_XZ A B hA.2.1 hB.2.1]
  rfl
end Go.Proofs.Ytiibjhemljkgbaa.Fp
