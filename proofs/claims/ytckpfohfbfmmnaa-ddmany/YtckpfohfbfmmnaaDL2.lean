/- Products by a float of at most 1 stay finite: the steps of TwoProd make the total at most a little greater. -/
import Derived.Test.YtckpfohfbfmmnaaDL1
import Derived.Test.YtckpfohfbfmmnaaDDD
namespace Go.Proofs.Ytckpfohfbfmmnaa
open EP

theorem sign_mul (x y : Bool) (u v : Int) (a b : Nat) (hu : u = if x then - (a : Int) else (a : Int)) (hv : v = if y then - (b : Int) else (b : Int)) : u * v = if (x ^^ y) then - ((a * b : Nat) : Int) else ((a * b : Nat) : Int) := by
  subst hu hv
  cases x <;> cases y <;> simp [Int.mul_neg, Int.neg_mul]
theorem sign_near (s : Bool) (r M d : Nat) (h1 : 9007199254740992 * (r * d) ≤ 9007199254740992 * M + M + 4503599627370496 * d) (h2 : 9007199254740992 * M ≤ 9007199254740992 * (r * d) + M + 4503599627370496 * d) (v P : Int) (hv : v = if s then - (r : Int) else (r : Int)) (hP : P = if s then - (M : Int) else (M : Int)) : 9007199254740992 * (v * (d : Int) - P).natAbs ≤ P.natAbs + 4503599627370496 * d := by
  subst hv hP
  have e : ((r * d : Nat) : Int) = (r : Int) * (d : Int) := by simp
  cases s
  · simp only [Bool.false_eq_true, if_false]
    rw [← e]
    generalize r * d = q at *
    omega
  · simp only [if_true]
    rw [Int.neg_mul, ← e]
    generalize r * d = q at *
    omega
theorem mul_near (a b D N : Nat) (hN : N = 2097) (hD : D = 1074) (ha : finB a = true) (hb : finB b = true) (hE : (V a * V b).natAbs < 2 ^ (N + D)) :
    ∃ r, fo .mul a b = some r ∧ finB r = true ∧ 9007199254740992 * (V r * ((2 ^ D : Nat) : Int) - V a * V b).natAbs ≤ (V a * V b).natAbs + 4503599627370496 * 2 ^ D := by
  obtain ⟨m, p, e1, e2, -⟩ := read_fin a ha
  obtain ⟨n, q, e3, e4, -⟩ := read_fin b hb
  have va := V_mk a m p e2
  have vb := V_mk b n q e4
  have hA : (V a).natAbs = m * 2 ^ p := by rw [va]; split <;> simp only [Int.natAbs_neg, Int.natAbs_natCast]
  have hB : (V b).natAbs = n * 2 ^ q := by rw [vb]; split <;> simp only [Int.natAbs_neg, Int.natAbs_natCast]
  have hM : m * n * 2 ^ (p + q) = (V a * V b).natAbs := by
    rw [Int.natAbs_mul, hA, hB, Nat.pow_add]
    rw [Nat.mul_assoc m n, Nat.mul_assoc m (2 ^ p), Nat.mul_left_comm n]
  obtain ⟨f1, f2, r, f3, f4, f5, -⟩ := near_V (negB a ^^ negB b) (m * n) (-1074 + (p : Int) + (-1074 + (q : Int))) D (p + q) N hN (by rw [hD]; omega) (by rw [hM]; exact hE)
  have hm : Ieee.double.mul a b = some (Ieee.double.nearest (negB a ^^ negB b) (m * n) (-1074 + (p : Int) + (-1074 + (q : Int)))) := by
    unfold Ieee.Format.mul
    rw [e1, e3]
    rfl
  refine ⟨_, fo_of_mul hm f1, f1, ?_⟩
  have hP := sign_mul (negB a) (negB b) (V a) (V b) _ _ va vb
  have hM2 : m * 2 ^ p * (n * 2 ^ q) = m * n * 2 ^ (p + q) := by rw [hM, Int.natAbs_mul, hA, hB]
  rw [hM2] at hP
  exact sign_near _ r _ _ f4 f5 _ _ f3 hP

/-- A split: the first part lies near, the second is small, together they are it but for very little. -/
theorem split_lin (A C X H L : Int) (h1 : 9007199254740992 * (C - 134217729 * A).natAbs ≤ 134217729 * A.natAbs + 4503599627370496) (h2 : 9007199254740992 * (X - (C - A)).natAbs ≤ (C - A).natAbs) (h3 : 9007199254740992 * (H - (C - X)).natAbs ≤ (C - X).natAbs) (h4 : 9007199254740992 * (L - (A - H)).natAbs ≤ (A - H).natAbs) :
    16777216 * (H - A).natAbs ≤ A.natAbs + 16777216 ∧ (L.natAbs : Int) ≤ A.natAbs + 4 ∧ 9007199254740992 * (H + L - A).natAbs ≤ A.natAbs + 4 ∧ (H.natAbs : Int) ≤ 2 * A.natAbs + 4 := by
  have a1 : (C - A).natAbs ≤ 134217730 * A.natAbs + 1 := by omega
  have a2 : 9007199254740992 * (X - (C - A)).natAbs ≤ 134217730 * A.natAbs + 1 := by omega
  have a3 : 9007199254740992 * ((C - X) - A).natAbs ≤ 134217730 * A.natAbs + 1 := by omega
  have a4 : 16777216 * (H - A).natAbs ≤ A.natAbs + 16777216 := by omega
  refine ⟨a4, by omega, by omega, by omega⟩

theorem cancel_d (K J : Nat) (T U : Int) (d : Nat) (hd : 0 < d) (h : K * (T * (d : Int)).natAbs ≤ (U * (d : Int)).natAbs + J * d) : K * T.natAbs ≤ U.natAbs + J := by
  rw [Int.natAbs_mul, Int.natAbs_mul, Int.natAbs_natCast, ← Nat.mul_assoc, ← Nat.add_mul] at h
  exact Nat.le_of_mul_le_mul_right h hd
theorem splitter_V (D : Nat) (hD : D = 1074) : V 4728779608772575232 = 134217729 * ((2 ^ D : Nat) : Int) := by subst hD; decide +kernel
theorem pow_room (n N : Nat) (h : n + 45 ≤ N) : 35184372088832 * 2 ^ n ≤ 2 ^ N := by
  have := pow_le2 (n + 45) N h
  rw [Nat.pow_add, Nat.mul_comm] at this
  exact this
theorem split_fo (a n : Nat) (hn : n ≤ 2050) (fa : finB a = true) (ha : amt a ≤ 2 ^ n) : ∃ h l, splitO a = some (h, l) ∧ finB h = true ∧ finB l = true ∧
    (16777216 * (V h - V a).natAbs ≤ (V a).natAbs + 16777216 ∧ ((V l).natAbs : Int) ≤ (V a).natAbs + 4 ∧ 9007199254740992 * (V h + V l - V a).natAbs ≤ (V a).natAbs + 4 ∧ ((V h).natAbs : Int) ≤ 2 * (V a).natAbs + 4) := by
  obtain ⟨N, hN⟩ : ∃ N, N = 2097 := ⟨_, rfl⟩
  obtain ⟨D, hD⟩ : ∃ D, D = 1074 := ⟨_, rfl⟩
  have hroom := pow_room n N (by omega)
  have hp := pow2_pos n
  have hd := pow2_pos D
  have hE : (V 4728779608772575232 * V a).natAbs < 2 ^ (N + D) := by
    rw [splitter_V D hD, Nat.pow_add 2 N D, Int.natAbs_mul, Int.natAbs_mul, Int.natAbs_natCast]
    have h1 : (134217729 : Int).natAbs = 134217729 := rfl
    rw [h1, Nat.mul_right_comm]
    refine Nat.mul_lt_mul_of_pos_right ?_ hd
    unfold amt at ha
    omega
  obtain ⟨c, e1, f1, r1⟩ := mul_near 4728779608772575232 a D N hN hD (by decide) fa hE
  have r1' : 9007199254740992 * (V c - 134217729 * V a).natAbs ≤ 134217729 * (V a).natAbs + 4503599627370496 := by
    rw [splitter_V D hD] at r1
    have e0 : V c * ((2 ^ D : Nat) : Int) - 134217729 * ((2 ^ D : Nat) : Int) * V a = (V c - 134217729 * V a) * ((2 ^ D : Nat) : Int) := by
      rw [Int.sub_mul, Int.mul_right_comm]
    have e2 : 134217729 * ((2 ^ D : Nat) : Int) * V a = (134217729 * V a) * ((2 ^ D : Nat) : Int) := Int.mul_right_comm _ _ _
    rw [e0, e2] at r1
    have := cancel_d _ _ _ _ _ hd r1
    rw [Int.natAbs_mul] at this
    exact this
  unfold amt at ha
  obtain ⟨x, e2, f2, -, r2⟩ := sub_spec c a N hN f1 fa (by generalize V c = C at *; generalize V a = A at *; omega)
  obtain ⟨h, e3, f3, -, r3⟩ := sub_spec c x N hN f1 f2 (by generalize V c = C at *; generalize V a = A at *; generalize V x = X at *; omega)
  obtain ⟨l, e4, f4, -, r4⟩ := sub_spec a h N hN fa f3 (by generalize V c = C at *; generalize V a = A at *; generalize V x = X at *; generalize V h = H at *; omega)
  exact ⟨h, l, by simp only [splitO, e1, fo_of_sub e2 f2, fo_of_sub e3 f3, fo_of_sub e4 f4, Option.bind_some], f3, f4, split_lin _ _ _ _ _ r1' r2 r3 r4⟩

theorem nb {x : Int} {y : Nat} (h : 9007199254740992 * x.natAbs ≤ y) : -(y : Int) ≤ 9007199254740992 * x ∧ 9007199254740992 * x ≤ (y : Int) := by omega
theorem nb1 {x : Int} {y : Nat} (h : x.natAbs ≤ y) : -(y : Int) ≤ x ∧ x ≤ (y : Int) := by omega
theorem mul_bound (x y : Int) (X Y Z : Nat) (hx : x.natAbs ≤ X) (hy : y.natAbs ≤ Y) (h : X * Y ≤ Z) : (x * y).natAbs ≤ Z := by
  rw [Int.natAbs_mul]; exact Nat.le_trans (Nat.mul_le_mul hx hy) h
theorem cross (A B H L M N : Int) : H * M + L * M + (H * N + L * N) - A * B = A * (M + N - B) + (H + L - A) * B + (H + L - A) * (M + N - B) := by
  have e1 : H * M + L * M + (H * N + L * N) = (H + L) * (M + N) := by rw [Int.mul_add, Int.add_mul, Int.add_mul]
  rw [e1]
  obtain ⟨u, hu⟩ : ∃ u, u = H + L - A := ⟨_, rfl⟩
  obtain ⟨v, hv⟩ : ∃ v, v = M + N - B := ⟨_, rfl⟩
  rw [← hu, ← hv, show H + L = A + u by omega, show M + N = B + v by omega]
  rw [Int.mul_add, Int.add_mul, Int.add_mul]
  omega
theorem cross_bound (A B u v : Int) (α d K : Nat) (hA : A.natAbs ≤ α) (hB : B.natAbs ≤ d) (hu : 9007199254740992 * u.natAbs ≤ α + 4) (hv : 9007199254740992 * v.natAbs ≤ 2 * d) (hK : K = (α + 4) * d) : 9007199254740992 * (A * v + u * B + u * v).natAbs ≤ 5 * K := by
  have h1 : 9007199254740992 * (A * v).natAbs ≤ 2 * K := by
    rw [Int.natAbs_mul, Nat.mul_left_comm, hK]
    have := Nat.mul_le_mul hA hv
    have h2 : α * (2 * d) ≤ 2 * ((α + 4) * d) := by
      rw [Nat.mul_left_comm]
      exact Nat.mul_le_mul_left _ (Nat.mul_le_mul_right _ (by omega))
    omega
  have h2 : 9007199254740992 * (u * B).natAbs ≤ K := by
    rw [Int.natAbs_mul, ← Nat.mul_assoc, hK]
    exact Nat.mul_le_mul hu hB
  have h3 : 9007199254740992 * (u * v).natAbs ≤ 2 * K := by
    rw [Int.natAbs_mul, ← Nat.mul_assoc, hK]
    have hv' : v.natAbs ≤ 2 * d := by omega
    have := Nat.mul_le_mul hu hv'
    rw [Nat.mul_left_comm] at this
    exact this
  generalize A * v = p at *
  generalize u * B = q at *
  generalize u * v = r at *
  omega
theorem prod_lin (PD Q1 Q2 Q3 Q4 AB HM LM HN LN K d : Int) (hK : 0 ≤ K) (hd : 0 ≤ d)
    (a1 : -(K + 4503599627370496 * d) ≤ 9007199254740992 * (PD - AB)) (a2 : 9007199254740992 * (PD - AB) ≤ K + 4503599627370496 * d)
    (b1 : -(6 * K + 4503599627370496 * d) ≤ 9007199254740992 * (Q1 - HM)) (b2 : 9007199254740992 * (Q1 - HM) ≤ 6 * K + 4503599627370496 * d)
    (c1 : -(6 * K + 4503599627370496 * d) ≤ 9007199254740992 * (Q2 - LM)) (c2 : 9007199254740992 * (Q2 - LM) ≤ 6 * K + 4503599627370496 * d)
    (d1 : -(6 * K + 4503599627370496 * d) ≤ 9007199254740992 * (Q3 - HN)) (d2 : 9007199254740992 * (Q3 - HN) ≤ 6 * K + 4503599627370496 * d)
    (e1 : -(6 * K + 4503599627370496 * d) ≤ 9007199254740992 * (Q4 - LN)) (e2 : 9007199254740992 * (Q4 - LN) ≤ 6 * K + 4503599627370496 * d)
    (g1 : -(5 * K) ≤ 9007199254740992 * (HM + LM + (HN + LN) - AB)) (g2 : 9007199254740992 * (HM + LM + (HN + LN) - AB) ≤ 5 * K) :
    9007199254740992 * (Q1 + Q2 + Q3 + Q4 - PD).natAbs ≤ 30 * K.natAbs + 22517998136852480 * d.natAbs := by omega
theorem sizes_lin (p : Int) (α d K : Nat) (AB : Int) (hd : 0 < d) (hK : K = (α + 4) * d) (j : Nat) (hAB : AB.natAbs ≤ j * K) (h : 9007199254740992 * (p * (d : Int) - AB).natAbs ≤ AB.natAbs + 4503599627370496 * d) (hj : j ≤ 8) : p.natAbs ≤ (j + 1) * (α + 4) + 1 := by
  have h1 : 9007199254740992 * (p * (d : Int)).natAbs ≤ 9007199254740992 * (j * K) + j * K + 4503599627370496 * d := by
    generalize p * (d : Int) = u at *
    generalize j * K = v at *
    omega
  rw [Int.natAbs_mul, Int.natAbs_natCast, hK] at h1
  have h2 : p.natAbs * d ≤ ((j + 1) * (α + 4) + 1) * d := by
    have e : ((j + 1) * (α + 4) + 1) * d = j * ((α + 4) * d) + (α + 4) * d + d := by
      rw [Nat.add_mul, Nat.add_mul, Nat.add_mul, Nat.one_mul, Nat.one_mul, Nat.mul_assoc]
    rw [e]
    have hv : j * ((α + 4) * d) ≤ 8 * ((α + 4) * d) := Nat.mul_le_mul_right _ hj
    generalize p.natAbs * d = u at *
    generalize j * ((α + 4) * d) = v at *
    generalize (α + 4) * d = k at *
    omega
  exact Nat.le_of_mul_le_mul_right h2 hd
end Go.Proofs.Ytckpfohfbfmmnaa
