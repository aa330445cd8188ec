/- Quotients of right pairs: the steps of the books have finite answers. -/
import Derived.Test.YtckpfohfbfmmnaaDDC
namespace Go.Proofs.Ytckpfohfbfmmnaa
open EP

/-- a finite float of at most that amount, by a scale -/
def rz (x n Z : Nat) : Prop := finB x = true ∧ amt x ≤ 2 ^ n * Z
theorem rz.mono {x m n Z : Nat} (h : rz x m Z) (hmn : m ≤ n) : rz x n Z := ⟨h.1, Nat.le_trans h.2 (Nat.mul_le_mul_right _ (pow_le2 m n hmn))⟩
theorem pow4Z (n Z : Nat) : 2 ^ (n + 2) * Z = 4 * (2 ^ n * Z) := by
  rw [Nat.pow_add, Nat.mul_comm (2 ^ n) (2 ^ 2), Nat.mul_assoc]
theorem add_linA (a b r : Int) (A : Nat) (ha : a.natAbs ≤ A) (hb : b.natAbs ≤ A) (h : 9007199254740992 * (r - (a + b)).natAbs ≤ (a + b).natAbs) : r.natAbs ≤ 4 * A := by omega
theorem sub_linA (a b r : Int) (A : Nat) (ha : a.natAbs ≤ A) (hb : b.natAbs ≤ A) (h : 9007199254740992 * (r - (a - b)).natAbs ≤ (a - b).natAbs) : r.natAbs ≤ 4 * A := by omega
theorem add_szA (a b : Int) (A Q : Nat) (ha : a.natAbs ≤ A) (hb : b.natAbs ≤ A) (h : 4 * A < Q) : (a + b).natAbs < Q := by omega
theorem sub_szA (a b : Int) (A Q : Nat) (ha : a.natAbs ≤ A) (hb : b.natAbs ≤ A) (h : 4 * A < Q) : (a - b).natAbs < Q := by omega
theorem lidZ {n Z N : Nat} (hn : n ≤ 95) (hZ : 2 ^ 100 * Z < 2 ^ N) : 4 * (2 ^ n * Z) < 2 ^ N := by
  rw [← pow4Z]
  exact Nat.lt_of_le_of_lt (Nat.mul_le_mul_right _ (pow_le2 (n + 2) 100 (by omega))) hZ
theorem fo_add_rz {a b n Z N : Nat} (hN : N = 2097) (hZ : 2 ^ 100 * Z < 2 ^ N) (ha : rz a n Z) (hb : rz b n Z) (hn : n ≤ 95) : ∃ r, fo .add a b = some r ∧ rz r (n + 2) Z := by
  obtain ⟨r, e, r1, -, r3⟩ := add_spec a b N hN ha.1 hb.1 (add_szA _ _ _ _ ha.2 hb.2 (lidZ hn hZ))
  exact ⟨r, fo_of_add e r1, r1, by rw [pow4Z]; exact add_linA _ _ _ _ ha.2 hb.2 r3⟩
theorem fo_sub_rz {a b n Z N : Nat} (hN : N = 2097) (hZ : 2 ^ 100 * Z < 2 ^ N) (ha : rz a n Z) (hb : rz b n Z) (hn : n ≤ 95) : ∃ r, fo .sub a b = some r ∧ rz r (n + 2) Z := by
  obtain ⟨r, e, r1, -, r3⟩ := sub_spec a b N hN ha.1 hb.1 (sub_szA _ _ _ _ ha.2 hb.2 (lidZ hn hZ))
  exact ⟨r, fo_of_sub e r1, r1, by rw [pow4Z]; exact sub_linA _ _ _ _ ha.2 hb.2 r3⟩
theorem fo_of_mul {a b r : Nat} (e : Ieee.double.mul a b = some r) (h : finB r = true) : fo .mul a b = some r := by
  show (Ieee.double.mul a b).bind _ = _
  rw [e]; show (if finB r then some r else none) = _; rw [if_pos h]
theorem fo_of_quo {a b r : Nat} (e : Ieee.double.div a b = some r) (h : finB r = true) : fo .quo a b = some r := by
  show (Ieee.double.div a b).bind _ = _
  rw [e]; show (if finB r then some r else none) = _; rw [if_pos h]
theorem mul_sz (x y A B Z m n T : Nat) (hx : x ≤ 2 ^ m * A) (hy : y ≤ 2 ^ n * B) (h : A * B ≤ Z * T) : x * y ≤ 2 ^ (m + n) * Z * T := by
  refine Nat.le_trans (Nat.mul_le_mul hx hy) ?_
  rw [Nat.pow_add, Nat.mul_assoc (2 ^ m * 2 ^ n) Z T]
  have e : 2 ^ m * A * (2 ^ n * B) = 2 ^ m * 2 ^ n * (A * B) := by
    rw [Nat.mul_assoc, Nat.mul_assoc, Nat.mul_left_comm A]
  rw [e]
  exact Nat.mul_le_mul_left _ h
theorem fo_mul_rz {a b m n A B Z N D : Nat} (hN : N = 2097) (hD : D = 1074) (hZ : 2 ^ 100 * Z < 2 ^ N) (h1 : 1 ≤ Z) (hAB : A * B ≤ Z * 2 ^ D) (ha : rz a m A) (hb : rz b n B) (hn : m + n ≤ 95) : ∃ r, fo .mul a b = some r ∧ rz r (m + n + 1) Z := by
  have hE : (V a * V b).natAbs ≤ 2 ^ (m + n) * Z * 2 ^ D := by
    rw [Int.natAbs_mul]
    exact mul_sz _ _ A B Z m n _ ha.2 hb.2 hAB
  have hlt : 2 ^ (m + n) * Z * 2 ^ D < 2 ^ (N + D) := by
    rw [Nat.pow_add 2 N D]
    exact Nat.mul_lt_mul_of_pos_right (Nat.lt_of_le_of_lt (Nat.mul_le_mul_right _ (pow_le2 (m + n) 100 (by omega))) hZ) (pow2_pos D)
  obtain ⟨r, e, r1, r2, r3, -⟩ := mul_spec a b D N hN hD ha.1 hb.1 (Nat.lt_of_le_of_lt hE hlt)
  refine ⟨r, fo_of_mul e r1, r1, ?_⟩
  have hl := lin_mul _ _ _ (2 ^ (m + n) * Z) r3 hE (Nat.mul_pos (pow2_pos _) h1) (pow2_pos D)
  refine Nat.le_trans hl (Nat.le_of_eq ?_)
  rw [Nat.pow_succ, Nat.mul_assoc, Nat.mul_assoc, Nat.mul_comm Z 2]
theorem bd_to {x n m : Nat} (h : bd x n) (e : n = m) : amt x ≤ 2 ^ m := e ▸ h.2
theorem splitter_rz (D : Nat) (hD : D = 1074) : rz 4728779608772575232 28 (2 ^ D) := by
  refine ⟨by decide, ?_⟩
  rw [← Nat.pow_add]
  exact bd_to splitter_bd (by omega)
theorem fast_rz {a b n Z N : Nat} (hN : N = 2097) (hZ : 2 ^ 100 * Z < 2 ^ N) (ha : rz a n Z) (hb : rz b n Z) (hn : n ≤ 90) : ∃ s t, fastO a b = some (s, t) ∧ rz s (n + 2) Z ∧ rz t (n + 6) Z := by
  obtain ⟨s, e1, b1⟩ := fo_add_rz hN hZ ha hb (by omega)
  obtain ⟨x, e2, b2⟩ := fo_sub_rz hN hZ b1 (ha.mono (by omega)) (by omega)
  obtain ⟨t, e3, b3⟩ := fo_sub_rz hN hZ (hb.mono (by omega)) b2 (by omega)
  exact ⟨s, t, by simp only [fastO, e1, e2, e3, Option.bind_some], b1, b3⟩
theorem split_rz {a A N D : Nat} (hN : N = 2097) (hD : D = 1074) (hA : 2 ^ 100 * A < 2 ^ N) (h1 : 1 ≤ A) (ha : rz a 0 A) : ∃ h l, splitO a = some (h, l) ∧ rz h 33 A ∧ rz l 35 A := by
  obtain ⟨c, e1, b1⟩ := fo_mul_rz (Z := A) hN hD hA h1 (Nat.le_of_eq (Nat.mul_comm _ _)) (splitter_rz D hD) ha (by decide)
  obtain ⟨x, e2, b2⟩ := fo_sub_rz hN hA b1 (ha.mono (by decide)) (by decide)
  obtain ⟨h, e3, b3⟩ := fo_sub_rz hN hA (b1.mono (by decide)) b2 (by decide)
  obtain ⟨l, e4, b4⟩ := fo_sub_rz hN hA (ha.mono (by decide)) b3 (by decide)
  exact ⟨h, l, by simp only [splitO, e1, e2, e3, e4, Option.bind_some], b3, b4⟩
theorem twoProd_rz {a b A B Z N D : Nat} (hN : N = 2097) (hD : D = 1074) (hA : 2 ^ 100 * A < 2 ^ N) (hB : 2 ^ 100 * B < 2 ^ N) (hZ : 2 ^ 100 * Z < 2 ^ N) (a1 : 1 ≤ A) (b1 : 1 ≤ B) (z1 : 1 ≤ Z) (hAB : A * B ≤ Z * 2 ^ D) (ha : rz a 0 A) (hb : rz b 0 B) : ∃ p e, twoProdO a b = some (p, e) ∧ rz p 1 Z ∧ rz e 79 Z := by
  obtain ⟨p, e1, c0⟩ := fo_mul_rz hN hD hZ z1 hAB ha hb (by decide)
  obtain ⟨h, l, e2, b2, b3⟩ := split_rz hN hD hA a1 ha
  obtain ⟨m, n', e3, b4, b5⟩ := split_rz hN hD hB b1 hb
  replace b2 := b2.mono (n := 35) (by decide)
  replace b4 := b4.mono (n := 35) (by decide)
  obtain ⟨hm, e4, c1⟩ := fo_mul_rz hN hD hZ z1 hAB b2 b4 (by decide)
  obtain ⟨x, e5, c2⟩ := fo_sub_rz hN hZ (c0.mono (by decide)) c1 (by decide)
  obtain ⟨lm, e6, c3⟩ := fo_mul_rz hN hD hZ z1 hAB b3 b4 (by decide)
  obtain ⟨y, e7, c4⟩ := fo_sub_rz hN hZ c2 (c3.mono (by decide)) (by decide)
  obtain ⟨hn', e8, c5⟩ := fo_mul_rz hN hD hZ z1 hAB b2 b5 (by decide)
  obtain ⟨z, e9, c6⟩ := fo_sub_rz hN hZ c4 (c5.mono (by decide)) (by decide)
  obtain ⟨ln, e10, c7⟩ := fo_mul_rz hN hD hZ z1 hAB b3 b5 (by decide)
  obtain ⟨e, e11, c8⟩ := fo_sub_rz hN hZ (c7.mono (by decide)) c6 (by decide)
  exact ⟨p, e, by simp only [twoProdO, e1, e2, e3, e4, e5, e6, e7, e8, e9, e10, e11, Option.bind_some], c0, c8⟩

theorem quot_top (r Y E k m : Nat) (h : r * Y ≤ E + Y) (hY : 2 ^ k ≤ Y) (hE : E ≤ 2 ^ (m + k)) : r ≤ 2 ^ m + 1 := by
  refine Nat.le_of_not_lt fun hlt => ?_
  have h1 : (2 ^ m + 2) * Y ≤ r * Y := Nat.mul_le_mul_right _ hlt
  rw [Nat.add_mul] at h1
  have h2 : 2 ^ (m + k) ≤ 2 ^ m * Y := by rw [Nat.pow_add]; exact Nat.mul_le_mul_left _ hY
  have h3 : 0 < Y := Nat.lt_of_lt_of_le (pow2_pos k) hY
  generalize 2 ^ m * Y = u at *
  generalize r * Y = v at *
  generalize 2 ^ (m + k) = z at *
  omega
theorem three_pow (x a b : Nat) (hx : x ≤ 2 ^ a) : 3 * (x * 2 ^ b) ≤ 2 ^ (a + b + 2) := by
  have h := Nat.mul_le_mul_right (2 ^ b) hx
  rw [Nat.pow_add 2 (a + b) 2, Nat.pow_add 2 a b]
  generalize x * 2 ^ b = u at *
  generalize 2 ^ a * 2 ^ b = v at *
  omega
theorem pow_pos_le (a : Nat) : 1 ≤ 2 ^ a := pow2_pos a
theorem pow_and_one (a b : Nat) (h : a < b) : 2 ^ a + 1 ≤ 2 ^ b := Nat.succ_le_of_lt (pow_lt2 a b h)

/-- dividing by a float of at least 2^774 units -/
theorem quo_fo (x y a : Nat) (ha : a ≤ 1774) (fx : finB x = true) (hx : amt x ≤ 2 ^ a) (fy : finB y = true) (hy : 2 ^ 774 ≤ amt y) : ∃ q, fo .quo x y = some q ∧ bd q (a + 303) ∧ amt q * amt y ≤ 3 * (amt x * 2 ^ 1074) + amt y := by
  obtain ⟨N, hN⟩ : ∃ N, N = 2097 := ⟨_, rfl⟩
  obtain ⟨T, hT⟩ : ∃ T, T = 1074 := ⟨_, rfl⟩
  obtain ⟨K, hK⟩ : ∃ K, K = 774 := ⟨_, rfl⟩
  rw [← hK] at hy
  rw [← hT]
  have hov : 3 * (amt x * 2 ^ T) < 2 ^ N * amt y := by
    refine Nat.lt_of_le_of_lt (three_pow _ a T hx) (Nat.lt_of_lt_of_le (pow_lt2 _ (N + K) (by omega)) ?_)
    rw [Nat.pow_add]
    exact Nat.mul_le_mul_left _ hy
  obtain ⟨q, e, f1, -, f2⟩ := div_spec x y N T hN hT fx fy (Nat.lt_of_lt_of_le (pow2_pos K) hy) hov
  refine ⟨q, fo_of_quo e f1, ⟨f1, ?_⟩, f2⟩
  have h1 := quot_top (amt q) (amt y) _ K (a + 302) f2 hy (Nat.le_trans (three_pow _ a T hx) (pow_le2 _ _ (by omega)))
  exact Nat.le_trans h1 (pow_and_one _ _ (by omega))

theorem prod_le (A q X Y T Z c : Nat) (hq : q * Y ≤ 3 * (X * T) + Y) (hX : X ≤ c) (hY : Y ≤ c) (hA : A = Y) (hT : 1 ≤ T) (hZ : Z = 8 * c) : A * (q + 1) ≤ Z * T := by
  rw [hA, Nat.mul_add, Nat.mul_comm Y q, Nat.mul_one, hZ, Nat.mul_assoc]
  have h1 : X * T ≤ c * T := Nat.mul_le_mul_right _ hX
  have h2 : c * 1 ≤ c * T := Nat.mul_le_mul_left _ hT
  rw [Nat.mul_one] at h2
  generalize q * Y = u at *
  generalize X * T = v at *
  generalize c * T = z at *
  omega

theorem quo_bd {xh xl yh yl : Nat} (px : PB xh xl) (py : PB yh yl) (hz : isZ yh = false) : ∃ s t, quoP xh xl yh yl = some (s, t) ∧ finB s = true ∧ finB t = true := by
  obtain ⟨x1, x2, x3, x4, -⟩ := px
  obtain ⟨y1, y2, y3, y4, y5⟩ := py
  replace y5 := y5 hz
  obtain ⟨q, e1, q1, q2⟩ := quo_fo xh yh 1374 (by decide) x1 x3 y1 y5
  obtain ⟨N, hN⟩ : ∃ N, N = 2097 := ⟨_, rfl⟩
  obtain ⟨D, hD⟩ : ∃ D, D = 1074 := ⟨_, rfl⟩
  obtain ⟨C, hC⟩ : ∃ C, C = 1374 := ⟨_, rfl⟩
  obtain ⟨W, hW⟩ : ∃ W, W = 1677 := ⟨_, rfl⟩
  rw [← hC] at x3 y3
  rw [← hD] at q2
  have q3 : amt q ≤ 2 ^ W := bd_to q1 (by omega)
  have hZe : 2 ^ (C + 3) = 8 * 2 ^ C := by rw [Nat.pow_add, Nat.mul_comm]
  have hAB := prod_le (amt yh) (amt q) (amt xh) (amt yh) (2 ^ D) (2 ^ (C + 3)) (2 ^ C) q2 x3 y3 rfl (pow_pos_le D) hZe
  have hZ : 2 ^ 100 * 2 ^ (C + 3) < 2 ^ N := by rw [← Nat.pow_add]; exact pow_lt2 _ _ (by omega)
  have hA : 2 ^ 100 * amt yh < 2 ^ N := Nat.lt_of_le_of_lt (Nat.mul_le_mul_left _ (Nat.le_trans y3 (pow_le2 C (C + 3) (by omega)))) hZ
  have hB : 2 ^ 100 * (amt q + 1) < 2 ^ N := by
    refine Nat.lt_of_le_of_lt (Nat.mul_le_mul_left _ (show amt q + 1 ≤ 2 ^ (W + 1) from ?_)) ?_
    · exact Nat.le_trans (Nat.succ_le_succ q3) (pow_and_one _ _ (by omega))
    · rw [← Nat.pow_add]; exact pow_lt2 _ _ (by omega)
  have a1 : 1 ≤ amt yh := Nat.le_trans (pow_pos_le 774) y5
  have z1 := pow_pos_le (C + 3)
  have ry : rz yh 0 (amt yh) := ⟨y1, by rw [Nat.pow_zero, Nat.one_mul]; exact Nat.le_refl _⟩
  have rl : rz yl 0 (amt yh) := ⟨y2, by rw [Nat.pow_zero, Nat.one_mul]; exact y4⟩
  have rq : rz q 0 (amt q + 1) := ⟨q1.1, by rw [Nat.pow_zero, Nat.one_mul]; exact Nat.le_succ _⟩
  have rx : rz xh 0 (2 ^ (C + 3)) := ⟨x1, by rw [Nat.pow_zero, Nat.one_mul]; exact Nat.le_trans x3 (pow_le2 C (C + 3) (by omega))⟩
  have rm : rz xl 0 (2 ^ (C + 3)) := ⟨x2, by rw [Nat.pow_zero, Nat.one_mul]; exact Nat.le_trans x4 (Nat.le_trans x3 (pow_le2 C (C + 3) (by omega)))⟩
  obtain ⟨c, e, e2, b1, b2⟩ := twoProd_rz hN hD hA hB hZ a1 (Nat.succ_le_succ (Nat.zero_le _)) z1 hAB ry rq
  obtain ⟨f, e3, b3⟩ := fo_mul_rz hN hD hZ z1 hAB rl rq (by decide)
  obtain ⟨a, b, e4, b4, b5⟩ := fast_rz hN hZ b1 b3 (by decide)
  obtain ⟨d, e5, b6⟩ := fo_add_rz hN hZ (b5.mono (n := 79) (by decide)) b2 (by decide)
  obtain ⟨rh, rlo, e6, b7, b8⟩ := fast_rz hN hZ (b4.mono (n := 81) (by decide)) b6 (by decide)
  obtain ⟨g, e7, b9⟩ := fo_sub_rz hN hZ (rx.mono (n := 83) (by decide)) b7 (by decide)
  obtain ⟨h, e8, b10⟩ := fo_sub_rz hN hZ (rm.mono (n := 87) (by decide)) b8 (by decide)
  obtain ⟨k, e9, b11⟩ := fo_add_rz hN hZ (b9.mono (n := 89) (by decide)) b10 (by decide)
  have hk : amt k ≤ 2 ^ (91 + (C + 3)) := by rw [Nat.pow_add]; exact b11.2
  obtain ⟨l, e10, l1, -⟩ := quo_fo k yh (91 + (C + 3)) (by omega) b11.1 hk y1 y5
  obtain ⟨s, t, e11, b12, b13⟩ := fast_bd (q1.mono (n := 1800) (by omega)) (l1.mono (n := 1800) (by omega)) (by decide)
  refine ⟨s, t, ?_, b12.1, b13.1⟩
  have hby : byP yh yl q = some (rh, rlo) := by simp only [byP, e2, e3, e4, e5, e6, Option.bind_some]
  simp only [quoP, e1, hby, e7, e8, e9, e10, e11, Option.bind_some]
end Go.Proofs.Ytckpfohfbfmmnaa
