/- TwoProd by a float of at most 1, the product of a pair by it, polynomials: they stay finite. -/
import Derived.Test.YtckpfohfbfmmnaaDL2
namespace Go.Proofs.Ytckpfohfbfmmnaa
open EP

theorem err_step (x p q : Int) (S : Nat) (h : 9007199254740992 * (x - (p - q)).natAbs ≤ (p - q).natAbs) (hs : (p - q).natAbs ≤ S) : ∃ r : Int, x = p - q + r ∧ -(S : Int) ≤ 9007199254740992 * r ∧ 9007199254740992 * r ≤ S := by
  have := nb (Nat.le_trans h hs)
  exact ⟨x - (p - q), by omega, this.1, this.2⟩
theorem szd2 (p q : Int) (A B S : Nat) (hp : p.natAbs ≤ A) (hq : q.natAbs ≤ B) (h : A + B ≤ S) : (p - q).natAbs ≤ S := by omega
theorem err_end (s r1 r2 r3 r4 e : Int) (β : Nat) (he : e = s - r1 - r2 - r3 + r4) (s1 : -((30 * β + 22517998136852480 : Nat) : Int) ≤ 9007199254740992 * s) (s2 : 9007199254740992 * s ≤ ((30 * β + 22517998136852480 : Nat) : Int)) (a1 : -((9 * β + 2 : Nat) : Int) ≤ 9007199254740992 * r1) (a2 : 9007199254740992 * r1 ≤ ((9 * β + 2 : Nat) : Int)) (b1 : -((17 * β + 4 : Nat) : Int) ≤ 9007199254740992 * r2) (b2 : 9007199254740992 * r2 ≤ ((17 * β + 4 : Nat) : Int)) (c1 : -((25 * β + 6 : Nat) : Int) ≤ 9007199254740992 * r3) (c2 : 9007199254740992 * r3 ≤ ((25 * β + 6 : Nat) : Int)) (d1 : -((36 * β + 10 : Nat) : Int) ≤ 9007199254740992 * r4) (d2 : 9007199254740992 * r4 ≤ ((36 * β + 10 : Nat) : Int)) : 9007199254740992 * e.natAbs ≤ 200 * β + 22517998136853480 := by omega
theorem err_lin (p q1 q2 q3 q4 x y z e : Int) (β : Nat) (hp : p.natAbs ≤ 2 * β + 1) (h1 : q1.natAbs ≤ 7 * β + 1) (h2 : q2.natAbs ≤ 7 * β + 1) (h3 : q3.natAbs ≤ 7 * β + 1) (h4 : q4.natAbs ≤ 7 * β + 1)
    (s : 9007199254740992 * (q1 + q2 + q3 + q4 - p).natAbs ≤ 30 * β + 22517998136852480)
    (hx : 9007199254740992 * (x - (p - q1)).natAbs ≤ (p - q1).natAbs) (zx : x.natAbs ≤ 10 * β + 3) (hy : 9007199254740992 * (y - (x - q2)).natAbs ≤ (x - q2).natAbs) (zy : y.natAbs ≤ 18 * β + 5) (hz : 9007199254740992 * (z - (y - q3)).natAbs ≤ (y - q3).natAbs) (zz : z.natAbs ≤ 28 * β + 8) (he : 9007199254740992 * (e - (q4 - z)).natAbs ≤ (q4 - z).natAbs) :
    9007199254740992 * e.natAbs ≤ 200 * β + 22517998136853480 := by
  obtain ⟨r1, e1, a1, a2⟩ := err_step x p q1 (9 * β + 2) hx (szd2 _ _ _ _ _ hp h1 (by omega))
  obtain ⟨r2, e2, b1, b2⟩ := err_step y x q2 (17 * β + 4) hy (szd2 _ _ _ _ _ zx h2 (by omega))
  obtain ⟨r3, e3, c1, c2⟩ := err_step z y q3 (25 * β + 6) hz (szd2 _ _ _ _ _ zy h3 (by omega))
  obtain ⟨r4, e4, d1, d2⟩ := err_step e q4 z (36 * β + 10) he (szd2 _ _ _ _ _ h4 zz (by omega))
  have hs := nb s
  exact err_end (q1 + q2 + q3 + q4 - p) r1 r2 r3 r4 e β (by omega) hs.1 hs.2 a1 a2 b1 b2 c1 c2 d1 d2
theorem size_x (p q : Int) (β Z : Nat) (hp : p.natAbs ≤ 2 * β + 1) (h1 : q.natAbs ≤ 7 * β + 1) (hZ : 64 * β + 64 < Z) : (p - q).natAbs < Z := by omega
theorem size_y (p q1 q x : Int) (β Z : Nat) (hp : p.natAbs ≤ 2 * β + 1) (h1 : q1.natAbs ≤ 7 * β + 1) (h2 : q.natAbs ≤ 7 * β + 1) (hx : 9007199254740992 * (x - (p - q1)).natAbs ≤ (p - q1).natAbs) (hZ : 64 * β + 64 < Z) : (x - q).natAbs < Z ∧ x.natAbs ≤ 10 * β + 3 := by omega
theorem size_z (x q2 q y : Int) (β Z : Nat) (hx : x.natAbs ≤ 10 * β + 3) (h1 : q2.natAbs ≤ 7 * β + 1) (h2 : q.natAbs ≤ 7 * β + 1) (hy : 9007199254740992 * (y - (x - q2)).natAbs ≤ (x - q2).natAbs) (hZ : 64 * β + 64 < Z) : (y - q).natAbs < Z ∧ y.natAbs ≤ 18 * β + 5 := by omega
theorem size_e (y q3 q z : Int) (β Z : Nat) (hy : y.natAbs ≤ 18 * β + 5) (h1 : q3.natAbs ≤ 7 * β + 1) (h2 : q.natAbs ≤ 7 * β + 1) (hz : 9007199254740992 * (z - (y - q3)).natAbs ≤ (y - q3).natAbs) (hZ : 64 * β + 64 < Z) : (q - z).natAbs < Z ∧ z.natAbs ≤ 28 * β + 8 := by omega

theorem leE_of (p e α : Nat) (hp : 9007199254740992 * p ≤ 9007199254740992 * α + α + 4503599627370496) (he : 9007199254740992 * e ≤ 200 * (α + 4) + 22517998136853480) : leE (p + e) (α + 8) 40 := by unfold leE; omega

set_option maxHeartbeats 1000000 in
/-- A product by a float of at most 1, with its error. -/
theorem twoProd_le (a b n : Nat) (hn : n ≤ 2030) (fa : finB a = true) (fb : finB b = true) (ha : amt a ≤ 2 ^ n) (hb : amt b ≤ 2 ^ 1074) : ∃ p e, twoProdO a b = some (p, e) ∧ finB p = true ∧ finB e = true ∧ leE (amt p + amt e) (amt a + 8) 40 := by
  obtain ⟨h, l, e2, f2, f3, s1, s2, s3, s4⟩ := split_fo a n (by omega) fa ha
  obtain ⟨m, k, e3, f4, f5, t1, t2, t3, t4⟩ := split_fo b 1074 (by decide) fb hb
  obtain ⟨N, hN⟩ : ∃ N, N = 2097 := ⟨_, rfl⟩
  obtain ⟨D, hD⟩ : ∃ D, D = 1074 := ⟨_, rfl⟩
  rw [← hD] at hb
  have hroom := pow_room n N (by omega)
  have hp := pow2_pos n
  have hd4 : 16 ≤ 2 ^ D := pow_le2 4 D (by omega)
  have hl : ∀ j : Nat, j ≤ 8 → j * ((amt a + 4) * 2 ^ D) < 2 ^ (N + D) := fun j hj => by
    rw [Nat.pow_add 2 N D, ← Nat.mul_assoc]
    refine Nat.mul_lt_mul_of_pos_right (Nat.lt_of_le_of_lt (Nat.mul_le_mul_right _ hj) ?_) (pow2_pos D)
    omega
  have hZ : 64 * (amt a + 4) + 64 < 2 ^ N := by omega
  clear hroom hp
  generalize hdd : 2 ^ D = d at *
  obtain ⟨K, hK⟩ : ∃ K, K = (amt a + 4) * d := ⟨_, rfl⟩
  have hd0 : 0 < d := by omega
  unfold amt at hb
  have bAB : (V a * V b).natAbs ≤ 1 * K := mul_bound _ _ (amt a + 4) d _ (by unfold amt; omega) hb (by rw [hK, Nat.one_mul]; exact Nat.le_refl _)
  have h6 : (2 * (amt a + 4)) * (3 * d) ≤ 6 * K := by rw [hK, Nat.mul_mul_mul_comm]; exact Nat.le_refl _
  have cM : (V m).natAbs ≤ 3 * d := by generalize V m = M at *; generalize V b = B at *; omega
  have cN : (V k).natAbs ≤ 3 * d := by generalize V k = M at *; generalize V b = B at *; omega
  have cH : (V h).natAbs ≤ 2 * (amt a + 4) := by unfold amt; generalize V h = M at *; generalize V a = B at *; omega
  have cL : (V l).natAbs ≤ 2 * (amt a + 4) := by unfold amt; generalize V l = M at *; generalize V a = B at *; omega
  have bHM := mul_bound (V h) (V m) _ _ _ cH cM h6
  have bLM := mul_bound (V l) (V m) _ _ _ cL cM h6
  have bHN := mul_bound (V h) (V k) _ _ _ cH cN h6
  have bLN := mul_bound (V l) (V k) _ _ _ cL cN h6
  have l1 := hl 1 (by decide)
  have l6 := hl 6 (by decide)
  rw [← hK] at l1 l6
  have near : ∀ x y : Nat, finB x = true → finB y = true → (V x * V y).natAbs < 2 ^ (N + D) → ∃ r, fo .mul x y = some r ∧ finB r = true ∧ 9007199254740992 * (V r * (d : Int) - V x * V y).natAbs ≤ (V x * V y).natAbs + 4503599627370496 * d := fun x y fx fy hE => by
    have := mul_near x y D N hN hD fx fy hE
    rw [hdd] at this; exact this
  obtain ⟨p, g1, fp, r1⟩ := near a b fa fb (Nat.lt_of_le_of_lt bAB l1)
  obtain ⟨q1, g2, fq1, r2⟩ := near h m f2 f4 (Nat.lt_of_le_of_lt bHM l6)
  obtain ⟨q2, g3, fq2, r3⟩ := near l m f3 f4 (Nat.lt_of_le_of_lt bLM l6)
  obtain ⟨q3, g4, fq3, r4⟩ := near h k f2 f5 (Nat.lt_of_le_of_lt bHN l6)
  obtain ⟨q4, g5, fq4, r5⟩ := near l k f3 f5 (Nat.lt_of_le_of_lt bLN l6)
  have zp := sizes_lin (V p) (amt a) d K _ hd0 hK 1 bAB r1 (by decide)
  have z1 := sizes_lin (V q1) (amt a) d K _ hd0 hK 6 bHM r2 (by decide)
  have z2 := sizes_lin (V q2) (amt a) d K _ hd0 hK 6 bLM r3 (by decide)
  have z3 := sizes_lin (V q3) (amt a) d K _ hd0 hK 6 bHN r4 (by decide)
  have z4 := sizes_lin (V q4) (amt a) d K _ hd0 hK 6 bLN r5 (by decide)
  have hcb := cross_bound (V a) (V b) (V h + V l - V a) (V m + V k - V b) (amt a) d K (Nat.le_refl _) hb s3 (by omega) hK
  rw [← cross] at hcb
  have c5 := nb hcb
  have c1 := nb (Nat.le_trans r1 (Nat.add_le_add_right bAB _))
  have c2 := nb (Nat.le_trans r2 (Nat.add_le_add_right bHM _))
  have c3 := nb (Nat.le_trans r3 (Nat.add_le_add_right bLM _))
  have c4 := nb (Nat.le_trans r4 (Nat.add_le_add_right bHN _))
  have c6 := nb (Nat.le_trans r5 (Nat.add_le_add_right bLN _))
  have amp : 9007199254740992 * amt p ≤ 9007199254740992 * amt a + amt a + 4503599627370496 := by
    have b1 : (V a * V b).natAbs ≤ amt a * d := mul_bound _ _ (amt a) d _ (Nat.le_refl _) hb (Nat.le_refl _)
    have b2 : 9007199254740992 * (V p * (d : Int)).natAbs ≤ 9007199254740992 * (amt a * d) + amt a * d + 4503599627370496 * d := by
      generalize V p * (d : Int) = u at *
      generalize amt a * d = v at *
      generalize V a * V b = z at *
      omega
    rw [Int.natAbs_mul, Int.natAbs_natCast, ← Nat.mul_assoc, ← Nat.mul_assoc, ← Nat.add_mul, ← Nat.add_mul] at b2
    exact Nat.le_of_mul_le_mul_right b2 hd0
  have hsum := prod_lin (V p * d) (V q1 * d) (V q2 * d) (V q3 * d) (V q4 * d) (V a * V b) (V h * V m) (V l * V m) (V h * V k) (V l * V k) (K : Int) (d : Int) (by omega) (by omega)
    (by simpa using c1.1) (by simpa using c1.2) (by simpa using c2.1) (by simpa using c2.2) (by simpa using c3.1) (by simpa using c3.2) (by simpa using c4.1) (by simpa using c4.2) (by simpa using c6.1) (by simpa using c6.2) (by simpa using c5.1) (by simpa using c5.2)
  have hs2 : 9007199254740992 * (V q1 + V q2 + V q3 + V q4 - V p).natAbs ≤ 30 * (amt a + 4) + 22517998136852480 := by
    have e0 : V q1 * (d : Int) + V q2 * d + V q3 * d + V q4 * d - V p * d = (V q1 + V q2 + V q3 + V q4 - V p) * (d : Int) := by
      rw [Int.sub_mul, Int.add_mul, Int.add_mul, Int.add_mul]
    rw [e0, Int.natAbs_mul, Int.natAbs_natCast, Int.natAbs_natCast, hK, ← Nat.mul_assoc, ← Nat.mul_assoc, ← Nat.add_mul] at hsum
    exact Nat.le_of_mul_le_mul_right hsum hd0
  clear hsum c1 c2 c3 c4 c5 c6 hcb r1 r2 r3 r4 r5 bAB bHM bLM bHN bLN near l1 l6 h6 hl s1 s2 s3 s4 t1 t2 t3 t4 cM cN cH cL
  generalize hβ : amt a + 4 = β at *
  obtain ⟨x, e5, fx, -, ux⟩ := sub_spec p q1 N hN fp fq1 (size_x _ _ β _ (by omega) (by omega) hZ)
  have wy := size_y (V p) (V q1) (V q2) (V x) β (2 ^ N) (by omega) (by omega) (by omega) ux hZ
  obtain ⟨y, e7, fy, -, uy⟩ := sub_spec x q2 N hN fx fq2 wy.1
  have wz := size_z (V x) (V q2) (V q3) (V y) β (2 ^ N) wy.2 (by omega) (by omega) uy hZ
  obtain ⟨z, e9, fz, -, uz⟩ := sub_spec y q3 N hN fy fq3 wz.1
  have we := size_e (V y) (V q3) (V q4) (V z) β (2 ^ N) wz.2 (by omega) (by omega) uz hZ
  obtain ⟨e, e11, fe, -, ue⟩ := sub_spec q4 z N hN fq4 fz we.1
  have hfin := err_lin (V p) (V q1) (V q2) (V q3) (V q4) (V x) (V y) (V z) (V e) β (by omega) (by omega) (by omega) (by omega) (by omega) hs2 ux wy.2 uy wz.2 uz we.2 ue
  refine ⟨p, e, by simp only [twoProdO, g1, e2, e3, g2, fo_of_sub e5 fx, g3, fo_of_sub e7 fy, g4, fo_of_sub e9 fz, g5, fo_of_sub e11 fe, Option.bind_some], fp, fe, ?_⟩
  exact leE_of (amt p) (amt e) (amt a) amp (by rw [hβ]; exact hfin)

theorem mul_le1 (a b n : Nat) (hn : n ≤ 2030) (fa : finB a = true) (fb : finB b = true) (ha : amt a ≤ 2 ^ n) (hb : amt b ≤ 2 ^ 1074) : ∃ r, fo .mul a b = some r ∧ finB r = true ∧ leE (amt r) (amt a + 8) 40 := by
  obtain ⟨N, hN⟩ : ∃ N, N = 2097 := ⟨_, rfl⟩
  obtain ⟨D, hD⟩ : ∃ D, D = 1074 := ⟨_, rfl⟩
  rw [← hD] at hb
  have hE : (V a * V b).natAbs ≤ amt a * 2 ^ D := mul_bound _ _ (amt a) (2 ^ D) _ (Nat.le_refl _) hb (Nat.le_refl _)
  have hlt : amt a * 2 ^ D < 2 ^ (N + D) := by
    rw [Nat.pow_add 2 N D]
    exact Nat.mul_lt_mul_of_pos_right (Nat.lt_of_le_of_lt ha (pow_lt2 n N (by omega))) (pow2_pos D)
  obtain ⟨r, e, f, h, -⟩ := (by
    obtain ⟨r, e, r1, r2, r3, r4⟩ := mul_spec a b D N hN hD fa fb (Nat.lt_of_le_of_lt hE hlt)
    exact ⟨r, e, r1, r3, r4⟩ : ∃ r, Ieee.double.mul a b = some r ∧ finB r = true ∧ 9007199254740992 * ((V r).natAbs * 2 ^ D) ≤ 9007199254740992 * (V a * V b).natAbs + (V a * V b).natAbs + 4503599627370496 * 2 ^ D ∧ _)
  refine ⟨r, fo_of_mul e f, f, ?_⟩
  have h2 : 9007199254740992 * ((V r).natAbs * 2 ^ D) ≤ 9007199254740992 * (amt a * 2 ^ D) + amt a * 2 ^ D + 4503599627370496 * 2 ^ D := by
    generalize (V r).natAbs * 2 ^ D = u at *
    generalize amt a * 2 ^ D = v at *
    generalize (V a * V b).natAbs = z at *
    omega
  rw [← Nat.mul_assoc, ← Nat.mul_assoc, ← Nat.add_mul, ← Nat.add_mul] at h2
  have h3 := Nat.le_of_mul_le_mul_right h2 (pow2_pos D)
  have h4 : 9007199254740992 * amt r ≤ 9007199254740992 * amt a + amt a + 4503599627370496 := h3
  have := leE_of (amt r) 0 (amt a) h4 (by omega)
  rwa [Nat.add_zero] at this

/-- The product of a pair by a float of at most 1. -/
theorem by_le {xh xl k n : Nat} (hn : n ≤ 2020) (h1 : finB xh = true) (h2 : finB xl = true) (hk : finB k = true) (hk1 : amt k ≤ 2 ^ 1074) (hM : amt xh + amt xl + 16 ≤ 2 ^ n) :
    ∃ s t, byP xh xl k = some (s, t) ∧ finB s = true ∧ finB t = true ∧ leE (amt s + amt t) (amt xh + amt xl + 16) 50 := by
  obtain ⟨c, e, e1, f1, f2, l1⟩ := twoProd_le xh k n (by omega) h1 hk (by omega) hk1
  obtain ⟨f, e2, f3, l2⟩ := mul_le1 xl k n (by omega) h2 hk (by omega) hk1
  have L1 : leE (amt c + amt f + amt e) (amt xh + amt xl + 16) 40 := by
    have := l1.add l2
    rw [show amt c + amt f + amt e = amt c + amt e + amt f by omega]
    exact this.more (by omega)
  have B1 := L1.pow (by decide) hM
  obtain ⟨a, b, e3, f4, f5, l3⟩ := fast_le (n := n + 1) (by omega) f1 f3 (by omega)
  have L3 : leE (amt a + amt b + amt e) (amt c + amt f + amt e) 1 := l3.add (leE.refl (amt e) 1)
  have C3 := L3.comp L1 (by decide)
  have B3 := C3.pow (by decide) hM
  obtain ⟨d, e4, f6, l4⟩ := fo_add_le (n := n + 1) (by omega) f5 f2 (by omega)
  have L4 : leE (amt a + amt d) (amt a + amt b + amt e) 1 := ((leE.refl (amt a) 1).add l4).more (by omega)
  have C4 := L4.comp C3 (by decide)
  have B4 := C4.pow (by decide) hM
  obtain ⟨x, y, e5, f7, f8, l5⟩ := fast_le (n := n + 1) (by omega) f4 f6 B4
  exact ⟨x, y, by simp only [byP, e1, e2, e3, e4, e5, Option.bind_some], f7, f8, (l5.comp C4 (by decide)).mono (by decide)⟩

def foldY (k : Nat) : List Nat → Nat → Nat → Option (Nat × Nat)
  | [], s, t => some (s, t)
  | x :: l, s, t => (byP s t k).bind fun r => (sumP r.1 r.2 x 0).bind fun p => foldY k l p.1 p.2
theorem foldY_fin (K X m : Nat) (hm : m ≤ 1990) (hX : X + 16 ≤ 2 ^ m) (hk : finB K = true) (hk1 : amt K ≤ 2 ^ 1074) : ∀ (l : List Nat) (s t k : Nat), (∀ x ∈ l, finB x = true ∧ amt x ≤ X) → finB s = true → finB t = true → k + l.length ≤ 1024 → leE (amt s + amt t) (k * (X + 16)) (65 * k) →
    ∃ p q, foldY K l s t = some (p, q) ∧ finB p = true ∧ finB q = true := by
  intro l
  induction l with
  | nil => intro s t k _ fs ft _ _; exact ⟨s, t, rfl, fs, ft⟩
  | cons x l ih =>
    intro s t k hl fs ft hkl hL
    rw [List.length_cons] at hkl
    obtain ⟨fx, ax⟩ := hl x (List.mem_cons_self ..)
    have hT := hL.pow (by omega) (fold_pow k (X + 16) m (by omega) hX)
    have hxp : X + 16 ≤ 2 ^ (m + 10 + 1) := Nat.le_trans hX (pow_le2 _ _ (by omega))
    have e2 : 2 ^ (m + 12) = 2 * 2 ^ (m + 10 + 1) := by rw [show m + 12 = m + 10 + 1 + 1 from rfl, Nat.pow_succ, Nat.mul_comm]
    have e3 : 2 ^ (m + 14) = 4 * 2 ^ (m + 12) := by rw [show m + 14 = m + 12 + 2 from rfl, Nat.pow_add, Nat.mul_comm]
    have hsum : amt s + amt t + 16 ≤ 2 ^ (m + 12) := by
      rw [e2]
      generalize 2 ^ (m + 10 + 1) = z at *
      omega
    obtain ⟨u, v, e4, fu, fv, hl1⟩ := by_le (n := m + 12) (by omega) fs ft hk hk1 hsum
    have hT2 := hl1.top (by decide)
    have hsum2 : amt u + amt v + amt x + amt 0 ≤ 2 ^ (m + 14) := by
      rw [zero_amt, e3]
      have : X + 16 ≤ 2 ^ (m + 12) := Nat.le_trans hX (pow_le2 _ _ (by omega))
      generalize 2 ^ (m + 12) = z at *
      omega
    obtain ⟨p, q, e, fp, fq, hl2⟩ := sum_le (n := m + 14) (by omega) fu fv fx zero_fin hsum2
    have hL1 : leE (amt u + amt v + amt x + amt 0) (amt s + amt t + (X + 16)) 50 := by
      rw [zero_amt, Nat.add_zero]
      exact (hl1.add (leE.refl (amt x) 50)).more (by omega)
    have hL2 : leE (amt s + amt t + (X + 16)) ((k + 1) * (X + 16)) (65 * k) := by
      rw [Nat.add_mul, Nat.one_mul]
      exact hL.add (leE.refl (X + 16) _)
    have hL3 := ((hl2.comp hL1 (by decide)).comp hL2 (by omega)).mono (j := 65 * (k + 1)) (by omega)
    obtain ⟨p', q', e', r⟩ := ih p q (k + 1) (fun y hy => hl y (List.mem_cons_of_mem _ hy)) fp fq (by omega) hL3
    refine ⟨p', q', ?_, r⟩
    show (byP s t K).bind _ = _
    rw [e4]
    show (sumP u v x 0).bind _ = _
    rw [e]; exact e'
end Go.Proofs.Ytckpfohfbfmmnaa
