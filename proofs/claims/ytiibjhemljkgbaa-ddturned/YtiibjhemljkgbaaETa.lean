/- Sums and products of pairs: either way round the same, turned with a sign; nothing is left of a number less itself. -/
import Derived.Test.YtiibjhemljkgbaaESr
import Derived.Lib.Small
namespace Go.Proofs.Ytiibjhemljkgbaa.Fp
open Go.RowKit EP Ieee

theorem near_one (mag : Nat) (place : Int) : ∃ r, r ≤ 9218868437227405312 ∧ ∀ neg, double.nearest neg mag place = double.word neg r := by
  by_cases hm : mag = 0
  · exact ⟨0, by decide, fun neg => by unfold Format.nearest; rw [if_pos hm]⟩
  · exact ⟨min ((max (place + mag.log2 - double.fractionBits) double.leastPlace - double.leastPlace).toNat * double.binade + Toward.even.cut false (mag <<< (place - max (place + mag.log2 - double.fractionBits) double.leastPlace).toNat) (max (place + mag.log2 - double.fractionBits) double.leastPlace - place).toNat) double.infRung, Nat.min_le_right _ _, fun neg => by unfold Format.nearest; rw [if_neg hm]; rfl⟩
theorem word_turn (r : Nat) (hr : r ≤ 9218868437227405312) (s : Bool) : V (double.word (!s) r) = - V (double.word s r) := by
  obtain ⟨h1, h2, -⟩ := word_read s r (by omega)
  obtain ⟨k1, k2, -⟩ := word_read (!s) r (by omega)
  unfold V
  rw [h1, h2, k1, k2]
  cases s <;> simp
theorem read_mod (x y : Nat) (hx : finB x = true) (h : y % 9223372036854775808 = x % 9223372036854775808) : ∃ m i, double.read x = .number (negB x) m i ∧ double.read y = .number (negB y) m i := by
  have h' : x % 9223372036854775808 < 9218868437227405312 := of_decide_eq_true hx
  have hs : double.signWeight = 9223372036854775808 := by decide
  have hlp : double.leastPlace = -1074 := by decide
  have hbi : double.binade = 4503599627370496 := by decide
  have hir : double.infRung = 9218868437227405312 := by decide
  unfold Format.read
  dsimp only
  rw [hs, hlp, hbi, hir, h]
  generalize x % 9223372036854775808 = r at h'
  by_cases h1 : r < 4503599627370496
  · rw [if_pos h1, if_pos h1]
    exact ⟨_, _, rfl, rfl⟩
  · rw [if_neg h1, if_pos h', if_neg h1, if_pos h']
    exact ⟨_, _, rfl, rfl⟩
theorem neg_mod (x : Nat) : Op.negFloat .f64 x % 9223372036854775808 = x % 9223372036854775808 ∧ negB (Op.negFloat .f64 x) = !negB x := by
  have e : Op.negFloat .f64 x = x ^^^ 2 ^ 63 := rfl
  rw [e]
  constructor
  · rw [show (9223372036854775808 : Nat) = 2 ^ 63 by decide, Nat.xor_mod_two_pow, Nat.mod_self, Nat.xor_zero]
  · have t : ∀ y : Nat, negB y = y.testBit 63 := fun y => by
      rw [Nat.testBit_eq_decide_div_mod_eq]
      unfold negB
      rw [show (2 ^ 63 : Nat) = 9223372036854775808 by decide]
      rfl
    rw [t, t, Nat.testBit_xor, Nat.testBit_two_pow_self]
    simp
theorem mul_comm_fo (a b : Nat) (ha : finB a = true) (hb : finB b = true) : fo .mul a b = fo .mul b a := by
  obtain ⟨m, p, e1, -, -⟩ := read_fin a ha
  obtain ⟨n, q, e3, -, -⟩ := read_fin b hb
  have : double.mul a b = double.mul b a := by
    unfold Format.mul
    rw [e1, e3]
    unfold Datum.product
    dsimp only
    rw [Bool.xor_comm, Nat.mul_comm, Int.add_comm]
  show (double.mul a b).bind _ = (double.mul b a).bind _
  rw [this]
theorem mul_turn (a a' b r r' : Nat) (ha : finB a = true) (hb : finB b = true) (h1 : a' % 9223372036854775808 = a % 9223372036854775808) (h2 : negB a' = !negB a) (e : fo .mul a b = some r) (e' : fo .mul a' b = some r') : V r' = - V r := by
  obtain ⟨m, i, e1, e2⟩ := read_mod a a' ha h1
  obtain ⟨n, q, e3, -, -⟩ := read_fin b hb
  obtain ⟨k, hk, hw⟩ := near_one (m * n) (i + (-1074 + (q : Int)))
  have f1 : double.mul a b = some (double.word (negB a ^^ negB b) k) := by
    unfold Format.mul
    rw [e1, e3]
    exact congrArg some (hw _)
  have f2 : double.mul a' b = some (double.word (!(negB a ^^ negB b)) k) := by
    unfold Format.mul
    rw [e2, e3, h2]
    have : (!negB a ^^ negB b) = !(negB a ^^ negB b) := by cases negB a <;> cases negB b <;> rfl
    rw [← this]
    exact congrArg some (hw _)
  have g1 : (double.mul a b).bind (fun r => if finB r then some r else none) = some r := e
  have g2 : (double.mul a' b).bind (fun r => if finB r then some r else none) = some r' := e'
  rw [f1] at g1
  rw [f2] at g2
  have k1 : r = double.word (negB a ^^ negB b) k := by
    simp only [Option.bind_some] at g1
    split at g1
    · exact (Option.some.inj g1).symm
    · cases g1
  have k2 : r' = double.word (!(negB a ^^ negB b)) k := by
    simp only [Option.bind_some] at g2
    split at g2
    · exact (Option.some.inj g2).symm
    · cases g2
  rw [k1, k2]
  exact word_turn k hk _

/-- FastTwoSum in numbers, whatever comes first. -/
def fS (a b : Int) : Int := G (a + b)
def fT (a b : Int) : Int := G (b - G (G (a + b) - a))
theorem fS_neg (a b : Int) : fS (-a) (-b) = - fS a b := by
  unfold fS
  rw [← Int.neg_add, G_neg]
theorem fT_neg (a b : Int) : fT (-a) (-b) = - fT a b := by
  unfold fT
  rw [← Int.neg_add, G_neg, show -G (a + b) - -a = -(G (a + b) - a) by omega, G_neg, show -b - -G (G (a + b) - a) = -(b - G (G (a + b) - a)) by omega, G_neg]
theorem G_0 : G 0 = 0 := by decide
theorem f_00 : fS 0 0 = 0 ∧ fT 0 0 = 0 := by
  unfold fS fT
  rw [Int.add_zero, G_0, Int.sub_zero, G_0, Int.sub_zero, G_0]
  exact ⟨rfl, rfl⟩
theorem fast_W {a b n : Nat} (ha : bd a n) (hb : bd b n) (hn : n ≤ 2080) : ∃ s t, fastO a b = some (s, t) ∧ bd s (n + 2) ∧ bd t (n + 6) ∧ V s = fS (V a) (V b) ∧ V t = fT (V a) (V b) ∧ s < 18446744073709551616 ∧ t < 18446744073709551616 := by
  obtain ⟨s, e1, l1, b1, g1⟩ := fo_G_add ha hb (by omega)
  obtain ⟨x, e2, -, b2, g2⟩ := fo_G_sub b1 (ha.mono (by omega)) (by omega)
  obtain ⟨t, e3, l3, b3, g3⟩ := fo_G_sub (hb.mono (by omega)) b2 (by omega)
  refine ⟨s, t, by simp only [fastO, e1, e2, e3, Option.bind_some], b1, b3, g1, ?_, l1, l3⟩
  rw [g3, g2, g1]
  rfl
/-- the sum of two pairs, in numbers -/
def sK (a b c d : Int) : Int := G (a + c - G (a + c) + G (b + d))
def sE (a b c d : Int) : Int := G (b + d - G (b + d) + fT (G (a + c)) (sK a b c d))
def sumS (a b c d : Int) : Int := fS (fS (G (a + c)) (sK a b c d)) (sE a b c d)
def sumT (a b c d : Int) : Int := fT (fS (G (a + c)) (sK a b c d)) (sE a b c d)
theorem sum_swap (a b c d : Int) : sumS c d a b = sumS a b c d ∧ sumT c d a b = sumT a b c d := by
  unfold sumS sumT sE sK
  rw [Int.add_comm c a, Int.add_comm d b]
  exact ⟨rfl, rfl⟩
theorem sK_neg (a b c d : Int) : sK (-a) (-b) (-c) (-d) = - sK a b c d := by
  unfold sK
  rw [← Int.neg_add, ← Int.neg_add, G_neg, G_neg, show -(a + c) - -G (a + c) + -G (b + d) = -(a + c - G (a + c) + G (b + d)) by omega, G_neg]
theorem sE_neg (a b c d : Int) : sE (-a) (-b) (-c) (-d) = - sE a b c d := by
  unfold sE
  rw [sK_neg, ← Int.neg_add, ← Int.neg_add, G_neg, G_neg, fT_neg, show -(b + d) - -G (b + d) + -fT (G (a + c)) (sK a b c d) = -(b + d - G (b + d) + fT (G (a + c)) (sK a b c d)) by omega, G_neg]
theorem sum_neg (a b c d : Int) : sumS (-a) (-b) (-c) (-d) = - sumS a b c d ∧ sumT (-a) (-b) (-c) (-d) = - sumT a b c d := by
  unfold sumS sumT
  rw [sE_neg, sK_neg, ← Int.neg_add, G_neg, fS_neg, fS_neg, fT_neg]
  exact ⟨rfl, rfl⟩
theorem sum_less (a b : Int) : sumS a b (-a) (-b) = 0 ∧ sumT a b (-a) (-b) = 0 := by
  have k : sK a b (-a) (-b) = 0 := by
    unfold sK
    rw [show a + -a = 0 by omega, show b + -b = 0 by omega, G_0]; exact G_0
  have e : sE a b (-a) (-b) = 0 := by
    unfold sE
    rw [k, show a + -a = 0 by omega, show b + -b = 0 by omega, G_0, f_00.2]; exact G_0
  unfold sumS sumT
  rw [e, k, show a + -a = 0 by omega, G_0, f_00.1]
  exact f_00
theorem sum_W {xh xl yh yl : Nat} (a : bd xh 1374) (b : bd xl 1374) (c : bd yh 1374) (d : bd yl 1374) : ∃ s t, sumP xh xl yh yl = some (s, t) ∧ finB s = true ∧ finB t = true ∧ V s = sumS (V xh) (V xl) (V yh) (V yl) ∧ V t = sumT (V xh) (V xl) (V yh) (V yl) ∧ s < 18446744073709551616 ∧ t < 18446744073709551616 := by
  obtain ⟨s, t, e1, b1, b2, g1, g2⟩ := twoSum_V a c (by decide)
  obtain ⟨u, v, e2, b3, b4, g3, g4⟩ := twoSum_V b d (by decide)
  obtain ⟨k, e3, -, b5, g5⟩ := fo_G_add b2 (b3.mono (by decide)) (by decide)
  obtain ⟨p, q, e4, b6, b7, g6, g7, -, -⟩ := fast_W (b1.mono (by decide)) b5 (by decide)
  obtain ⟨e, e5, -, b8, g8⟩ := fo_G_add (b4.mono (by decide)) b7 (by decide)
  obtain ⟨x, y, e6, b9, b10, g9, g10, l1, l2⟩ := fast_W (b6.mono (by decide)) b8 (by decide)
  refine ⟨x, y, by simp only [sumP, e1, e2, e3, e4, e5, e6, Option.bind_some], b9.1, b10.1, ?_, ?_, l1, l2⟩
  · rw [g9, g8, g7, g6, g5, g4, g3, g2, g1]; rfl
  · rw [g10, g8, g7, g6, g5, g4, g3, g2, g1]; rfl
/-- the product of two pairs, in numbers: C the first product rounded, E what is left of it, f and g the others -/
theorem prod_W {xh xl yh yl i j : Nat} {A B : Int} (a : bd xh 1374) (b : bd xl 1374) (c : bd yh 1374) (d : bd yl 1374) (hA : Nm xh A i) (hB : Nm yh B j) : ∃ s t f g, prodP xh xl yh yl = some (s, t) ∧ fo .mul xh yl = some f ∧ fo .mul xl yh = some g ∧ finB s = true ∧ finB t = true ∧
    V s = fS (G (A * B) * ((2 ^ (i + j - 1074) : Nat) : Int)) (G ((A * B - G (A * B)) * ((2 ^ (i + j - 1074) : Nat) : Int) + G (V f + V g))) ∧ V t = fT (G (A * B) * ((2 ^ (i + j - 1074) : Nat) : Int)) (G ((A * B - G (A * B)) * ((2 ^ (i + j - 1074) : Nat) : Int) + G (V f + V g))) ∧ s < 18446744073709551616 ∧ t < 18446744073709551616 := by
  have hi := hA.2.2
  have hj := hB.2.2
  obtain ⟨p, e, e1, b1, b2, g1, g2⟩ := twoProd_V (k := 1674) (K := i + j - 1074) a c (by decide) (by decide) hA hB (by omega)
  obtain ⟨f, e2, -, b3⟩ := fo_mul (k := 1674) a d (by decide) (by decide)
  obtain ⟨g, e3, -, b4⟩ := fo_mul (k := 1674) b c (by decide) (by decide)
  obtain ⟨h, e4, -, b5, g3⟩ := fo_G_add b3 b4 (by decide)
  obtain ⟨k, e5, -, b6, g4⟩ := fo_G_add b2 (b5.mono (by decide)) (by decide)
  obtain ⟨x, y, e6, b9, b10, g9, g10, l1, l2⟩ := fast_W (b1.mono (by decide)) b6 (by decide)
  refine ⟨x, y, f, g, by simp only [prodP, e1, e2, e3, e4, e5, e6, Option.bind_some], e2, e3, b9.1, b10.1, ?_, ?_, l1, l2⟩
  · rw [g9, g4, g3, g2, g1]
  · rw [g10, g4, g3, g2, g1]
theorem Nm.neg {x i : Nat} {A : Int} (hx : x < 18446744073709551616) (h : Nm x A i) : Nm (Op.negFloat .f64 x) (-A) i := by
  obtain ⟨h1, h2, h3⟩ := h
  refine ⟨by rw [(neg_V x hx).1, h1, Int.neg_mul], ?_, h3⟩
  rw [Int.natAbs_neg]
  rcases h2 with h2 | h2
  · left; omega
  · right; exact h2
theorem right_Nm (h l : Nat) (hr : rightP h l = true) : ∃ A i, Nm h A i := by
  obtain ⟨f1, f2, -, -, h5⟩ := right_PB h l hr
  obtain ⟨X, hX⟩ : ∃ X : Nat, X = 674 := ⟨_, rfl⟩
  refine norm_of h X hX f1 ?_
  cases hz : isZ h with
  | true => exact .inl (zero_V h hz).2
  | false =>
    right
    have h6 : 2 ^ (X + 100) ≤ amt h := by rw [show X + 100 = 774 by omega]; exact h5 hz
    exact Nat.le_trans (Nat.pow_le_pow_right (by decide) (by omega)) h6
theorem isZ_V (h : Nat) (fh : finB h = true) : isZ h = decide (V h = 0) := by
  unfold isZ
  rw [order_fin h 0 fh (by decide), show V 0 = 0 by decide]
  by_cases e : V h = 0
  · rw [e]; decide
  · rw [decide_eq_false e]
    show (some (compareOfLessAndEq (V h) 0) == some Ordering.eq) = false
    unfold compareOfLessAndEq
    by_cases k : V h < 0
    · rw [if_pos k]; rfl
    · rw [if_neg k, if_neg e]; rfl
theorem absF_neg (h : Nat) : absF (Op.negFloat .f64 h) = absF h := by
  unfold absF
  exact (neg_mod h).1
theorem right_neg (h l : Nat) (hh : h < 18446744073709551616) (hl : l < 18446744073709551616) (hr : rightP h l = true) : rightP (Op.negFloat .f64 h) (Op.negFloat .f64 l) = true := by
  have hr0 := hr
  obtain ⟨a1, a2, a3⟩ := neg_V h hh
  obtain ⟨b1, b2, b3⟩ := neg_V l hl
  have P := right_PB h l hr
  obtain ⟨f1, f2, -⟩ := P
  unfold rightP at hr ⊢
  rw [isZ_V _ (a2.trans f1), isZ_V _ (b2.trans f2), a1, b1, absF_neg]
  rw [isZ_V _ f1, isZ_V _ f2] at hr
  rw [show decide (-V h = 0) = decide (V h = 0) from by rw [decide_eq_decide]; omega, show decide (-V l = 0) = decide (V l = 0) from by rw [decide_eq_decide]; omega]
  by_cases z : V h = 0
  · rw [if_pos (decide_eq_true z)] at hr ⊢
    exact hr
  · rw [if_neg (by simpa using z)] at hr ⊢
    simp only [Bool.and_eq_true] at hr ⊢
    obtain ⟨c1, c2, c3⟩ := hr
    refine ⟨c1, c2, ?_⟩
    unfold sumEq
    have P := right_PB h l hr0
    obtain ⟨r, e, -, -, g⟩ := fo_G_add (bd_neg hh P.hi) (bd_neg hl P.lo) (by decide)
    have e' : (double.add (Op.negFloat .f64 h) (Op.negFloat .f64 l)).bind (fun r => if finB r then some r else none) = some r := e
    cases he : double.add (Op.negFloat .f64 h) (Op.negFloat .f64 l) with
    | none => rw [he] at e'; cases e'
    | some r0 =>
      rw [he, Option.bind_some] at e'
      have k : finB r0 = true ∧ r0 = r := by
        split at e'
        · rename_i k; exact ⟨k, Option.some.inj e'⟩
        · cases e'
      obtain ⟨k1, rfl⟩ := k
      refine eq_of_V k1 (a2.trans f1) ?_
      rw [g, a1, b1, ← Int.neg_add, G_neg, ← right_G h l hr0]
def Eq2 (x y : Nat) : Prop := double.order x y = some .eq
theorem eq2_of {x y : Nat} (hx : finB x = true) (hy : finB y = true) (h : V x = V y) : Eq2 x y := by
  have := eq_of_V hx hy h
  exact beq_iff_eq.1 this
theorem turned_sum (h l h' l' : Nat) (hh : h < 18446744073709551616) (hl : l < 18446744073709551616) (hh' : h' < 18446744073709551616) (hl' : l' < 18446744073709551616) (r1 : rightP h l = true) (r2 : rightP h' l' = true) :
    ∃ s t s' t' u v x y, sumP h l h' l' = some (s, t) ∧ sumP h' l' h l = some (s', t') ∧ sumP (Op.negFloat .f64 h) (Op.negFloat .f64 l) (Op.negFloat .f64 h') (Op.negFloat .f64 l') = some (u, v) ∧ diffP h l h l = some (x, y) ∧ Eq2 s s' ∧ Eq2 t t' ∧ Eq2 u (Op.negFloat .f64 s) ∧ Eq2 v (Op.negFloat .f64 t) ∧ Eq2 x 0 ∧ Eq2 y 0 := by
  have p1 := right_PB h l r1
  have p2 := right_PB h' l' r2
  obtain ⟨s, t, e1, a1, a2, a3, a4, a5, a6⟩ := sum_W p1.hi p1.lo p2.hi p2.lo
  obtain ⟨s', t', e2, b1, b2, b3, b4, -, -⟩ := sum_W p2.hi p2.lo p1.hi p1.lo
  obtain ⟨u, v, e3, c1, c2, c3, c4, -, -⟩ := sum_W (bd_neg hh p1.hi) (bd_neg hl p1.lo) (bd_neg hh' p2.hi) (bd_neg hl' p2.lo)
  obtain ⟨x, y, e4, d1, d2, d3, d4, -, -⟩ := sum_W p1.hi p1.lo (bd_neg hh p1.hi) (bd_neg hl p1.lo)
  rw [(neg_V h hh).1, (neg_V l hl).1] at c3 c4 d3 d4
  rw [(neg_V h' hh').1, (neg_V l' hl').1] at c3 c4
  obtain ⟨n1, n2, -⟩ := neg_V s a5
  obtain ⟨m1, m2, -⟩ := neg_V t a6
  have w1 := sum_swap (V h) (V l) (V h') (V l')
  have w2 := sum_neg (V h) (V l) (V h') (V l')
  have w3 := sum_less (V h) (V l)
  refine ⟨s, t, s', t', u, v, x, y, e1, e2, e3, e4, eq2_of a1 b1 ?_, eq2_of a2 b2 ?_, eq2_of c1 (n2.trans a1) ?_, eq2_of c2 (m2.trans a2) ?_, eq2_of d1 (by decide) ?_, eq2_of d2 (by decide) ?_⟩
  · rw [a3, b3, w1.1]
  · rw [a4, b4, w1.2]
  · rw [n1, c3, a3, w2.1]
  · rw [m1, c4, a4, w2.2]
  · rw [d3, w3.1]; decide
  · rw [d4, w3.2]; decide
theorem turned_prod (h l h' l' : Nat) (hh : h < 18446744073709551616) (hl : l < 18446744073709551616) (r1 : rightP h l = true) (r2 : rightP h' l' = true) :
    ∃ s t s' t' u v, prodP h l h' l' = some (s, t) ∧ prodP h' l' h l = some (s', t') ∧ prodP (Op.negFloat .f64 h) (Op.negFloat .f64 l) h' l' = some (u, v) ∧ Eq2 s s' ∧ Eq2 t t' ∧ Eq2 u (Op.negFloat .f64 s) ∧ Eq2 v (Op.negFloat .f64 t) := by
  have p1 := right_PB h l r1
  have p2 := right_PB h' l' r2
  obtain ⟨A, i, hA⟩ := right_Nm h l r1
  obtain ⟨B, j, hB⟩ := right_Nm h' l' r2
  obtain ⟨s, t, f, g, e1, a0, a0', a1, a2, a3, a4, a5, a6⟩ := prod_W p1.hi p1.lo p2.hi p2.lo hA hB
  obtain ⟨s', t', f', g', e2, b0, b0', b1, b2, b3, b4, -, -⟩ := prod_W p2.hi p2.lo p1.hi p1.lo hB hA
  obtain ⟨u, v, f2, g2, e3, c0, c0', c1, c2, c3, c4, -, -⟩ := prod_W (bd_neg hh p1.hi) (bd_neg hl p1.lo) p2.hi p2.lo (hA.neg hh) hB
  obtain ⟨n1, n2, -⟩ := neg_V s a5
  obtain ⟨m1, m2, -⟩ := neg_V t a6
  have q1 : g = f' := by
    rw [mul_comm_fo l h' p1.2.1 p2.1, b0] at a0'
    exact (Option.some.inj a0').symm
  have q2 : f = g' := by
    rw [mul_comm_fo h l' p1.1 p2.2.1, b0'] at a0
    exact (Option.some.inj a0).symm
  have q3 : V f2 = - V f := mul_turn h _ l' f f2 p1.1 p2.2.1 (neg_mod h).1 (neg_mod h).2 a0 c0
  have q4 : V g2 = - V g := mul_turn l _ h' g g2 p1.2.1 p2.1 (neg_mod l).1 (neg_mod l).2 a0' c0'
  rw [Int.mul_comm B A, Nat.add_comm j i, ← q1, ← q2, Int.add_comm (V g) (V f)] at b3 b4
  rw [Int.neg_mul, G_neg, q3, q4, ← Int.neg_add, G_neg, show -(A * B) - -G (A * B) = -(A * B - G (A * B)) by omega, Int.neg_mul, Int.neg_mul, ← Int.neg_add, G_neg] at c3 c4
  rw [fS_neg] at c3
  rw [fT_neg] at c4
  refine ⟨s, t, s', t', u, v, e1, e2, e3, eq2_of a1 b1 ?_, eq2_of a2 b2 ?_, eq2_of c1 (n2.trans a1) ?_, eq2_of c2 (m2.trans a2) ?_⟩
  · rw [a3, b3]
  · rw [a4, b4]
  · rw [n1, c3, a3]
  · rw [m1, c4, a4]
end Go.Proofs.Ytiibjhemljkgbaa.Fp
