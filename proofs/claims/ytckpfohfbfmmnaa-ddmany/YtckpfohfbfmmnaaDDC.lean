/- Pairs that are right: their floats are of some size; the steps of the books then have finite answers. -/
import Derived.Test.YtckpfohfbfmmnaaDDB
namespace Go.Proofs.Ytckpfohfbfmmnaa
open EP

theorem near_big' (neg : Bool) (mag L k t : Nat) (place : Int) (hp : place + 1074 = (t : Int)) (hm : mag.log2 = L) (hL : 2097 ≤ L + t) (h0 : mag ≠ 0) (hk : k = L + t - 52) : ∃ r, Ieee.double.nearest neg mag place = Ieee.double.word neg r ∧ 9209861237972664320 ≤ r ∧ r ≤ 9218868437227405312 := by
  have hlp : Ieee.double.leastPlace = -1074 := by decide
  have hfb : (Ieee.double.fractionBits : Int) = 52 := by decide
  have hbi : Ieee.double.binade = 4503599627370496 := by decide
  have hir : Ieee.double.infRung = 9218868437227405312 := by decide
  have e1 : (max (place + (L : Int) - 52) (-1074) - -1074).toNat = k := by omega
  have hn : ∃ c, Ieee.double.nearest neg mag place = Ieee.double.word neg (min ((max (place + (mag.log2 : Int) - (Ieee.double.fractionBits : Int)) Ieee.double.leastPlace - Ieee.double.leastPlace).toNat * Ieee.double.binade + c) Ieee.double.infRung) := by
    unfold Ieee.Format.nearest
    rw [if_neg h0]
    exact ⟨_, rfl⟩
  obtain ⟨c, hn⟩ := hn
  rw [hm, hlp, hfb, hbi, hir, e1] at hn
  refine ⟨_, hn, ?_, Nat.min_le_right _ _⟩
  have : 2045 ≤ k := by omega
  clear hn e1 hm hp h0 hk hL hir hbi hlp hfb
  omega

theorem big_out' (neg : Bool) (mag t N : Nat) (hN : N = 2097) (h : 2 ^ N ≤ mag * 2 ^ t) : ¬ bd (Ieee.double.nearest neg mag (-1074 + (t : Int))) 1474 := by
  intro hb
  have h0 : mag ≠ 0 := fun e => by rw [e, Nat.zero_mul] at h; exact absurd h (Nat.not_le.2 (Nat.two_pow_pos N))
  have hL : 2097 ≤ mag.log2 + t := by
    refine Nat.le_of_not_lt fun hlt => ?_
    have h1 : mag < 2 ^ (mag.log2 + 1) := Nat.lt_log2_self
    have h2 : mag * 2 ^ t < 2 ^ (mag.log2 + 1) * 2 ^ t := Nat.mul_lt_mul_of_pos_right h1 (pow2_pos t)
    rw [← Nat.pow_add] at h2
    have h3 : 2 ^ (mag.log2 + 1 + t) ≤ 2 ^ N := Nat.pow_le_pow_right (by decide) (by omega)
    exact absurd (Nat.lt_of_lt_of_le h2 h3) (Nat.not_lt.2 h)
  obtain ⟨r, e, h1, h2⟩ := near_big' neg mag mag.log2 (mag.log2 + t - 52) t (-1074 + (t : Int)) (by omega) rfl hL h0 rfl
  rw [e] at hb
  obtain ⟨g1, g2, -⟩ := word_read neg r (by omega)
  have hf : r < 9218868437227405312 := by have := of_decide_eq_true hb.1; rwa [g1] at this
  obtain ⟨-, f2, -⟩ := word_V neg r hf
  have hR := R_big r h1 hf
  have := hb.2
  rw [f2] at this
  have hn : (if neg then - (R r : Int) else (R r : Int)).natAbs = R r := by split <;> simp only [Int.natAbs_neg, Int.natAbs_natCast]
  rw [hn] at this
  exact absurd this (Nat.not_le.2 hR)

theorem scale_abs (T : Int) (Z : Nat) (S : Int) (h : T * (Z : Int) = S) : T.natAbs * Z = S.natAbs := by rw [← h, Int.natAbs_mul]; rfl

/-- A sum that is too great is no number of a moderate size. -/
theorem add_big (a b N : Nat) (hN : N = 2097) (ha : finB a = true) (hb : finB b = true) (h : 2 ^ N ≤ (V a + V b).natAbs) : ∃ r, Ieee.double.add a b = some r ∧ ¬ bd r 1474 := by
  obtain ⟨m, p, e1, e2, -⟩ := read_fin a ha
  obtain ⟨n, q, e3, e4, -⟩ := read_fin b hb
  unfold Ieee.Format.add
  rw [e1, e3]
  obtain ⟨neg, e⟩ := sum_near (negB a) (negB b) m n (-1074 + (p : Int)) (-1074 + (q : Int))
  refine ⟨_, e, ?_⟩
  obtain ⟨t, ht⟩ : ∃ t : Nat, t = min p q := ⟨_, rfl⟩
  have hm : min (-1074 + (p : Int)) (-1074 + (q : Int)) = -1074 + (t : Int) := by omega
  have hp : (-1074 + (p : Int) - (-1074 + (t : Int))).toNat = p - t := by omega
  have hq : (-1074 + (q : Int) - (-1074 + (t : Int))).toNat = q - t := by omega
  rw [hm, hp, hq]
  refine big_out' neg _ t N hN ?_
  rw [scale_abs _ (2 ^ t) (V a + V b) ?_]
  · exact h
  · rw [Int.add_mul, signed_scale (negB a) m (p - t) t p (by omega), signed_scale (negB b) n (q - t) t q (by omega), V_mk a m p e2, V_mk b n q e4]

theorem absF_lt (h : Nat) : absF h < 9223372036854775808 := by unfold absF; omega
theorem absF_V (h : Nat) : V (absF h) = (amt h : Int) ∧ finB (absF h) = finB h := by
  have hl := absF_lt h
  have hm : absF h % 9223372036854775808 = h % 9223372036854775808 := by unfold absF; omega
  refine ⟨?_, ?_⟩
  · unfold amt V
    have hn : negB (absF h) = false := by unfold negB; rw [show absF h / 9223372036854775808 = 0 by omega]; rfl
    rw [hn, hm]
    cases negB h <;> simp
  · unfold finB; rw [hm]
theorem neg_V (x : Nat) (hx : x < 18446744073709551616) : V (Op.negFloat .f64 x) = - V x ∧ finB (Op.negFloat .f64 x) = finB x ∧ Op.negFloat .f64 x < 18446744073709551616 := by
  have hm : Op.negFloat .f64 x % 9223372036854775808 = x % 9223372036854775808 ∧ negB (Op.negFloat .f64 x) = !negB x ∧ Op.negFloat .f64 x < 18446744073709551616 := by
    by_cases h1 : 9223372036854775808 ≤ x
    · rw [xor_sign x h1 hx]
      have hl := absF_lt x
      refine ⟨by unfold absF; omega, ?_, by omega⟩
      unfold negB
      rw [show absF x / 9223372036854775808 = 0 by omega, show x / 9223372036854775808 = 1 by omega]; rfl
    · have e : Op.negFloat .f64 x = 9223372036854775808 + x := by
        show x ^^^ 2 ^ 63 = 2 ^ 63 + x
        have hx' : x < 2 ^ 63 := by omega
        refine Nat.eq_of_testBit_eq fun i => ?_
        rw [Nat.testBit_xor, Nat.testBit_two_pow]
        rcases Nat.lt_trichotomy i 63 with h | h | h
        · rw [Nat.testBit_two_pow_add_gt h, show decide (63 = i) = false from decide_eq_false (by omega), Bool.xor_false]
        · subst h; rw [Nat.testBit_two_pow_add_eq]; simp
        · have h4 : (2 ^ 63 + x).testBit i = false := Nat.testBit_lt_two_pow (Nat.lt_of_lt_of_le (show 2 ^ 63 + x < 2 ^ 64 by omega) (Nat.pow_le_pow_right (by decide) (by omega)))
          have h3 : x.testBit i = false := Nat.testBit_lt_two_pow (Nat.lt_of_lt_of_le hx' (Nat.pow_le_pow_right (by decide) (by omega)))
          rw [h4, h3, show decide (63 = i) = false from decide_eq_false (by omega)]; rfl
      rw [e]
      refine ⟨by omega, ?_, by omega⟩
      unfold negB
      rw [show (9223372036854775808 + x) / 9223372036854775808 = 1 by omega, show x / 9223372036854775808 = 0 by omega]; rfl
  obtain ⟨h1, h2, h3⟩ := hm
  refine ⟨?_, by unfold finB; rw [h1], h3⟩
  unfold V
  rw [h1, h2]
  cases negB x <;> simp

theorem le_V (x c : Nat) (hx : finB x = true) (hc : finB c = true) (h : (Ieee.double.order x c == some .lt || Ieee.double.order x c == some .eq) = true) : V x ≤ V c := by
  simp only [Bool.or_eq_true, beq_iff_eq] at h
  rcases h with h | h
  · exact Int.le_of_lt (order_lt_V x c hx hc h)
  · exact Int.le_of_eq (order_eq_V x c hx hc h)
theorem top_V : V 5958262307011166208 = ((2 ^ 1374 : Nat) : Int) := by decide +kernel
theorem low_V : V 3256102530588868608 = ((2 ^ 774 : Nat) : Int) := by decide +kernel

/-- what a right pair's floats are -/
def PB (h l : Nat) : Prop := finB h = true ∧ finB l = true ∧ amt h ≤ 2 ^ 1374 ∧ amt l ≤ amt h ∧ (isZ h = false → 2 ^ 774 ≤ amt h)

theorem fin_of_le2 (h : Nat) (h2 : le2 (absF h) = true) : finB h = true := by
  cases hf : finB h with
  | true => rfl
  | false =>
    have hf' : finB (absF h) = false := (absF_V h).2.trans hf
    have hn : negB (absF h) = false := by
      have := absF_lt h
      unfold negB; rw [show absF h / 9223372036854775808 = 0 by omega]; rfl
    unfold le2 at h2
    rcases order_wild (absF h) 5958262307011166208 hf' (by decide) with e | e
    · rw [e] at h2; exact absurd h2 (by decide)
    · rw [e, hn] at h2; exact absurd h2 (by decide)
theorem lin_lo (h l r : Int) (e : r = h) (s : 9007199254740992 * (r - (h + l)).natAbs ≤ (h + l).natAbs) : l.natAbs ≤ h.natAbs := by omega
theorem sum_wild (h l r : Nat) (fh : finB h = true) (fl : finB l = false) (e : Ieee.double.add h l = some r) : finB r = false := by
  obtain ⟨m, p, e1, -⟩ := read_fin h fh
  unfold Ieee.Format.add at e
  rw [e1] at e
  rcases read_wild l fl with hl | ⟨f, hl⟩
  · rw [hl] at e
    have e' : some (Ieee.double.word (negB l) Ieee.double.infRung) = some r := e
    obtain rfl := Option.some.inj e'
    cases negB l <;> decide
  · rw [hl] at e
    cases e

theorem right_PB (h l : Nat) (hr : rightP h l = true) : PB h l := by
  unfold rightP at hr
  cases hz : isZ h with
  | true =>
    rw [hz, if_pos rfl] at hr
    obtain ⟨a1, a2⟩ := zero_V h hz
    obtain ⟨b1, b2⟩ := zero_V l hr
    have a3 : amt h = 0 := by unfold amt; rw [a2]; rfl
    have b3 : amt l = 0 := by unfold amt; rw [b2]; rfl
    exact ⟨a1, b1, by rw [a3]; exact Nat.zero_le _, by rw [b3]; exact Nat.zero_le _, fun e => by cases hz.symm.trans e⟩
  | false =>
    rw [hz, if_neg (by simp)] at hr
    simp only [Bool.and_eq_true] at hr
    obtain ⟨l1, l2, l3⟩ := hr
    have fh := fin_of_le2 h l2
    have fa : finB (absF h) = true := (absF_V h).2.trans fh
    have t1 := le_V (absF h) 5958262307011166208 fa (by decide) l2
    have t2 := le_V 3256102530588868608 (absF h) (by decide) fa l1
    rw [(absF_V h).1, top_V] at t1
    rw [(absF_V h).1, low_V] at t2
    have s1 : amt h ≤ 2 ^ 1374 := Int.ofNat_le.1 t1
    have s2 : 2 ^ 774 ≤ amt h := Int.ofNat_le.1 t2
    unfold sumEq at l3
    cases ha : Ieee.double.add h l with
    | none => rw [ha] at l3; cases l3
    | some r =>
      rw [ha] at l3
      have l4 : Ieee.double.order r h = some .eq := eq_of_beq l3
      have fr := eq_fin r h fh l4
      have vr := order_eq_V r h fr fh l4
      have fl : finB l = true := by
        cases hf : finB l with
        | true => rfl
        | false => rw [sum_wild h l r fh hf ha] at fr; cases fr
      refine ⟨fh, fl, s1, ?_, fun _ => s2⟩
      obtain ⟨N, hN⟩ : ∃ N, N = 2097 := ⟨_, rfl⟩
      by_cases hs : (V h + V l).natAbs < 2 ^ N
      · obtain ⟨r', e', -, -, s⟩ := add_spec h l N hN fh fl hs
        rw [ha] at e'
        obtain rfl := Option.some.inj e'
        exact lin_lo (V h) (V l) (V r) vr s
      · obtain ⟨r', e', nb⟩ := add_big h l N hN fh fl (Nat.le_of_not_lt hs)
        rw [ha] at e'
        obtain rfl := Option.some.inj e'
        refine absurd ⟨fr, ?_⟩ nb
        rw [vr]
        exact Nat.le_trans s1 (pow_le2 1374 1474 (by decide))

theorem PB.hi {h l : Nat} (p : PB h l) : bd h 1374 := ⟨p.1, p.2.2.1⟩
theorem PB.lo {h l : Nat} (p : PB h l) : bd l 1374 := ⟨p.2.1, Nat.le_trans p.2.2.2.1 p.2.2.1⟩
theorem bd_neg {x n : Nat} (hx : x < 18446744073709551616) (h : bd x n) : bd (Op.negFloat .f64 x) n := by
  obtain ⟨h1, h2, -⟩ := neg_V x hx
  refine ⟨h2.trans h.1, ?_⟩
  rw [h1, Int.natAbs_neg]; exact h.2

theorem sum_bd {xh xl yh yl : Nat} (a : bd xh 1374) (b : bd xl 1374) (c : bd yh 1374) (d : bd yl 1374) : ∃ s t, sumP xh xl yh yl = some (s, t) ∧ finB s = true ∧ finB t = true := by
  obtain ⟨s, t, e1, b1, b2⟩ := twoSum_bd a c (by decide)
  obtain ⟨u, v, e2, b3, b4⟩ := twoSum_bd b d (by decide)
  obtain ⟨k, e3, -, b5⟩ := fo_add b2 (b3.mono (by decide)) (by decide)
  obtain ⟨p, q, e4, b6, b7⟩ := fast_bd (b1.mono (by decide)) b5 (by decide)
  obtain ⟨m, e5, -, b8⟩ := fo_add (b4.mono (by decide)) b7 (by decide)
  obtain ⟨x, y, e6, b9, b10⟩ := fast_bd (b6.mono (by decide)) b8 (by decide)
  exact ⟨x, y, by simp only [sumP, e1, e2, e3, e4, e5, e6, Option.bind_some], b9.1, b10.1⟩
theorem prod_bd {xh xl yh yl : Nat} (a : bd xh 1374) (b : bd xl 1374) (c : bd yh 1374) (d : bd yl 1374) : ∃ s t, prodP xh xl yh yl = some (s, t) ∧ finB s = true ∧ finB t = true := by
  obtain ⟨p, e, e1, b1, b2⟩ := twoProd_bd (k := 1674) a c (by decide) (by decide)
  obtain ⟨f, e2, -, b3⟩ := fo_mul (k := 1674) a d (by decide) (by decide)
  obtain ⟨g, e3, -, b4⟩ := fo_mul (k := 1674) b c (by decide) (by decide)
  obtain ⟨h, e4, -, b5⟩ := fo_add b3 b4 (by decide)
  obtain ⟨i, e5, -, b6⟩ := fo_add b2 (b5.mono (by decide)) (by decide)
  obtain ⟨x, y, e6, b9, b10⟩ := fast_bd (b1.mono (by decide)) b6 (by decide)
  exact ⟨x, y, by simp only [prodP, e1, e2, e3, e4, e5, e6, Option.bind_some], b9.1, b10.1⟩
end Go.Proofs.Ytckpfohfbfmmnaa
