/- The middle above a binary64 and the numbers beside it: what they are rounded to (pure). -/
import Derived.Test.YtiipjkkfaplhnaaDoorRP1
namespace Go.Proofs.YtiipjkkfaplhnaaDoor
open Go.RowKit

theorem mid_low (x : Int) : -1074 ≤ (sumD (fromP x) (upT x)).2.2 := sum_low _ _ (-1074) (by decide) (from_can x).2 (up_can x).2
theorem mid_twice (x : Int) (K : Nat) (hK : K = 32768) : 2 * vI (midQ x) (-(K : Int)) = vI (fromP x) (-(K : Int)) + vI (upT x) (-(K : Int)) := by
  have hl := mid_low x
  have hs := vI_sum (fromP x) (upT x) (-(K : Int)) (by have := (from_can x).2; omega) (by have := (up_can x).2; omega)
  rw [← hs]
  unfold midQ
  rw [vI_form _ _ _ _ (by omega)]
  unfold vI
  generalize sumD (fromP x) (upT x) = S at *
  rw [show (S.2.2 - -(K : Int)).toNat = (S.2.2 - 1 - -(K : Int)).toNat + 1 by omega, Nat.pow_succ, ← Nat.mul_assoc]
  generalize S.2.1 * 2 ^ (S.2.2 - 1 - -(K : Int)).toNat = T
  unfold sI
  split <;> omega
theorem mid_can (x : Int) : CanD (midQ x) ∧ -1075 ≤ (midQ x).2.2 := ⟨form_can _ _ _, form_lo _ _ _ _ (by have := mid_low x; omega) (by decide)⟩
theorem half_a (v : Int) (P Q : Nat) (h : 2 * v = (P : Int) + ((P + 2 * Q : Nat) : Int)) : v = ((P + Q : Nat) : Int) := by omega
theorem half_b (v : Int) (P Q : Nat) (h : 2 * v = -1 * ((P + 2 * Q : Nat) : Int) + -(P : Int)) : v = -((P + Q : Nat) : Int) := by omega
theorem abs_a (v : Int) (A B : Nat) (e : v = (A : Int)) (h : A < B) : v.natAbs < B := by omega
theorem abs_b (v : Int) (A B : Nat) (e : v = -(A : Int)) (h : A < B) : v.natAbs < B := by omega
theorem two_a (v : Int) (P Q R : Nat) (e : v = ((P + Q : Nat) : Int) - (R : Int)) (h : R < Q) : v = ((P + (Q - R) : Nat) : Int) := by omega
theorem two_b (v : Int) (P Q R : Nat) (e : v = ((P + Q : Nat) : Int) + (R : Int)) : v = ((P + (Q + R) : Nat) : Int) := by omega
theorem two_c (v : Int) (P Q R : Nat) (e : v = -((P + Q : Nat) : Int) - (R : Int)) : v = -((P + (Q + R) : Nat) : Int) := by omega
theorem two_d (v : Int) (P Q R : Nat) (e : v = -((P + Q : Nat) : Int) + (R : Int)) (h : R < Q) : v = -((P + (Q - R) : Nat) : Int) := by omega
theorem mid_val (x : Int) (ux : U x) (hx : finB x = true) (K : Nat) (hK : K = 32768) :
    (¬ 9223372036854775808 < x → vI (midQ x) (-(K : Int)) = ((cC x * 2 ^ (cK x + (K - 1074)) + 2 ^ (cK x + (K - 1075)) : Nat) : Int)) ∧
    (9223372036854775808 < x → vI (midQ x) (-(K : Int)) = -((cC (x % 9223372036854775808 - 1) * 2 ^ (cK (x % 9223372036854775808 - 1) + (K - 1074)) + 2 ^ (cK (x % 9223372036854775808 - 1) + (K - 1075)) : Nat) : Int)) := by
  have h2 := mid_twice x K hK
  have hv := from_val x ux hx K hK
  obtain ⟨p1, p2⟩ := up_val x ux hx K hK
  have hf : x % 9223372036854775808 < 9218868437227405312 := by unfold finB at hx; simpa using hx
  obtain ⟨u0, u1⟩ := ux
  constructor
  · intro h
    obtain ⟨-, q⟩ := p1 h
    rw [hv, q] at h2
    have ph := pow_half (cK x) K hK
    have hz : x = 9223372036854775808 → cC x = 0 := fun w => by rw [w]; decide
    have hsg : sI (sgnB x) * ((cC x * 2 ^ (cK x + (K - 1074)) : Nat) : Int) = ((cC x * 2 ^ (cK x + (K - 1074)) : Nat) : Int) := by
      by_cases w : x = 9223372036854775808
      · rw [hz w, Nat.zero_mul]; simp
      · unfold sgnB sI
        rw [decide_eq_false (by omega), if_neg (by decide), Int.one_mul]
    rw [hsg, Nat.add_mul, Nat.one_mul] at h2
    rw [ph] at h2 ⊢
    exact half_a _ _ _ h2
  · intro h
    obtain ⟨-, q⟩ := p2 h
    have nc := next_cell (x % 9223372036854775808 - 1) (by omega) (by omega) (K - 1074)
    rw [show x % 9223372036854775808 - 1 + 1 = x % 9223372036854775808 by omega, (cell_mod x).1, (cell_mod x).2] at nc
    rw [hv, q, nc] at h2
    have ph := pow_half (cK (x % 9223372036854775808 - 1)) K hK
    have hsg : sI (sgnB x) = -1 := by unfold sgnB sI; rw [decide_eq_true (by omega), if_pos rfl]
    rw [hsg, Nat.add_mul, Nat.one_mul] at h2
    rw [ph] at h2 ⊢
    exact half_b _ _ _ h2
def pwD (n : Int) : Bool × Nat × Int := formD false 1 (-n)
theorem pw_is (n : Int) : pwD n = (false, 1, -n) := form_odd false rfl (-n)
def beD (x n : Int) : Bool × Nat × Int := sumD (midQ x) (negD (pwD n))
def abD (x n : Int) : Bool × Nat × Int := sumD (midQ x) (pwD n)
theorem pw_val (n : Int) (K : Nat) (hK : K = 32768) (hn : 1100 ≤ n ∧ n ≤ 3000) : vI (pwD n) (-(K : Int)) = ((2 ^ (K - n.toNat) : Nat) : Int) := by
  rw [pw_is]
  have e : (-n - -(K : Int)).toNat = K - n.toNat := by omega
  show (1 : Int) * ((1 * 2 ^ (-n - -(K : Int)).toNat : Nat) : Int) = _
  rw [e, Nat.one_mul, Int.one_mul]
theorem be_val (x n : Int) (K : Nat) (hK : K = 32768) (hn : 1100 ≤ n ∧ n ≤ 3000) : vI (beD x n) (-(K : Int)) = vI (midQ x) (-(K : Int)) - ((2 ^ (K - n.toNat) : Nat) : Int) ∧ vI (abD x n) (-(K : Int)) = vI (midQ x) (-(K : Int)) + ((2 ^ (K - n.toNat) : Nat) : Int) := by
  have hm := (mid_can x).2
  have hp := pw_is n
  unfold beD abD
  rw [vI_sum _ _ _ (by omega) (show -(K : Int) ≤ (negD (pwD n)).2.2 from by rw [hp]; show -(K : Int) ≤ -n; omega), vI_sum _ _ _ (by omega) (show -(K : Int) ≤ (pwD n).2.2 from by rw [hp]; show -(K : Int) ≤ -n; omega), vI_neg, pw_val n K hK hn]
  omega
theorem be_can (x n : Int) (hn : 1100 ≤ n ∧ n ≤ 3000) : (CanD (beD x n) ∧ -4000 ≤ (beD x n).2.2) ∧ (CanD (abD x n) ∧ -4000 ≤ (abD x n).2.2) := by
  have hm := mid_can x
  have hp := pw_is n
  have c1 : CanD (pwD n) := by rw [hp]; exact .inr rfl
  have c2 : CanD (negD (pwD n)) := by rw [hp]; exact .inr rfl
  refine ⟨⟨sum_canP hm.1 c2, ?_⟩, ⟨sum_canP hm.1 c1, ?_⟩⟩
  · refine Int.le_trans (show -4000 ≤ -3000 by decide) (sum_low _ _ (-3000) (by decide) (by omega) ?_)
    rw [hp]; show -3000 ≤ -n; omega
  · refine Int.le_trans (show -4000 ≤ -3000 by decide) (sum_low _ _ (-3000) (by decide) (by omega) ?_)
    rw [hp]; show -3000 ≤ -n; omega
theorem ar1 (P H Q B : Nat) (e : H = 2 * Q) (g : P + 2 * H < B) : P + Q < B := by omega
theorem ar2 (P H Q R B : Nat) (e : H = 2 * Q) (s : R < Q) (g : P + 2 * H < B) : P + (Q + R) < B := by omega
theorem ar3 (P H Q R B : Nat) (e : H = 2 * Q) (g : P + 2 * H < B) : P + (Q - R) < B := by omega
theorem ar4 (H Q : Nat) (e : H = 2 * Q) (q : 0 < Q) : Q < H ∧ ¬ H < 2 * Q := by omega
theorem ar5 (H Q R : Nat) (e : H = 2 * Q) (s : R < Q) (r : 0 < R) : Q + R < H ∧ 0 < Q + R ∧ H < 2 * (Q + R) ∧ Q - R < H ∧ 0 < Q - R ∧ ¬ H < 2 * (Q - R) ∧ H ≠ 2 * (Q - R) := by omega
/-- the three are rounded to the neighbours, the middle to the even one -/
theorem three (x n : Int) (ux : U x) (hx : finB x = true) (hn : 1100 ≤ n ∧ n ≤ 3000) :
    rightB (midQ x).2.1 (midQ x).2.2 = true ∧ rightB (beD x n).2.1 (beD x n).2.2 = true ∧ rightB (abD x n).2.1 (abD x n).2.2 = true ∧ exactB (midQ x).2.1 (midQ x).2.2 = false ∧
    nbR (abD x n).1 (abD x n).2.1 (abD x n).2.2 = upV x ∧ (nbR (beD x n).1 (beD x n).2.1 (beD x n).2.2 = x ∨ (x = 9223372036854775808 ∧ nbR (beD x n).1 (beD x n).2.1 (beD x n).2.2 = 0)) ∧
    (nbR (midQ x).1 (midQ x).2.1 (midQ x).2.2 = nbR (beD x n).1 (beD x n).2.1 (beD x n).2.2 ∨ nbR (midQ x).1 (midQ x).2.1 (midQ x).2.2 = nbR (abD x n).1 (abD x n).2.1 (abD x n).2.2) ∧ nbR (midQ x).1 (midQ x).2.1 (midQ x).2.2 % 2 = 0 := by
  obtain ⟨K, hK⟩ : ∃ K : Nat, K = 32768 := ⟨_, rfl⟩
  obtain ⟨b1, b2⟩ := be_val x n K hK hn
  obtain ⟨m1, m2⟩ := mid_val x ux hx K hK
  obtain ⟨⟨cb, lb⟩, ⟨ca, la⟩⟩ := be_can x n hn
  obtain ⟨cm, lm⟩ := mid_can x
  have hf : x % 9223372036854775808 < 9218868437227405312 := by unfold finB at hx; simpa using hx
  obtain ⟨p1, p2⟩ := up_val x ux hx K hK
  obtain ⟨u0, u1⟩ := ux
  have main : ∀ V : Int, 0 ≤ V → V < 9218868437227405312 → ∃ c k : Nat, c = cC V ∧ k = cK V ∧ c < 9007199254740992 ∧ (k = 0 ∨ 4503599627370496 ≤ c) ∧ k ≤ 2045 ∧ V = (k : Int) * 4503599627370496 + (c : Int) := fun V a b => ⟨_, _, rfl, rfl, cell_facts V a b⟩
  have small : ∀ k : Nat, 2 ^ (K - n.toNat) < 2 ^ (k + (K - 1075)) := fun k => Nat.pow_lt_pow_right (by decide) (by omega)
  have great : ∀ c k : Nat, c < 9007199254740992 → k ≤ 2045 → (c + 2) * 2 ^ (k + (K - 1074)) < 2 ^ (K + 2000) := fun c k hc hk => by
    have h1 : c + 2 < 2 ^ 54 := Nat.lt_of_lt_of_le (show c + 2 < 9007199254740994 by omega) (by decide)
    have h2 : (c + 2) * 2 ^ (k + (K - 1074)) < 2 ^ 54 * 2 ^ (k + (K - 1074)) := Nat.mul_lt_mul_of_pos_right h1 (Nat.two_pow_pos _)
    rw [← Nat.pow_add] at h2
    exact Nat.lt_of_lt_of_le h2 (Nat.pow_le_pow_right (by decide) (by omega))
  by_cases h : 9223372036854775808 < x
  · have hm := m2 h
    obtain ⟨q1, -⟩ := p2 h
    obtain ⟨c, k, e1, e2, hc, hk, hk2, hV⟩ := main (x % 9223372036854775808 - 1) (by omega) (by omega)
    rw [← e1, ← e2] at hm
    have ph := pow_half k K hK
    have sm := small k
    obtain ⟨r1, r2⟩ := ar4 _ _ ph (Nat.two_pow_pos _)
    obtain ⟨s1, s2, s3, s4, s5, s6, s7⟩ := ar5 _ _ _ ph sm (Nat.two_pow_pos _)
    have gr := great c k hc hk2
    rw [hm] at b1 b2
    have e3 : (c + 2) * 2 ^ (k + (K - 1074)) = c * 2 ^ (k + (K - 1074)) + 2 * 2 ^ (k + (K - 1074)) := Nat.add_mul _ _ _
    rw [e3] at gr
    have vb := two_c _ _ _ _ b1
    have va := two_d _ _ _ _ b2 sm
    have rm := right_val (midQ x) cm K hK (by omega) (abs_b _ _ _ hm (ar1 _ _ _ _ ph gr))
    have rb := right_val (beD x n) cb K hK lb (abs_b _ _ _ vb (ar2 _ _ _ _ _ ph sm gr))
    have ra := right_val (abD x n) ca K hK la (abs_b _ _ _ va (ar3 _ _ _ _ _ ph gr))
    obtain ⟨-, nm, xm⟩ := cell_neg (midQ x) rm K hK c k _ hc hk hk2 r1 (Nat.two_pow_pos _) hm
    obtain ⟨-, nb, -⟩ := cell_neg (beD x n) rb K hK c k _ hc hk hk2 s1 s2 vb
    obtain ⟨-, na, -⟩ := cell_neg (abD x n) ra K hK c k _ hc hk hk2 s4 s5 va
    rw [decide_eq_false r2, beq_iff_eq.2 ph, Bool.false_or, Bool.true_and] at nm
    rw [decide_eq_true s3, Bool.true_or, Bool.toNat_true] at nb
    have hp := Nat.two_pow_pos (K - n.toNat)
    rw [decide_eq_false s6, beq_eq_false_iff_ne.2 s7, Bool.false_or, Bool.false_and, Bool.toNat_false] at na
    clear b1 b2 m1 m2 p1 p2 ph sm gr e3 vb va hm r1 r2 s1 s2 s3 s4 s5 s6 s7 hp
    refine ⟨rm, rb, ra, xm, ?_, .inl ?_, ?_, ?_⟩
    · rw [na, q1]; unfold negV; omega
    · rw [nb]; unfold negV; omega
    · by_cases od : c % 2 = 1
      · left; rw [nm, nb, beq_iff_eq.2 od, Bool.toNat_true]
      · right; rw [nm, na, beq_eq_false_iff_ne.2 od, Bool.toNat_false]
    · rw [nm]
      by_cases od : c % 2 = 1
      · rw [beq_iff_eq.2 od, Bool.toNat_true]; unfold negV; omega
      · rw [beq_eq_false_iff_ne.2 od, Bool.toNat_false]; unfold negV; omega
  · have hm := m1 h
    obtain ⟨q1, -⟩ := p1 h
    obtain ⟨c, k, e1, e2, hc, hk, hk2, hV⟩ := main (x % 9223372036854775808) (by omega) (by omega)
    rw [(cell_mod x).1] at e1
    rw [(cell_mod x).2] at e2
    rw [← e1, ← e2] at hm
    have ph := pow_half k K hK
    have sm := small k
    obtain ⟨r1, r2⟩ := ar4 _ _ ph (Nat.two_pow_pos _)
    obtain ⟨s1, s2, s3, s4, s5, s6, s7⟩ := ar5 _ _ _ ph sm (Nat.two_pow_pos _)
    have gr := great c k hc hk2
    rw [hm] at b1 b2
    have e3 : (c + 2) * 2 ^ (k + (K - 1074)) = c * 2 ^ (k + (K - 1074)) + 2 * 2 ^ (k + (K - 1074)) := Nat.add_mul _ _ _
    rw [e3] at gr
    have vb := two_a _ _ _ _ b1 sm
    have va := two_b _ _ _ _ b2
    have rm := right_val (midQ x) cm K hK (by omega) (abs_a _ _ _ hm (ar1 _ _ _ _ ph gr))
    have rb := right_val (beD x n) cb K hK lb (abs_a _ _ _ vb (ar3 _ _ _ _ _ ph gr))
    have ra := right_val (abD x n) ca K hK la (abs_a _ _ _ va (ar2 _ _ _ _ _ ph sm gr))
    obtain ⟨-, nm, xm⟩ := cell_pos (midQ x) rm K hK c k _ hc hk hk2 r1 (Nat.two_pow_pos _) hm
    obtain ⟨-, nb, -⟩ := cell_pos (beD x n) rb K hK c k _ hc hk hk2 s4 s5 vb
    obtain ⟨-, na, -⟩ := cell_pos (abD x n) ra K hK c k _ hc hk hk2 s1 s2 va
    rw [decide_eq_false r2, beq_iff_eq.2 ph, Bool.false_or, Bool.true_and] at nm
    have hp := Nat.two_pow_pos (K - n.toNat)
    rw [decide_eq_true s3, Bool.true_or, Bool.toNat_true] at na
    rw [decide_eq_false s6, beq_eq_false_iff_ne.2 s7, Bool.false_or, Bool.false_and, Bool.toNat_false] at nb
    clear b1 b2 m1 m2 p1 p2 ph sm gr e3 vb va hm r1 r2 s1 s2 s3 s4 s5 s6 s7 hp
    refine ⟨rm, rb, ra, xm, ?_, ?_, ?_, ?_⟩
    · rw [na, q1]; omega
    · by_cases w : x = 9223372036854775808
      · right; refine ⟨w, ?_⟩; rw [nb]; omega
      · left; rw [nb]; omega
    · by_cases od : c % 2 = 1
      · right; rw [nm, na, beq_iff_eq.2 od, Bool.toNat_true]
      · left; rw [nm, nb, beq_eq_false_iff_ne.2 od, Bool.toNat_false]
    · rw [nm]
      by_cases od : c % 2 = 1
      · rw [beq_iff_eq.2 od, Bool.toNat_true]; omega
      · rw [beq_eq_false_iff_ne.2 od, Bool.toNat_false]; omega
end Go.Proofs.YtiipjkkfaplhnaaDoor
