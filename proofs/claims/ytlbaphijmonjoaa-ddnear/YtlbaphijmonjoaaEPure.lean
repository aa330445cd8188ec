/- Floats of 64 bits as whole multiples of the least number: what sums, differences and products come to, how far they lie off, how they stand to each other. -/
import Derived.Laws.FloatArith
namespace Go.Proofs.Ytlbaphijmonjoaa.EP
open Ieee

/-- the amount of a rung, in units of the least number -/
def R (r : Nat) : Nat := if r < 4503599627370496 then r else (4503599627370496 + r % 4503599627370496) * 2 ^ (r / 4503599627370496 - 1)

def finB (x : Nat) : Bool := decide (x % 9223372036854775808 < 9218868437227405312)
def negB (x : Nat) : Bool := x / 9223372036854775808 % 2 == 1
def V (x : Nat) : Int := if negB x then - (R (x % 9223372036854775808) : Int) else (R (x % 9223372036854775808) : Int)

theorem pow2_pos (n : Nat) : 0 < 2 ^ n := Nat.two_pow_pos n

theorem cut_spec (neg : Bool) (n drop : Nat) : 2 * (Toward.even.cut neg n drop * 2 ^ drop) ≤ 2 * n + 2 ^ drop ∧ 2 * n ≤ 2 * (Toward.even.cut neg n drop * 2 ^ drop) + 2 ^ drop := by
  unfold Toward.cut
  dsimp only
  rw [Nat.one_shiftLeft]
  by_cases hd : drop ≤ n.log2 + 2
  · rw [Nat.min_eq_left hd]
    have hg := pow2_pos drop
    generalize 2 ^ drop = g at *
    have hdm := Nat.div_add_mod n g
    have hml := Nat.mod_lt n hg
    generalize n / g = q at *
    generalize n % g = s at *
    have e1 : (q + 1) * g = g * q + g := by rw [Nat.add_mul, Nat.mul_comm]; omega
    have e0 : (q + 0) * g = g * q := by rw [Nat.add_zero, Nat.mul_comm]
    cases hb : (decide (g < 2 * s) || (g == 2 * s && q % 2 == 1)) with
    | true =>
      simp only [Bool.toNat_true]
      rw [e1]
      simp only [Bool.or_eq_true, decide_eq_true_eq, Bool.and_eq_true, beq_iff_eq] at hb
      omega
    | false =>
      simp only [Bool.toNat_false]
      rw [e0]
      simp only [Bool.or_eq_false_iff, decide_eq_false_iff_not, Nat.not_lt] at hb
      omega
  · have hd' : n.log2 + 2 ≤ drop := by omega
    rw [Nat.min_eq_right hd']
    have hn : n < 2 ^ (n.log2 + 1) := Nat.lt_log2_self
    have h2 : 2 ^ (n.log2 + 2) = 2 * 2 ^ (n.log2 + 1) := by rw [Nat.pow_succ, Nat.mul_comm]
    have h3 : 2 ^ (n.log2 + 2) ≤ 2 ^ drop := Nat.pow_le_pow_right (by decide) hd'
    have hq : n / 2 ^ (n.log2 + 2) = 0 := Nat.div_eq_of_lt (by omega)
    have hm : n % 2 ^ (n.log2 + 2) = n := Nat.mod_eq_of_lt (by omega)
    rw [hq, hm]
    have f1 : ¬ (2 ^ (n.log2 + 2) < 2 * n) := by omega
    have f2 : ¬ (2 ^ (n.log2 + 2) = 2 * n) := by omega
    have f2' : ((2 ^ (n.log2 + 2)) == 2 * n) = false := by simp [f2]
    simp only [f1, f2', decide_false, Bool.false_and, Bool.or_false, Bool.toNat_false]
    omega

theorem cut_zero (neg : Bool) (n : Nat) : Toward.even.cut neg n 0 = n := by
  unfold Toward.cut
  dsimp only
  have h : min 0 (n.log2 + 2) = 0 := by omega
  rw [h]
  simp [Nat.mod_one]

theorem dbl (z : Nat) : (4503599627370496 + 0) * (z * 2) = 9007199254740992 * z := by omega

theorem R_mk (k c : Nat) (h : k = 0 ∨ 4503599627370496 ≤ c) (h2 : c ≤ 9007199254740992) : R (k * 4503599627370496 + c) = c * 2 ^ k := by
  unfold R
  by_cases hc : c < 4503599627370496
  · have : k = 0 := by omega
    subst this
    rw [if_pos (by omega)]; simp
  · rw [if_neg (by omega)]
    by_cases ht : c = 9007199254740992
    · subst ht
      have e1 : (k * 4503599627370496 + 9007199254740992) / 4503599627370496 = k + 2 := by omega
      have e2 : (k * 4503599627370496 + 9007199254740992) % 4503599627370496 = 0 := by omega
      rw [e1, e2]
      have e3 : k + 2 - 1 = k + 1 := rfl
      simp only [e3, Nat.pow_succ]
      exact dbl (2 ^ k)
    · have e1 : (k * 4503599627370496 + c) / 4503599627370496 = k + 1 := by omega
      have e2 : (k * 4503599627370496 + c) % 4503599627370496 = c - 4503599627370496 := by omega
      have e4 : 4503599627370496 + (c - 4503599627370496) = c := by omega
      rw [e1, e2, Nat.add_sub_cancel, e4]

theorem kept_pow (m L : Nat) (hl : m.log2 = L) (hm : m ≠ 0) : 2 ^ L ≤ m ∧ m < 2 ^ (L + 1) := by
  subst hl
  exact ⟨Nat.log2_self_le hm, Nat.lt_log2_self⟩

theorem lin_near (E X Y Z : Nat) (q : Prop) (k3 : 2 * Y ≤ 2 * E + X) (k4 : 2 * E ≤ 2 * Y + X) (h : 4503599627370496 * X ≤ E ∨ X = Z) (h5 : q → 4503599627370496 * X ≤ E ∨ Y = E) :
    9007199254740992 * Y ≤ 9007199254740992 * E + E + 4503599627370496 * Z ∧ 9007199254740992 * E ≤ 9007199254740992 * Y + E + 4503599627370496 * Z ∧ (q → 9007199254740992 * Y ≤ 9007199254740992 * E + E ∧ 9007199254740992 * E ≤ 9007199254740992 * Y + E) := by
  refine ⟨?_, ?_, ?_⟩
  · rcases h with h | h <;> omega
  · rcases h with h | h <;> omega
  · intro hq
    rcases h5 hq with h | h <;> omega

theorem pk_lem (k D L P mag : Nat) (place last : Int) (hP : place + 1074 + D = P) (hla : max (place + (L : Int) - 52) (-1074) = last) (hk : (last - -1074).toNat = k) (hlo : 2 ^ L ≤ mag) : 4503599627370496 * 2 ^ (k + D) ≤ mag * 2 ^ P ∨ k = 0 := by
  by_cases hk0 : k = 0
  · exact .inr hk0
  · left
    have hz : 52 + (k + D) = L + P := by clear hlo; omega
    have : 4503599627370496 * 2 ^ (k + D) = 2 ^ (L + P) := by
      have h52 : 2 ^ 52 = 4503599627370496 := by decide
      rw [← hz, Nat.pow_add 2 52, h52]
    rw [this, Nat.pow_add]
    exact Nat.mul_le_mul_right _ hlo

theorem drop_lem (k D L P drop : Nat) (place last : Int) (hP : place + 1074 + D = P) (_hla : max (place + (L : Int) - 52) (-1074) = last) (hk : (last - -1074).toNat = k) (hdr : (last - place).toNat = drop) (hd : D ≤ P) (h : k = 0) : drop = 0 := by omega

/-- what 'nearest' comes to: no overflow, a small error -/
theorem nearest_spec (neg : Bool) (mag : Nat) (place : Int) (D P : Nat) (hm : mag ≠ 0) (hP : place + 1074 + D = P) (hE : mag * 2 ^ P < 2 ^ (2097 + D)) :
    ∃ r, double.nearest neg mag place = double.word neg r ∧ r < 9218868437227405312 ∧
      9007199254740992 * (R r * 2 ^ D) ≤ 9007199254740992 * (mag * 2 ^ P) + mag * 2 ^ P + 4503599627370496 * 2 ^ D ∧
      9007199254740992 * (mag * 2 ^ P) ≤ 9007199254740992 * (R r * 2 ^ D) + mag * 2 ^ P + 4503599627370496 * 2 ^ D ∧
      (D ≤ P → 9007199254740992 * (R r * 2 ^ D) ≤ 9007199254740992 * (mag * 2 ^ P) + mag * 2 ^ P ∧
        9007199254740992 * (mag * 2 ^ P) ≤ 9007199254740992 * (R r * 2 ^ D) + mag * 2 ^ P) := by
  unfold Format.nearest
  rw [if_neg hm]
  dsimp only
  generalize hL : mag.log2 = L
  obtain ⟨hlo, hhi⟩ := kept_pow mag L hL hm
  have hlp : double.leastPlace = -1074 := by decide
  have hfb : (double.fractionBits : Int) = 52 := by decide
  have hbi : double.binade = 4503599627370496 := by decide
  have hir : double.infRung = 9218868437227405312 := by decide
  rw [hlp, hfb, hbi, hir]
  -- the size of the exponent
  have hsz : P + L < 2097 + D := by
    apply (Nat.pow_lt_pow_iff_right (a := 2) (by decide)).1
    refine Nat.lt_of_le_of_lt ?_ hE
    rw [Nat.pow_add, Nat.mul_comm]
    exact Nat.mul_le_mul_right _ hlo
  generalize hla : max (place + (L : Int) - 52) (-1074) = last
  generalize hup : (place - last).toNat = up
  generalize hdr : (last - place).toNat = drop
  generalize hk : (last - -1074).toNat = k
  rw [Nat.shiftLeft_eq]
  generalize hc : Toward.even.cut neg (mag * 2 ^ up) drop = c
  have key : (k = 0 ∨ 4503599627370496 ≤ c) ∧ c ≤ 9007199254740992 ∧ 2 * (c * 2 ^ (k + D)) ≤ 2 * (mag * 2 ^ P) + 2 ^ (k + D) ∧ 2 * (mag * 2 ^ P) ≤ 2 * (c * 2 ^ (k + D)) + 2 ^ (k + D) ∧ (drop = 0 → c * 2 ^ (k + D) = mag * 2 ^ P) := by
    by_cases h0 : drop = 0
    · subst h0
      rw [cut_zero] at hc
      have hz : up + (k + D) = P := by omega
      have he : c * 2 ^ (k + D) = mag * 2 ^ P := by rw [← hc, Nat.mul_assoc, ← Nat.pow_add, hz]
      have g2 : 2 ^ (L + up) ≤ c := by rw [← hc, Nat.pow_add]; exact Nat.mul_le_mul_right _ hlo
      have g3 : c < 2 ^ (L + 1 + up) := by rw [← hc, Nat.pow_add]; exact Nat.mul_lt_mul_of_pos_right hhi (pow2_pos _)
      refine ⟨?_, ?_, by rw [he]; exact Nat.le_add_right _ _, by rw [he]; exact Nat.le_add_right _ _, fun _ => he⟩
      · by_cases hk0 : k = 0
        · exact .inl hk0
        · right
          have : L + up = 52 := by omega
          rw [this] at g2; exact g2
      · have : L + 1 + up ≤ 53 := by omega
        have := Nat.pow_le_pow_right (n := 2) (by decide) this
        omega
    · have hu : up = 0 := by omega
      subst hu
      rw [Nat.pow_zero, Nat.mul_one] at hc
      obtain ⟨c1, c2⟩ := cut_spec neg mag drop
      rw [hc] at c1 c2
      have hz : drop + P = k + D := by omega
      have e1 : c * 2 ^ (k + D) = (c * 2 ^ drop) * 2 ^ P := by rw [← hz, Nat.pow_add, Nat.mul_assoc]
      have e2 : 2 ^ (k + D) = 2 ^ drop * 2 ^ P := by rw [← hz, Nat.pow_add]
      have hp := pow2_pos P
      refine ⟨?_, ?_, ?_, ?_, fun h => absurd h h0⟩
      · by_cases hk0 : k = 0
        · exact .inl hk0
        · right
          have hd : drop + 52 = L := by omega
          rw [← hd, Nat.pow_add] at hlo
          have : 2 ^ 52 = 4503599627370496 := by decide
          rw [this] at hlo
          have hg := pow2_pos drop
          generalize 2 ^ drop = g at *
          -- g * 2^52 ≤ mag, |c g - mag| ≤ g / 2
          refine Nat.le_of_not_lt fun hlt => ?_
          have : c * g ≤ 4503599627370495 * g := Nat.mul_le_mul_right _ (by omega)
          omega
      · have hd : L + 1 ≤ drop + 53 := by omega
        have h53 : 2 ^ (L + 1) ≤ 2 ^ drop * 9007199254740992 := by
          have := Nat.pow_le_pow_right (n := 2) (by decide) hd
          rw [Nat.pow_add 2 drop 53] at this
          have h53 : 2 ^ 53 = 9007199254740992 := by decide
          rwa [h53] at this
        have hg := pow2_pos drop
        generalize 2 ^ drop = g at *
        refine Nat.le_of_not_lt fun hlt => ?_
        have : 9007199254740993 * g ≤ c * g := Nat.mul_le_mul_right _ (by omega)
        omega
      · rw [e1, e2]
        have := Nat.mul_le_mul_right (2 ^ P) c1
        rw [Nat.add_mul, Nat.mul_assoc 2 (c * 2 ^ drop), Nat.mul_assoc 2 mag] at this
        exact this
      · rw [e1, e2]
        have := Nat.mul_le_mul_right (2 ^ P) c2
        rw [Nat.add_mul, Nat.mul_assoc 2 (c * 2 ^ drop), Nat.mul_assoc 2 mag] at this
        exact this
  obtain ⟨k1, k2, k3, k4, k5⟩ := key
  have hR := R_mk k c k1 k2
  have hkk : k ≤ 2044 := by clear k3 k4 k5 hE hlo hhi hR k1 k2 hc; omega
  have hr : k * 4503599627370496 + c < 9218868437227405312 := by clear k3 k4 k5 hE hlo hhi hR k1 hc; omega
  refine ⟨_, rfl, ?_, ?_⟩
  · exact Nat.lt_of_le_of_lt (Nat.min_le_left _ _) hr
  · have hmin : min (k * 4503599627370496 + c) 9218868437227405312 = k * 4503599627370496 + c := Nat.min_eq_left (Nat.le_of_lt hr)
    rw [hmin, hR, Nat.mul_assoc, ← Nat.pow_add]
    have hpk := pk_lem k D L P mag place last hP hla hk hlo
    have hdz := drop_lem k D L P drop place last hP hla hk hdr
    have h0 : k = 0 → 2 ^ (k + D) = 2 ^ D := by intro h; rw [h, Nat.zero_add]
    exact lin_near (mag * 2 ^ P) (2 ^ (k + D)) (c * 2 ^ (k + D)) (2 ^ D) (D ≤ P) k3 k4 (hpk.imp id h0) (fun hd => hpk.imp id (fun h => k5 (hdz hd h)))


theorem word_read (neg : Bool) (r : Nat) (hr : r < 9223372036854775808) : double.word neg r % 9223372036854775808 = r ∧ negB (double.word neg r) = neg ∧ double.word neg r < 18446744073709551616 := by
  have hs : double.signWeight = 9223372036854775808 := by decide
  unfold Format.word negB
  rw [hs]
  cases neg
  · simp only [Bool.false_eq_true, if_false]
    refine ⟨by omega, ?_, by omega⟩
    have : r / 9223372036854775808 = 0 := by omega
    rw [this]; rfl
  · simp only [if_true]
    refine ⟨by omega, ?_, by omega⟩
    have : (9223372036854775808 + r) / 9223372036854775808 = 1 := by omega
    rw [this]; rfl

theorem word_V (neg : Bool) (r : Nat) (hr : r < 9218868437227405312) : finB (double.word neg r) = true ∧ V (double.word neg r) = (if neg then - (R r : Int) else (R r : Int)) ∧ double.word neg r < 18446744073709551616 := by
  obtain ⟨h1, h2, h3⟩ := word_read neg r (by omega)
  refine ⟨?_, ?_, h3⟩
  · unfold finB; rw [h1]; exact decide_eq_true hr
  · unfold V; rw [h1, h2]

theorem read_fin (x : Nat) (h : finB x = true) : ∃ m p : Nat, double.read x = .number (negB x) m (-1074 + (p : Int)) ∧ m * 2 ^ p = R (x % 9223372036854775808) ∧ p ≤ 2045 := by
  have h' : x % 9223372036854775808 < 9218868437227405312 := of_decide_eq_true h
  have hs : double.signWeight = 9223372036854775808 := by decide
  have hlp : double.leastPlace = -1074 := by decide
  have hbi : double.binade = 4503599627370496 := by decide
  have hir : double.infRung = 9218868437227405312 := by decide
  unfold Format.read R
  dsimp only
  rw [hs, hlp, hbi, hir]
  generalize x % 9223372036854775808 = r at h'
  by_cases h1 : r < 4503599627370496
  · rw [if_pos h1, if_pos h1]
    exact ⟨r, 0, rfl, by simp, by omega⟩
  · rw [if_neg h1, if_pos h', if_neg h1]
    exact ⟨_, _, rfl, rfl, by omega⟩

theorem V_mk (x m p : Nat) (h : m * 2 ^ p = R (x % 9223372036854775808)) : V x = (if negB x then - ((m * 2 ^ p : Nat) : Int) else ((m * 2 ^ p : Nat) : Int)) := by
  unfold V; rw [h]

theorem signed_scale (s : Bool) (m u z p : Nat) (h : u + z = p) : signed s m u * ((2 ^ z : Nat) : Int) = (if s then - ((m * 2 ^ p : Nat) : Int) else ((m * 2 ^ p : Nat) : Int)) := by
  unfold signed
  subst h
  rw [Nat.shiftLeft_eq, Nat.pow_add, ← Nat.mul_assoc]
  cases s
  · simp only [Bool.false_eq_true, if_false]; exact (Int.natCast_mul _ _).symm
  · simp only [if_true]; rw [Int.neg_mul]; exact congrArg _ (Int.natCast_mul _ _).symm

theorem near_V (neg : Bool) (mag : Nat) (place : Int) (D P N : Nat) (hN : N = 2097) (hP : place + 1074 + D = P) (hE : mag * 2 ^ P < 2 ^ (N + D)) :
    finB (double.nearest neg mag place) = true ∧ double.nearest neg mag place < 18446744073709551616 ∧
    ∃ r : Nat, V (double.nearest neg mag place) = (if neg then - (r : Int) else (r : Int)) ∧
      9007199254740992 * (r * 2 ^ D) ≤ 9007199254740992 * (mag * 2 ^ P) + mag * 2 ^ P + 4503599627370496 * 2 ^ D ∧
      9007199254740992 * (mag * 2 ^ P) ≤ 9007199254740992 * (r * 2 ^ D) + mag * 2 ^ P + 4503599627370496 * 2 ^ D ∧
      (D ≤ P → 9007199254740992 * (r * 2 ^ D) ≤ 9007199254740992 * (mag * 2 ^ P) + mag * 2 ^ P ∧
        9007199254740992 * (mag * 2 ^ P) ≤ 9007199254740992 * (r * 2 ^ D) + mag * 2 ^ P) := by
  by_cases hm : mag = 0
  · subst hm
    have e : double.nearest neg 0 place = double.word neg 0 := by unfold Format.nearest; rw [if_pos rfl]
    obtain ⟨a1, a2, a3⟩ := word_V neg 0 (by omega)
    rw [e]
    refine ⟨a1, a3, 0, ?_, ?_, ?_, ?_⟩
    · rw [a2]; rfl
    · rw [Nat.zero_mul]; omega
    · rw [Nat.zero_mul]; omega
    · intro _; rw [Nat.zero_mul, Nat.zero_mul]; omega
  · subst hN
    obtain ⟨r, e, hr, h1, h2, h3⟩ := nearest_spec neg mag place D P hm hP hE
    obtain ⟨a1, a2, a3⟩ := word_V neg r hr
    rw [e]
    exact ⟨a1, a3, R r, a2, h1, h2, h3⟩

theorem lin_sum (T z : Int) (S : Int) (r : Nat) (neg : Bool) (hn : neg = decide (T < 0)) (v : Int) (hv : v = if neg then - (r : Int) else (r : Int)) (M Z : Nat) (hz : z = (Z : Int)) (hZ : 0 < Z) (hS : T * z = S) (hM : M = T.natAbs * Z)
    (h1 : 9007199254740992 * r ≤ 9007199254740992 * M + M) (h2 : 9007199254740992 * M ≤ 9007199254740992 * r + M) : 9007199254740992 * (v - S).natAbs ≤ S.natAbs := by
  have hSM : S.natAbs = M := by rw [← hS, hM, hz, Int.natAbs_mul]; rfl
  by_cases ht : T < 0
  · have hs : S ≤ 0 := by
      rw [← hS, hz]
      exact Int.mul_nonpos_of_nonpos_of_nonneg (Int.le_of_lt ht) (by omega)
    rw [hn, decide_eq_true ht] at hv
    simp only [if_true] at hv
    omega
  · have hs : 0 ≤ S := by
      rw [← hS, hz]
      exact Int.mul_nonneg (by omega) (by omega)
    rw [hn, decide_eq_false ht] at hv
    simp only [Bool.false_eq_true, if_false] at hv
    omega

theorem sum_spec (da db : Datum) (s t : Bool) (m n p q : Nat) (va vb : Int) (N : Nat) (hN : N = 2097)
    (ea : da = .number s m (-1074 + (p : Int))) (eb : db = .number t n (-1074 + (q : Int)))
    (hva : va = if s then - ((m * 2 ^ p : Nat) : Int) else ((m * 2 ^ p : Nat) : Int))
    (hvb : vb = if t then - ((n * 2 ^ q : Nat) : Int) else ((n * 2 ^ q : Nat) : Int))
    (hE : (va + vb).natAbs < 2 ^ N) :
    ∃ r, (da.sum db).map double.write = some r ∧ finB r = true ∧ r < 18446744073709551616 ∧ 9007199254740992 * (V r - (va + vb)).natAbs ≤ (va + vb).natAbs := by
  subst ea eb
  refine ⟨_, rfl, ?_⟩
  show finB (double.nearest _ _ _) = true ∧ double.nearest _ _ _ < _ ∧ 9007199254740992 * (V (double.nearest _ _ _) - _).natAbs ≤ _
  have hb : min (-1074 + (p : Int)) (-1074 + (q : Int)) = -1074 + ((min p q : Nat) : Int) := by omega
  rw [hb]
  have hu : (-1074 + (p : Int) - (-1074 + ((min p q : Nat) : Int))).toNat = p - min p q := by omega
  have hw : (-1074 + (q : Int) - (-1074 + ((min p q : Nat) : Int))).toNat = q - min p q := by omega
  rw [hu, hw]
  have sa := signed_scale s m (p - min p q) (min p q) p (by omega)
  have sb := signed_scale t n (q - min p q) (min p q) q (by omega)
  rw [← hva] at sa
  rw [← hvb] at sb
  generalize signed s m (p - min p q) = A at *
  generalize signed t n (q - min p q) = B at *
  generalize hz : min p q = z at *
  have hS : (A + B) * ((2 ^ z : Nat) : Int) = va + vb := by rw [Int.add_mul, sa, sb]
  have hM : (A + B).natAbs * 2 ^ z = (va + vb).natAbs := by rw [← hS, Int.natAbs_mul]; rfl
  obtain ⟨f1, f2, r, f3, -, -, f4⟩ := near_V (if A + B = 0 then s && t else decide (A + B < 0)) (A + B).natAbs (-1074 + (z : Int)) 0 z N hN (by omega) (by rw [hM]; exact hE)
  obtain ⟨g1, g2⟩ := f4 (Nat.zero_le _)
  rw [Nat.pow_zero, Nat.mul_one] at g1 g2
  refine ⟨f1, f2, ?_⟩
  by_cases h0 : A + B = 0
  · have hr : r = 0 := by
      rw [h0] at g1
      simp only [Int.natAbs_zero, Nat.zero_mul] at g1
      omega
    have : va + vb = 0 := by rw [← hS, h0, Int.zero_mul]
    rw [this, f3, hr]
    cases (if A + B = 0 then s && t else decide (A + B < 0)) <;> simp
  · rw [if_neg h0] at f3 ⊢
    exact lin_sum (A + B) _ _ r _ rfl _ f3 _ (2 ^ z) rfl (pow2_pos z) hS rfl g1 g2

theorem add_spec (a b N : Nat) (hN : N = 2097) (ha : finB a = true) (hb : finB b = true) (hE : (V a + V b).natAbs < 2 ^ N) :
    ∃ r, double.add a b = some r ∧ finB r = true ∧ r < 18446744073709551616 ∧ 9007199254740992 * (V r - (V a + V b)).natAbs ≤ (V a + V b).natAbs := by
  obtain ⟨m, p, e1, e2, -⟩ := read_fin a ha
  obtain ⟨n, q, e3, e4, -⟩ := read_fin b hb
  exact sum_spec _ _ _ _ m n p q (V a) (V b) N hN e1 e3 (V_mk a m p e2) (V_mk b n q e4) hE

theorem sub_spec (a b N : Nat) (hN : N = 2097) (ha : finB a = true) (hb : finB b = true) (hE : (V a - V b).natAbs < 2 ^ N) :
    ∃ r, double.sub a b = some r ∧ finB r = true ∧ r < 18446744073709551616 ∧ 9007199254740992 * (V r - (V a - V b)).natAbs ≤ (V a - V b).natAbs := by
  obtain ⟨m, p, e1, e2, -⟩ := read_fin a ha
  obtain ⟨n, q, e3, e4, -⟩ := read_fin b hb
  have e5 : (double.read b).opposite = .number (!negB b) n (-1074 + (q : Int)) := by rw [e3]; rfl
  have hv : - V b = if (!negB b) then - ((n * 2 ^ q : Nat) : Int) else ((n * 2 ^ q : Nat) : Int) := by
    rw [V_mk b n q e4]
    cases negB b <;> simp
  rw [Int.sub_eq_add_neg] at hE ⊢
  exact sum_spec _ _ _ _ m n p q (V a) (- V b) N hN e1 e5 (V_mk a m p e2) hv hE


theorem mul_spec (a b D N : Nat) (hN : N = 2097) (hD : D = 1074) (ha : finB a = true) (hb : finB b = true) (hE : (V a * V b).natAbs < 2 ^ (N + D)) :
    ∃ r, double.mul a b = some r ∧ finB r = true ∧ r < 18446744073709551616 ∧
      9007199254740992 * ((V r).natAbs * 2 ^ D) ≤ 9007199254740992 * (V a * V b).natAbs + (V a * V b).natAbs + 4503599627370496 * 2 ^ D ∧
      9007199254740992 * (V a * V b).natAbs ≤ 9007199254740992 * ((V r).natAbs * 2 ^ D) + (V a * V b).natAbs + 4503599627370496 * 2 ^ D := by
  obtain ⟨m, p, e1, e2, -⟩ := read_fin a ha
  obtain ⟨n, q, e3, e4, -⟩ := read_fin b hb
  have va := V_mk a m p e2
  have vb := V_mk b n q e4
  have hA : (V a).natAbs = m * 2 ^ p := by rw [va]; split <;> simp only [Int.natAbs_neg, Int.natAbs_natCast]
  have hB : (V b).natAbs = n * 2 ^ q := by rw [vb]; split <;> simp only [Int.natAbs_neg, Int.natAbs_natCast]
  have hM : m * n * 2 ^ (p + q) = (V a * V b).natAbs := by
    rw [Int.natAbs_mul, hA, hB, Nat.pow_add]
    rw [Nat.mul_assoc m n, Nat.mul_assoc m (2 ^ p), Nat.mul_left_comm n]
  unfold Format.mul
  rw [e1, e3]
  refine ⟨_, rfl, ?_⟩
  show finB (double.nearest _ _ _) = true ∧ double.nearest _ _ _ < _ ∧ 9007199254740992 * ((V (double.nearest _ _ _)).natAbs * _) ≤ _ ∧ _ ≤ 9007199254740992 * ((V (double.nearest _ _ _)).natAbs * _) + _ + _
  obtain ⟨f1, f2, r, f3, f4, f5, -⟩ := near_V (negB a ^^ negB b) (m * n) (-1074 + (p : Int) + (-1074 + (q : Int))) D (p + q) N hN (by rw [hD]; omega) (by rw [hM]; exact hE)
  rw [hM] at f4 f5
  have hr : (V (double.nearest (negB a ^^ negB b) (m * n) (-1074 + (p : Int) + (-1074 + (q : Int))))).natAbs = r := by
    rw [f3]; split <;> simp only [Int.natAbs_neg, Int.natAbs_natCast]
  rw [hr]
  exact ⟨f1, f2, f4, f5⟩

theorem cmp_scale (x y : Int) (z : Nat) (hz : 0 < z) : compare x y = compare (x * (z : Int)) (y * (z : Int)) := by
  have hz' : (0 : Int) < (z : Int) := by omega
  show compareOfLessAndEq _ _ = compareOfLessAndEq _ _
  unfold compareOfLessAndEq
  by_cases h1 : x < y
  · rw [if_pos h1, if_pos (Int.mul_lt_mul_of_pos_right h1 hz')]
  · rw [if_neg h1, if_neg (fun h => h1 (Int.lt_of_mul_lt_mul_right h (Int.le_of_lt hz')))]
    by_cases h2 : x = y
    · rw [if_pos h2, if_pos (by rw [h2])]
    · rw [if_neg h2, if_neg (fun h => h2 (Int.eq_of_mul_eq_mul_right (by omega) h))]

theorem order_fin (a b : Nat) (ha : finB a = true) (hb : finB b = true) : double.order a b = some (compare (V a) (V b)) := by
  obtain ⟨m, p, e1, e2, -⟩ := read_fin a ha
  obtain ⟨n, q, e3, e4, -⟩ := read_fin b hb
  unfold Format.order
  rw [e1, e3]
  show some (compare _ _) = _
  have hbm : min (-1074 + (p : Int)) (-1074 + (q : Int)) = -1074 + ((min p q : Nat) : Int) := by omega
  rw [hbm]
  have hu : (-1074 + (p : Int) - (-1074 + ((min p q : Nat) : Int))).toNat = p - min p q := by omega
  have hw : (-1074 + (q : Int) - (-1074 + ((min p q : Nat) : Int))).toNat = q - min p q := by omega
  rw [hu, hw, cmp_scale _ _ (2 ^ min p q) (pow2_pos _), signed_scale _ m _ _ p (by omega), signed_scale _ n _ _ q (by omega), ← V_mk a m p e2, ← V_mk b n q e4]

theorem order_refl (a : Nat) (ha : finB a = true) : double.order a a = some .eq := by
  rw [order_fin a a ha ha]
  show some (compareOfLessAndEq _ _) = _
  unfold compareOfLessAndEq
  rw [if_neg (Int.lt_irrefl _), if_pos rfl]

/-- a finite float of at most that amount -/
def bd (x n : Nat) : Prop := finB x = true ∧ (V x).natAbs ≤ 2 ^ n

theorem add_bd {a b n : Nat} (ha : bd a n) (hb : bd b n) (hn : n ≤ 2090) : ∃ r, double.add a b = some r ∧ r < 18446744073709551616 ∧ bd r (n + 2) := by
  obtain ⟨a1, a2⟩ := ha
  obtain ⟨b1, b2⟩ := hb
  have h4 : 2 ^ (n + 2) = 4 * 2 ^ n := by rw [Nat.pow_add, Nat.mul_comm]
  have hl : ∀ N, N = 2097 → 2 ^ (n + 2) ≤ 2 ^ N := fun N h => Nat.pow_le_pow_right (by decide) (by omega)
  have hp := pow2_pos n
  obtain ⟨N, hN⟩ : ∃ N, N = 2097 := ⟨_, rfl⟩
  have hl' := hl N hN
  obtain ⟨r, e, r1, r2, r3⟩ := add_spec a b N hN a1 b1 (by omega)
  exact ⟨r, e, r2, r1, by rw [h4]; omega⟩

theorem sub_bd {a b n : Nat} (ha : bd a n) (hb : bd b n) (hn : n ≤ 2090) : ∃ r, double.sub a b = some r ∧ r < 18446744073709551616 ∧ bd r (n + 2) := by
  obtain ⟨a1, a2⟩ := ha
  obtain ⟨b1, b2⟩ := hb
  have h4 : 2 ^ (n + 2) = 4 * 2 ^ n := by rw [Nat.pow_add, Nat.mul_comm]
  have hl : ∀ N, N = 2097 → 2 ^ (n + 2) ≤ 2 ^ N := fun N h => Nat.pow_le_pow_right (by decide) (by omega)
  have hp := pow2_pos n
  obtain ⟨N, hN⟩ : ∃ N, N = 2097 := ⟨_, rfl⟩
  have hl' := hl N hN
  obtain ⟨r, e, r1, r2, r3⟩ := sub_spec a b N hN a1 b1 (by omega)
  exact ⟨r, e, r2, r1, by rw [h4]; omega⟩

theorem bd.mono {a m n : Nat} (h : bd a m) (hmn : m ≤ n) : bd a n := ⟨h.1, Nat.le_trans h.2 (Nat.pow_le_pow_right (by decide) hmn)⟩

theorem lin_mul (v e z y : Nat) (h : 9007199254740992 * (v * z) ≤ 9007199254740992 * e + e + 4503599627370496 * z) (he : e ≤ y * z) (hy : 1 ≤ y) (hz : 0 < z) : v ≤ y * 2 := by
  refine Nat.le_of_not_lt fun hlt => ?_
  have h1 : (y * 2 + 1) * z ≤ v * z := Nat.mul_le_mul_right _ hlt
  have h2 : (y * 2 + 1) * z = 2 * (y * z) + z := by rw [Nat.add_mul, Nat.one_mul, Nat.mul_comm y 2, Nat.mul_assoc]
  have h3 : z ≤ y * z := Nat.le_mul_of_pos_left z hy
  omega

theorem mul_bd {a b m n k : Nat} (ha : bd a m) (hb : bd b n) (hk : m + n = k + 1074) (hn : k ≤ 2090) : ∃ r, double.mul a b = some r ∧ r < 18446744073709551616 ∧ bd r (k + 1) := by
  obtain ⟨a1, a2⟩ := ha
  obtain ⟨b1, b2⟩ := hb
  obtain ⟨N, hN⟩ : ∃ N, N = 2097 := ⟨_, rfl⟩
  obtain ⟨D, hD⟩ : ∃ D, D = 1074 := ⟨_, rfl⟩
  have hE : (V a * V b).natAbs ≤ 2 ^ k * 2 ^ D := by
    rw [Int.natAbs_mul, ← Nat.pow_add, hD, ← hk, Nat.pow_add]
    exact Nat.mul_le_mul a2 b2
  have hlt : 2 ^ k * 2 ^ D < 2 ^ (N + D) := by
    rw [← Nat.pow_add]
    exact Nat.pow_lt_pow_right (by decide) (by omega)
  obtain ⟨r, e, r1, r2, r3, -⟩ := mul_spec a b D N hN hD a1 b1 (Nat.lt_of_le_of_lt hE hlt)
  refine ⟨r, e, r2, r1, ?_⟩
  rw [Nat.pow_succ]
  exact lin_mul _ _ _ _ r3 hE (pow2_pos k) (pow2_pos D)

/-- the operation with a finite answer -/
def fo (op : Go.BinOp) (x y : Nat) : Option Nat := (Go.floatBits op .f64 x y).bind fun r => if finB r then some r else none

theorem fo_add {a b n : Nat} (ha : bd a n) (hb : bd b n) (hn : n ≤ 2090) : ∃ r, fo .add a b = some r ∧ r < 18446744073709551616 ∧ bd r (n + 2) := by
  obtain ⟨r, e, h1, h2⟩ := add_bd ha hb hn
  refine ⟨r, ?_, h1, h2⟩
  show (double.add a b).bind _ = _
  rw [e]; show (if finB r then some r else none) = _; rw [if_pos h2.1]

theorem fo_sub {a b n : Nat} (ha : bd a n) (hb : bd b n) (hn : n ≤ 2090) : ∃ r, fo .sub a b = some r ∧ r < 18446744073709551616 ∧ bd r (n + 2) := by
  obtain ⟨r, e, h1, h2⟩ := sub_bd ha hb hn
  refine ⟨r, ?_, h1, h2⟩
  show (double.sub a b).bind _ = _
  rw [e]; show (if finB r then some r else none) = _; rw [if_pos h2.1]

theorem fo_mul {a b m n k : Nat} (ha : bd a m) (hb : bd b n) (hk : m + n = k + 1074) (hn : k ≤ 2090) : ∃ r, fo .mul a b = some r ∧ r < 18446744073709551616 ∧ bd r (k + 1) := by
  obtain ⟨r, e, h1, h2⟩ := mul_bd ha hb hk hn
  refine ⟨r, ?_, h1, h2⟩
  show (double.mul a b).bind _ = _
  rw [e]; show (if finB r then some r else none) = _; rw [if_pos h2.1]

end Go.Proofs.Ytlbaphijmonjoaa.EP
