/- One operation on floats, as rounding in least units. -/
import Derived.Test.YtiibjhemljkgbaaESz
namespace Go.Proofs.Ytiibjhemljkgbaa.Fp
open EP Ieee

theorem sum_E (da db : Datum) (s t : Bool) (m n p q : Nat) (va vb : Int)
    (ea : da = .number s m (-1074 + (p : Int))) (eb : db = .number t n (-1074 + (q : Int)))
    (hva : va = if s then - ((m * 2 ^ p : Nat) : Int) else ((m * 2 ^ p : Nat) : Int))
    (hvb : vb = if t then - ((n * 2 ^ q : Nat) : Int) else ((n * 2 ^ q : Nat) : Int)) (h0 : va + vb ≠ 0) :
    (da.sum db).map double.write = some (double.word (decide (va + vb < 0)) (min (rn (va + vb).natAbs) 9218868437227405312)) := by
  subst ea eb
  show some (double.nearest (if signed s m _ + signed t n _ = 0 then s && t else decide (signed s m _ + signed t n _ < 0)) (signed s m _ + signed t n _).natAbs _) = _
  have hb : min (-1074 + (p : Int)) (-1074 + (q : Int)) = -1074 + ((min p q : Nat) : Int) := by omega
  rw [hb]
  have hu : (-1074 + (p : Int) - (-1074 + ((min p q : Nat) : Int))).toNat = p - min p q := by omega
  have hw : (-1074 + (q : Int) - (-1074 + ((min p q : Nat) : Int))).toNat = q - min p q := by omega
  rw [hu, hw]
  have sa := signed_scale s m (p - min p q) (min p q) p (by omega)
  have sb := signed_scale t n (q - min p q) (min p q) q (by omega)
  rw [← hva] at sa
  rw [← hvb] at sb
  generalize signed s m (p - min p q) = A at *
  generalize signed t n (q - min p q) = B at *
  generalize min p q = z at *
  have hS : (A + B) * ((2 ^ z : Nat) : Int) = va + vb := by rw [Int.add_mul, sa, sb]
  have hM : (A + B).natAbs * 2 ^ z = (va + vb).natAbs := by rw [← hS, Int.natAbs_mul]; rfl
  have hz : (0 : Int) < ((2 ^ z : Nat) : Int) := by have := pow2_pos z; omega
  have hn : A + B ≠ 0 := fun q => h0 (by rw [← hS, q, Int.zero_mul])
  have hd : decide (A + B < 0) = decide (va + vb < 0) := by
    rw [Bool.eq_iff_iff, decide_eq_true_eq, decide_eq_true_eq, ← hS]
    constructor
    · intro g
      exact Int.mul_neg_of_neg_of_pos g hz
    · intro g
      refine Int.lt_of_not_ge fun k => ?_
      have := Int.mul_nonneg k (Int.le_of_lt hz)
      omega
  rw [if_neg hn, hd, nearest_rn _ _ _ (by omega), hM]
/-- a finite word of that rung is what is rounded to -/
theorem word_G (E : Int) (hf : finB (double.word (decide (E < 0)) (min (rn E.natAbs) 9218868437227405312)) = true) : V (double.word (decide (E < 0)) (min (rn E.natAbs) 9218868437227405312)) = G E := by
  by_cases hi : rn E.natAbs < 9218868437227405312
  · rw [Nat.min_eq_left (by omega)]
    rw [(word_V (decide (E < 0)) _ hi).2.1]
    unfold G
    by_cases hn : E < 0
    · rw [decide_eq_true hn, if_pos rfl, if_pos hn]
    · rw [decide_eq_false hn, if_neg (by simp), if_neg hn]
  · rw [Nat.min_eq_right (by omega)] at hf
    exfalso
    revert hf
    cases decide (E < 0) <;> decide
theorem sum_G (da db : Datum) (s t : Bool) (m n p q : Nat) (va vb : Int) (N : Nat) (hN : N = 2097)
    (ea : da = .number s m (-1074 + (p : Int))) (eb : db = .number t n (-1074 + (q : Int)))
    (hva : va = if s then - ((m * 2 ^ p : Nat) : Int) else ((m * 2 ^ p : Nat) : Int))
    (hvb : vb = if t then - ((n * 2 ^ q : Nat) : Int) else ((n * 2 ^ q : Nat) : Int)) (hE : (va + vb).natAbs < 2 ^ N) :
    ∃ r, (da.sum db).map double.write = some r ∧ finB r = true ∧ r < 18446744073709551616 ∧ V r = G (va + vb) := by
  obtain ⟨r, e1, e2, e3, e4⟩ := sum_spec da db s t m n p q va vb N hN ea eb hva hvb hE
  refine ⟨r, e1, e2, e3, ?_⟩
  by_cases h0 : va + vb = 0
  · rw [h0] at e4 ⊢
    have hg : G 0 = 0 := by decide
    rw [hg]
    simp only [Int.natAbs_zero, Int.sub_zero] at e4
    omega
  · have := sum_E da db s t m n p q va vb ea eb hva hvb h0
    rw [this] at e1
    obtain rfl := Option.some.inj e1
    exact word_G _ e2
theorem add_G (a b N : Nat) (hN : N = 2097) (ha : finB a = true) (hb : finB b = true) (hE : (V a + V b).natAbs < 2 ^ N) :
    ∃ r, double.add a b = some r ∧ finB r = true ∧ r < 18446744073709551616 ∧ V r = G (V a + V b) := by
  obtain ⟨m, p, e1, e2, -⟩ := read_fin a ha
  obtain ⟨n, q, e3, e4, -⟩ := read_fin b hb
  exact sum_G _ _ _ _ m n p q (V a) (V b) N hN e1 e3 (V_mk a m p e2) (V_mk b n q e4) hE
theorem sub_G (a b N : Nat) (hN : N = 2097) (ha : finB a = true) (hb : finB b = true) (hE : (V a - V b).natAbs < 2 ^ N) :
    ∃ r, double.sub a b = some r ∧ finB r = true ∧ r < 18446744073709551616 ∧ V r = G (V a - V b) := by
  obtain ⟨m, p, e1, e2, -⟩ := read_fin a ha
  obtain ⟨n, q, e3, e4, -⟩ := read_fin b hb
  have e5 : (double.read b).opposite = .number (!negB b) n (-1074 + (q : Int)) := by rw [e3]; rfl
  have hv : - V b = if (!negB b) then - ((n * 2 ^ q : Nat) : Int) else ((n * 2 ^ q : Nat) : Int) := by
    rw [V_mk b n q e4]
    cases negB b <;> simp
  rw [Int.sub_eq_add_neg] at hE ⊢
  exact sum_G _ _ _ _ m n p q (V a) (- V b) N hN e1 e5 (V_mk a m p e2) hv hE
/-- a float's own value is a float -/
theorem V_fl (x : Nat) (h : finB x = true) : Fl (V x) := by
  have hx : x % 9223372036854775808 < 9218868437227405312 := of_decide_eq_true h
  have hR : Fl ((R (x % 9223372036854775808) : Nat) : Int) := by
    generalize x % 9223372036854775808 = r at *
    unfold R
    split
    · exact ⟨r, 0, by rw [Int.natAbs_natCast, Nat.pow_zero, Nat.mul_one], by omega⟩
    · exact ⟨_, _, by rw [Int.natAbs_natCast], by omega⟩
  unfold V
  split
  · exact fl_neg hR
  · exact hR
/-- A product whose last bit is no less than the least number's. -/
theorem mul_G (a b : Nat) (D N : Nat) (hN : N = 2097) (hD : D = 1074) (ha : finB a = true) (hb : finB b = true) (Q : Int) (hQ : V a * V b = Q * ((2 ^ D : Nat) : Int)) (hlow : ∀ m p n q : Nat, m * 2 ^ p = (V a).natAbs → n * 2 ^ q = (V b).natAbs → double.read a = .number (negB a) m (-1074 + (p : Int)) → double.read b = .number (negB b) n (-1074 + (q : Int)) → D ≤ p + q) (hE : Q.natAbs < 2 ^ N) :
    ∃ r, double.mul a b = some r ∧ finB r = true ∧ r < 18446744073709551616 ∧ V r = G Q := by
  have hE2 : (V a * V b).natAbs < 2 ^ (N + D) := by
    rw [hQ, Int.natAbs_mul, Int.natAbs_natCast, Nat.pow_add]
    exact Nat.mul_lt_mul_of_pos_right hE (pow2_pos D)
  obtain ⟨r, e1, e2, e3, e4, -⟩ := mul_spec a b D N hN hD ha hb hE2
  refine ⟨r, e1, e2, e3, ?_⟩
  obtain ⟨m, p, r1, r2, -⟩ := read_fin a ha
  obtain ⟨n, q, r3, r4, -⟩ := read_fin b hb
  have va := V_mk a m p r2
  have vb := V_mk b n q r4
  have hA : (V a).natAbs = m * 2 ^ p := by rw [va]; split <;> simp only [Int.natAbs_neg, Int.natAbs_natCast]
  have hB : (V b).natAbs = n * 2 ^ q := by rw [vb]; split <;> simp only [Int.natAbs_neg, Int.natAbs_natCast]
  have hz := hlow m p n q hA.symm hB.symm r1 r3
  have hM : m * n * 2 ^ (p + q) = Q.natAbs * 2 ^ D := by
    have : (V a * V b).natAbs = Q.natAbs * 2 ^ D := by rw [hQ, Int.natAbs_mul, Int.natAbs_natCast]
    rw [← this, Int.natAbs_mul, hA, hB, Nat.pow_add]
    rw [Nat.mul_assoc m n, Nat.mul_assoc m (2 ^ p), Nat.mul_left_comm n]
  have hT : m * n * 2 ^ (p + q - D) = Q.natAbs := by
    rw [show p + q = (p + q - D) + D by omega, Nat.pow_add, ← Nat.mul_assoc] at hM
    exact Nat.eq_of_mul_eq_mul_right (pow2_pos D) hM
  unfold Format.mul at e1
  rw [r1, r3] at e1
  have e5 : some (double.nearest (negB a ^^ negB b) (m * n) (-1074 + (p : Int) + (-1074 + (q : Int)))) = some r := e1
  obtain rfl := Option.some.inj e5
  by_cases h0 : m * n = 0
  · have hq0 : Q = 0 := by rw [h0, Nat.zero_mul] at hT; omega
    rw [hq0]
    have hg : G 0 = 0 := by decide
    rw [hg, h0]
    unfold Format.nearest
    rw [if_pos rfl]
    cases negB a ^^ negB b <;> decide
  · have hpl : -1074 + (p : Int) + (-1074 + (q : Int)) = -1074 + ((p + q - D : Nat) : Int) := by omega
    rw [hpl, nearest_rn _ _ _ h0, hT] at e2 ⊢
    have hs : (negB a ^^ negB b) = decide (Q < 0) := by
      have hQ0 : Q ≠ 0 := fun z => h0 (by rw [z] at hT; simp only [Int.natAbs_zero] at hT; rcases Nat.mul_eq_zero.1 hT with k | k; exact k; have := pow2_pos (p + q - D); omega)
      have hm : m ≠ 0 := fun z => h0 (by rw [z, Nat.zero_mul])
      have hn : n ≠ 0 := fun z => h0 (by rw [z, Nat.mul_zero])
      have hmp : 0 < m * 2 ^ p := Nat.mul_pos (by omega) (pow2_pos p)
      have hnp : 0 < n * 2 ^ q := Nat.mul_pos (by omega) (pow2_pos q)
      have hDp : (0 : Int) < ((2 ^ D : Nat) : Int) := by have := pow2_pos D; omega
      generalize m * 2 ^ p = x at *
      generalize n * 2 ^ q = y at *
      have hxy : (0 : Int) < (x : Int) * (y : Int) := Int.mul_pos (by omega) (by omega)
      rw [va, vb] at hQ
      by_cases hq : Q < 0
      · have h1 := Int.mul_neg_of_neg_of_pos hq hDp
        rw [decide_eq_true hq, ← hQ] at *
        revert h1
        cases negB a <;> cases negB b <;> simp [Int.neg_mul, Int.mul_neg] <;> omega
      · have h1 := Int.mul_pos (show 0 < Q by omega) hDp
        rw [decide_eq_false hq]
        rw [← hQ] at h1
        revert h1
        cases negB a <;> cases negB b <;> simp [Int.neg_mul, Int.mul_neg] <;> omega
    rw [hs] at e2 ⊢
    exact word_G Q e2
end Go.Proofs.Ytiibjhemljkgbaa.Fp
