/- What a right pair is goes by its first float, then by its second. -/
import Derived.Test.YtlbaphijmonjoaaDTp
import Derived.Lib.Small
namespace Go.Proofs.Ytlbaphijmonjoaa.Fp
open EP Ieee

theorem R_rn (T : Nat) (h : T ≠ 0) : R (rn T) = he T (T.log2 - 52) * 2 ^ (T.log2 - 52) := by
  obtain ⟨b1, b2⟩ := rn_bounds T h
  refine R_mk _ _ ?_ b1
  by_cases hk : T.log2 - 52 = 0
  · exact .inl hk
  · exact .inr (b2 (by omega))
theorem Rrn_mono (T T' : Nat) (h : T ≤ T') : R (rn T) ≤ R (rn T') := by
  by_cases h0 : T = 0
  · have : R (rn 0) = 0 := by decide
    rw [h0, this]
    exact Nat.zero_le _
  · have h0' : T' ≠ 0 := by omega
    have hl : T.log2 ≤ T'.log2 := (Nat.le_log2 h0').2 (Nat.le_trans (Nat.log2_self_le h0) h)
    have b1 := (rn_bounds T h0).1
    have b2 := (rn_bounds T' h0').2
    rw [R_rn T h0, R_rn T' h0']
    by_cases hk : T.log2 - 52 = T'.log2 - 52
    · rw [hk]
      exact Nat.mul_le_mul_right _ (he_mono _ _ _ h)
    · have b3 := b2 (by omega)
      have hlt : (T.log2 - 52) + 1 ≤ T'.log2 - 52 := by omega
      generalize T.log2 - 52 = k at *
      generalize T'.log2 - 52 = k' at *
      refine Nat.le_trans (Nat.mul_le_mul_right _ b1) (Nat.le_trans ?_ (Nat.mul_le_mul_right _ b3))
      have h1 := Nat.pow_le_pow_right (n := 2) (by decide) hlt
      rw [Nat.pow_succ] at h1
      omega
/-- A whole number of least units, rounded. -/
def G (E : Int) : Int := if E < 0 then - (R (rn E.natAbs) : Int) else (R (rn E.natAbs) : Int)
theorem G_mono (E E' : Int) (h : E ≤ E') : G E ≤ G E' := by
  unfold G
  by_cases h1 : E < 0
  · rw [if_pos h1]
    by_cases h2 : E' < 0
    · rw [if_pos h2]
      have := Rrn_mono E'.natAbs E.natAbs (by omega)
      omega
    · rw [if_neg h2]
      omega
  · rw [if_neg h1, if_neg (by omega)]
    have := Rrn_mono E.natAbs E'.natAbs (by omega)
    omega
theorem add_E (h l : Nat) (fh : finB h = true) (fl : finB l = true) (h0 : V h + V l ≠ 0) :
    double.add h l = some (double.word (decide (V h + V l < 0)) (min (rn (V h + V l).natAbs) 9218868437227405312)) := by
  obtain ⟨m, p, e1, e2, -⟩ := read_fin h fh
  obtain ⟨n, q, e3, e4, -⟩ := read_fin l fl
  have hva := V_mk h m p e2
  have hvb := V_mk l n q e4
  unfold Format.add
  rw [e1, e3]
  show some (double.nearest (if signed (negB h) m _ + signed (negB l) n _ = 0 then negB h && negB l else decide (signed (negB h) m _ + signed (negB l) n _ < 0)) (signed (negB h) m _ + signed (negB l) n _).natAbs _) = _
  have hb : min (-1074 + (p : Int)) (-1074 + (q : Int)) = -1074 + ((min p q : Nat) : Int) := by omega
  rw [hb]
  have hu : (-1074 + (p : Int) - (-1074 + ((min p q : Nat) : Int))).toNat = p - min p q := by omega
  have hw : (-1074 + (q : Int) - (-1074 + ((min p q : Nat) : Int))).toNat = q - min p q := by omega
  rw [hu, hw]
  have sa := signed_scale (negB h) m (p - min p q) (min p q) p (by omega)
  have sb := signed_scale (negB l) n (q - min p q) (min p q) q (by omega)
  rw [← hva] at sa
  rw [← hvb] at sb
  generalize signed (negB h) m (p - min p q) = A at *
  generalize signed (negB l) n (q - min p q) = B at *
  generalize min p q = z at *
  have hS : (A + B) * ((2 ^ z : Nat) : Int) = V h + V l := by rw [Int.add_mul, sa, sb]
  have hM : (A + B).natAbs * 2 ^ z = (V h + V l).natAbs := by rw [← hS, Int.natAbs_mul]; rfl
  have hz : (0 : Int) < ((2 ^ z : Nat) : Int) := by have := pow2_pos z; omega
  have hn : A + B ≠ 0 := fun q => h0 (by rw [← hS, q, Int.zero_mul])
  have hd : decide (A + B < 0) = decide (V h + V l < 0) := by
    rw [Bool.eq_iff_iff, decide_eq_true_eq, decide_eq_true_eq, ← hS]
    constructor
    · intro g
      exact Int.mul_neg_of_neg_of_pos g hz
    · intro g
      refine Int.lt_of_not_ge fun k => ?_
      have := Int.mul_nonneg k (Int.le_of_lt hz)
      omega
  rw [if_neg hn, hd, nearest_rn _ _ _ (by omega), hM]
theorem right_G (h l : Nat) (hr : rightP h l = true) : V h = G (V h + V l) := by
  obtain ⟨fh, fl, b1, b2, -⟩ := right_PB h l hr
  unfold rightP at hr
  cases hz : isZ h with
  | true =>
    rw [hz, if_pos rfl] at hr
    rw [(zero_V h hz).2, (zero_V l hr).2]
    decide
  | false =>
    rw [hz, if_neg (by simp), Bool.and_eq_true, Bool.and_eq_true] at hr
    have hs := hr.2.2
    unfold sumEq at hs
    by_cases h0 : V h + V l = 0
    · obtain ⟨N, hN⟩ : ∃ N : Nat, N = 2097 := ⟨_, rfl⟩
      obtain ⟨r, e1, e2, -, e4⟩ := add_spec h l N hN fh fl (by rw [h0]; exact pow2_pos _)
      rw [e1] at hs
      have := order_eq_V r h e2 fh (by simpa using hs)
      rw [h0] at e4 ⊢
      have hg : G 0 = 0 := by decide
      rw [hg]
      simp only [Int.natAbs_zero, Int.sub_zero] at e4
      omega
    · rw [add_E h l fh fl h0] at hs
      have hs' : double.order (double.word (decide (V h + V l < 0)) (min (rn (V h + V l).natAbs) 9218868437227405312)) h = some .eq := by simpa using hs
      by_cases hi : rn (V h + V l).natAbs < 9218868437227405312
      · rw [Nat.min_eq_left (by omega)] at hs'
        obtain ⟨w1, w2, -⟩ := word_V (decide (V h + V l < 0)) _ hi
        have := order_eq_V _ h w1 fh hs'
        refine this.symm.trans ?_
        rw [w2]
        unfold G
        by_cases hn : V h + V l < 0
        · rw [decide_eq_true hn, if_pos rfl, if_pos hn]
        · rw [decide_eq_false hn, if_neg (by simp), if_neg hn]
      · rw [Nat.min_eq_right (by omega)] at hs'
        exfalso
        have hw : finB (double.word (decide (V h + V l < 0)) 9218868437227405312) = false := by cases decide (V h + V l < 0) <;> decide
        rcases order_wild _ h hw fh with k | k
        · rw [k] at hs'; cases hs'
        · rw [k] at hs'
          revert hs'
          cases negB (double.word (decide (V h + V l < 0)) 9218868437227405312) <;> simp
theorem lex_order (h1 l1 h2 l2 : Nat) (r1 : rightP h1 l1 = true) (r2 : rightP h2 l2 = true) :
    (if Lib.compareInt (V h1) (V h2) ≠ 0 then Lib.compareInt (V h1) (V h2) else Lib.compareInt (V l1) (V l2)) = Lib.compareInt (V h1 + V l1) (V h2 + V l2) := by
  have g1 := right_G h1 l1 r1
  have g2 := right_G h2 l2 r2
  have m1 := G_mono (V h1 + V l1) (V h2 + V l2)
  have m2 := G_mono (V h2 + V l2) (V h1 + V l1)
  rw [← g1, ← g2] at m1 m2
  unfold Lib.compareInt
  by_cases a : V h1 < V h2
  · have : V h1 + V l1 < V h2 + V l2 := by
      refine Int.lt_of_not_ge fun k => ?_
      have := m2 k
      omega
    simp [a, this]
  · by_cases b : V h2 < V h1
    · have hb : V h2 + V l2 < V h1 + V l1 := by
        refine Int.lt_of_not_ge fun k => ?_
        have := m1 k
        omega
      have hc : ¬ V h1 + V l1 < V h2 + V l2 := by omega
      simp [a, b, hb, hc]
    · have e : V h1 = V h2 := by omega
      have e1 : (V h1 + V l1 < V h2 + V l2) ↔ V l1 < V l2 := by omega
      have e2 : (V h1 + V l1 > V h2 + V l2) ↔ V l1 > V l2 := by omega
      simp only [e1, e2]
      rw [if_neg a, if_neg (show ¬ V h1 > V h2 from b)]
      simp
end Go.Proofs.Ytlbaphijmonjoaa.Fp
