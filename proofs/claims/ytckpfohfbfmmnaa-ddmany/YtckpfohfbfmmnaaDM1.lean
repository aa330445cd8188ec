/- A float is rounded to itself; so which floats may be added is told alike by program and document. -/
import Derived.Test.YtckpfohfbfmmnaaDS3
import Derived.Test.YtckpfohfbfmmnaaDDC
namespace Go.Proofs.Ytckpfohfbfmmnaa
open EP

theorem cut_exact (neg : Bool) (c k : Nat) (hc : c ≠ 0) : Ieee.Toward.even.cut neg (c * 2 ^ k) k = c := by
  unfold Ieee.Toward.cut
  dsimp only
  have hn : c * 2 ^ k ≠ 0 := Nat.mul_ne_zero hc (by have := pow2_pos k; omega)
  have hl : k ≤ (c * 2 ^ k).log2 := (Nat.le_log2 hn).2 (Nat.le_mul_of_pos_left _ (by omega))
  have hm : min k ((c * 2 ^ k).log2 + 2) = k := by omega
  rw [hm, Nat.one_shiftLeft, Nat.mul_mod_left, Nat.mul_div_cancel _ (pow2_pos k)]
  have hp := pow2_pos k
  have h1 : decide (2 ^ k < 2 * 0) = false := decide_eq_false (by omega)
  have h2 : (2 ^ k == 2 * 0) = false := by rw [beq_eq_false_iff_ne]; omega
  rw [h1, h2]
  rfl
theorem log2_top (c k : Nat) (h1 : 4503599627370496 ≤ c) (h2 : c < 9007199254740992) : (c * 2 ^ k).log2 = 52 + k := by
  have hp := pow2_pos k
  have hn : c * 2 ^ k ≠ 0 := Nat.mul_ne_zero (by omega) (by omega)
  refine Nat.le_antisymm ?_ ?_
  · refine Nat.le_of_lt_succ ((Nat.log2_lt hn).2 ?_)
    rw [show (52 + k).succ = 53 + k by omega, Nat.pow_add]
    exact Nat.mul_lt_mul_of_pos_right (by omega) hp
  · refine (Nat.le_log2 hn).2 ?_
    rw [Nat.pow_add]
    exact Nat.mul_le_mul_right _ (by omega)
theorem nearest_R (neg : Bool) (r : Nat) (hr : r < 9218868437227405312) : Ieee.double.nearest neg (R r) (-1074) = Ieee.double.word neg r := by
  have hlp : Ieee.double.leastPlace = -1074 := by decide
  have hfb : (Ieee.double.fractionBits : Int) = 52 := by decide
  have hbi : Ieee.double.binade = 4503599627370496 := by decide
  have hir : Ieee.double.infRung = 9218868437227405312 := by decide
  by_cases h0 : R r = 0
  · have : r = 0 := R_zero r h0
    subst this
    rw [h0]
    unfold Ieee.Format.nearest
    rw [if_pos rfl]
  · obtain ⟨c, k, hR, hrk, hlast⟩ : ∃ c k : Nat, R r = c * 2 ^ k ∧ r = k * 4503599627370496 + c ∧ max (-1074 + ((R r).log2 : Int) - 52) (-1074) = -1074 + (k : Int) := by
      by_cases hs : r < 4503599627370496
      · have e : R r = r := by unfold R; rw [if_pos hs]
        refine ⟨r, 0, by rw [e, Nat.pow_zero, Nat.mul_one], by omega, ?_⟩
        rw [e] at h0 ⊢
        have : r.log2 < 52 := (Nat.log2_lt h0).2 (by omega)
        omega
      · have e : R r = (4503599627370496 + r % 4503599627370496) * 2 ^ (r / 4503599627370496 - 1) := by unfold R; rw [if_neg hs]
        refine ⟨4503599627370496 + r % 4503599627370496, r / 4503599627370496 - 1, e, by omega, ?_⟩
        rw [e, log2_top _ _ (by omega) (by omega)]
        omega
    unfold Ieee.Format.nearest
    rw [if_neg h0]
    dsimp only
    rw [hlp, hfb, hbi, hir, hlast]
    have e1 : (-1074 - (-1074 + (k : Int))).toNat = 0 := by omega
    have e2 : (-1074 + (k : Int) - -1074).toNat = k := by omega
    rw [e1, e2, Nat.shiftLeft_zero, hR, cut_exact neg c k (fun e => h0 (by rw [hR, e, Nat.zero_mul])), ← hrk, Nat.min_eq_left (by omega)]
theorem add_zero_V (x N : Nat) (hN : N = 2097) (fx : finB x = true) (hs : amt x < 2 ^ N) : ∃ r, Ieee.double.add x 0 = some r ∧ finB r = true ∧ V r = V x := by
  obtain ⟨m, p, e1, e2, -⟩ := read_fin x fx
  have e0 : Ieee.double.read 0 = .number false 0 (-1074) := by decide
  have hV := V_mk x m p e2
  have hxr : x % 9223372036854775808 < 9218868437227405312 := of_decide_eq_true fx
  obtain ⟨neg, e⟩ := sum_near (negB x) false m 0 (-1074 + (p : Int)) (-1074)
  have hb : min (-1074 + (p : Int)) (-1074 : Int) = -1074 := by omega
  have hu : (-1074 + (p : Int) - -1074).toNat = p := by omega
  have hz : (-1074 - -1074 : Int).toNat = 0 := by decide
  have ht : (Ieee.signed (negB x) m p + Ieee.signed false 0 0).natAbs = R (x % 9223372036854775808) := by
    rw [← e2]
    unfold Ieee.signed
    rw [Nat.shiftLeft_eq, Nat.shiftLeft_eq]
    cases negB x
    · simp only [Bool.false_eq_true, if_false, Nat.zero_mul]; omega
    · simp only [if_true, Bool.false_eq_true, if_false, Nat.zero_mul]; omega
  rw [hb, hu, hz, ht, nearest_R neg _ hxr] at e
  have ha : Ieee.double.add x 0 = some (Ieee.double.word neg (x % 9223372036854775808)) := by
    unfold Ieee.Format.add
    rw [e1, e0]
    exact e
  obtain ⟨w1, w2, -⟩ := word_V neg _ hxr
  have hv0 : V 0 = 0 := by decide
  obtain ⟨r', e', -, -, s⟩ := add_spec x 0 N hN fx (by decide) (by rw [hv0, Int.add_zero]; exact hs)
  rw [ha] at e'
  obtain rfl := Option.some.inj e'
  refine ⟨_, ha, w1, ?_⟩
  rw [hv0, Int.add_zero] at s
  have h3 : (V (Ieee.double.word neg (x % 9223372036854775808))).natAbs = (V x).natAbs := by
    rw [w2, hV, e2]
    split <;> split <;> simp
  generalize V (Ieee.double.word neg (x % 9223372036854775808)) = a at *
  generalize V x = b at *
  omega

/-- which floats may be added -/
def fltB (x : Nat) : Bool := if isZ x then true else le1 (absF x) && le2 (absF x)
theorem right0 (x : Nat) : rightP x 0 = fltB x := by
  unfold rightP fltB
  cases hz : isZ x with
  | true => rw [if_pos rfl, if_pos rfl]; decide
  | false =>
    rw [if_neg (by simp), if_neg (by simp)]
    cases h1 : le1 (absF x) with
    | false => rfl
    | true =>
      cases h2 : le2 (absF x) with
      | false => rfl
      | true =>
        have fx := fin_of_le2 x h2
        have fa : finB (absF x) = true := (absF_V x).2.trans fx
        have t1 := le_V (absF x) 5958262307011166208 fa (by decide) h2
        rw [(absF_V x).1, top_V] at t1
        have s1 : amt x ≤ 2 ^ 1374 := Int.ofNat_le.1 t1
        obtain ⟨N, hN⟩ : ∃ N, N = 2097 := ⟨_, rfl⟩
        obtain ⟨r, e, fr, vr⟩ := add_zero_V x N hN fx (Nat.lt_of_le_of_lt s1 (pow_lt2 1374 N (by omega)))
        have hs : sumEq x 0 = true := by
          unfold sumEq
          rw [e]
          show (Ieee.double.order r x == some .eq) = true
          rw [order_fin r x fr fx, vr]
          have : compare (V x) (V x) = .eq := by
            show compareOfLessAndEq (V x) (V x) = .eq
            unfold compareOfLessAndEq
            rw [if_neg (Int.lt_irrefl _), if_pos rfl]
          rw [this]; rfl
        rw [hs]; rfl
theorem flt_bd (x : Nat) (h : fltB x = true) : finB x = true ∧ amt x ≤ 2 ^ 1374 := by
  rw [← right0] at h
  have := right_PB x 0 h
  exact ⟨this.1, this.2.2.1⟩
end Go.Proofs.Ytckpfohfbfmmnaa
