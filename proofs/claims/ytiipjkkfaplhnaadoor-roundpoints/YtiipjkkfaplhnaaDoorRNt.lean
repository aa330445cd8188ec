/- Tiny numbers: the program's question and the document's are one; the flags of a rounding. -/
import Derived.Test.YtiipjkkfaplhnaaDoorRN0
import Derived.Test.YtiipjkkfaplhnaaDoorDVal
namespace Go.Proofs.YtiipjkkfaplhnaaDoor
open Go.RowKit

/-- is a number below 2^-1022 - 2^-1076 in its amount? the program's question, the document's -/
def tinyP (m : Nat) (e : Int) : Bool := decide (cmpD (formD false m e) (formD false 18014398509481983 (-1076)) < 0)
def tinyQ (m : Nat) (e : Int) : Bool := if m = 0 then false else if -1022 < tpI m e + 1 then false else if tpI m e + 1 < -1022 then true else decide (blen (rd2 m (-1075 - e)) ≤ 53)
theorem cmp_neg (x y : Int) : (Lib.compareInt x y < 0) ↔ x < y := by
  unfold Lib.compareInt
  split
  · simp_all
  · split <;> simp_all
theorem form_lo (s : Bool) (m : Nat) (e K : Int) (h : K ≤ e) (h0 : K ≤ 0) : K ≤ (formD s m e).2.2 := by
  unfold formD
  split
  · exact h0
  · show K ≤ e + (tz m : Int); omega
theorem tiny_num (m : Nat) (e : Int) (K : Nat) (hK : 32768 ≤ K) (he : -32768 ≤ e) : tinyP m e = decide (m * 2 ^ (e + K).toNat < 18014398509481983 * 2 ^ (K - 1076)) := by
  unfold tinyP
  rw [vI_cmp _ _ K (form_lo _ _ _ _ (by omega) (by omega)) (form_lo _ _ _ _ (by omega) (by omega)), decide_eq_decide, cmp_neg]
  rw [vI_form _ _ _ _ (by omega), vI_form _ _ _ _ (by omega)]
  rw [show (e - -(K : Int)).toNat = (e + K).toNat by omega, show ((-1076 : Int) - -(K : Int)).toNat = K - 1076 by omega]
  unfold sI
  rw [if_neg (by decide)]
  omega
theorem tiny_same (m : Nat) (e : Int) (he : -32768 ≤ e) (h0 : m ≠ 0) : tinyP m e = tinyQ m e := by
  obtain ⟨K, hK⟩ : ∃ K : Nat, K = 32768 := ⟨_, rfl⟩
  rw [tiny_num m e K (by omega) he]
  unfold tinyQ
  rw [if_neg h0]
  have hb : blen m ≠ 0 := fun q => h0 ((blen_nil m).1 q)
  have hlo := blen_ge m h0
  have hhi := lt_blen m
  by_cases c1 : -1022 < tpI m e + 1
  · rw [if_pos c1]
    unfold tpI at c1
    refine decide_eq_false (Nat.not_lt.2 ?_)
    refine Nat.le_trans ?_ (Nat.mul_le_mul_right _ hlo)
    rw [← Nat.pow_add]
    refine Nat.le_trans (Nat.mul_le_mul_right _ (show 18014398509481983 ≤ 2 ^ 54 by decide)) ?_
    rw [← Nat.pow_add]
    exact Nat.pow_le_pow_right (by decide) (by omega)
  · rw [if_neg c1]
    by_cases c2 : tpI m e + 1 < -1022
    · rw [if_pos c2]
      unfold tpI at c2
      refine decide_eq_true ?_
      have h1 : m * 2 ^ (e + K).toNat < 2 ^ (blen m) * 2 ^ (e + K).toNat := Nat.mul_lt_mul_of_pos_right hhi (Nat.two_pow_pos _)
      rw [← Nat.pow_add] at h1
      refine Nat.lt_of_lt_of_le h1 (Nat.le_trans ?_ (Nat.mul_le_mul_right _ (show 2 ^ 53 ≤ 18014398509481983 by decide)))
      rw [← Nat.pow_add]
      exact Nat.pow_le_pow_right (by decide) (by omega)
    · rw [if_neg c2, decide_eq_decide]
      have ht : tpI m e = -1023 := by omega
      unfold tpI at ht
      have hq : blen (rd2 m (-1075 - e)) ≤ 53 ↔ rd2 m (-1075 - e) < 9007199254740992 := blen_le _ _
      rw [hq]
      have hf : fl2 m (-1075 - e) < 9007199254740992 := fl_lt m 53 (-1075 - e) (by omega)
      by_cases k0 : -1075 - e ≤ 0
      · have e1 : rd2 m (-1075 - e) = m * 2 ^ (e + 1075).toNat := by
          unfold rd2 up2 half2 fl2
          rw [if_pos k0, if_pos k0, show (-(-1075 - e)).toNat = (e + 1075).toNat by omega]
          simp
        have e2 : fl2 m (-1075 - e) = m * 2 ^ (e + 1075).toNat := by
          unfold fl2
          rw [if_pos k0, show (-(-1075 - e)).toNat = (e + 1075).toNat by omega]
        rw [e2] at hf
        rw [e1, show (e + K).toNat = (e + 1075).toNat + (K - 1075) by omega, Nat.pow_add, ← Nat.mul_assoc, show K - 1075 = (K - 1076) + 1 by omega, Nat.pow_succ, Nat.mul_comm (2 ^ (K - 1076)) 2, ← Nat.mul_assoc]
        refine ⟨fun _ => hf, fun _ => Nat.mul_lt_mul_of_pos_right (by omega) (Nat.two_pow_pos _)⟩
      · obtain ⟨n, hn⟩ : ∃ n : Nat, -1075 - e = (n : Int) + 1 := ⟨(-1075 - e - 1).toNat, by omega⟩
        rw [hn] at hf ⊢
        have f1 : fl2 m ((n : Int) + 1) = m / 2 ^ n / 2 := by
          unfold fl2
          rw [if_neg (by omega), show ((n : Int) + 1).toNat = n + 1 by omega, div_succ]
        have f2 : half2 m ((n : Int) + 1) = decide (m / 2 ^ n % 2 = 1) := by
          unfold half2
          rw [if_neg (by omega), show ((n : Int) + 1).toNat - 1 = n by omega, bit_div]
        have key : m / 2 ^ n < 18014398509481983 ↔ m < 18014398509481983 * 2 ^ n := Nat.div_lt_iff_lt_mul (Nat.two_pow_pos _)
        have e3 : m * 2 ^ (e + K).toNat < 18014398509481983 * 2 ^ (K - 1076) ↔ m < 18014398509481983 * 2 ^ n := by
          rw [show K - 1076 = n + (e + K).toNat by omega, Nat.pow_add, ← Nat.mul_assoc]
          exact Nat.mul_lt_mul_right (Nat.two_pow_pos _)
        rw [e3, ← key]
        unfold rd2 up2
        rw [f1] at hf ⊢
        rw [f2]
        generalize m / 2 ^ n = q at *
        by_cases g : q % 2 = 1
        · rw [decide_eq_true g]
          by_cases g2 : q / 2 % 2 = 1
          · rw [decide_eq_true g2]
            cases over2 m ((n : Int) + 1) <;> simp <;> omega
          · rw [decide_eq_false g2]
            cases over2 m ((n : Int) + 1) <;> simp <;> omega
        · rw [decide_eq_false g]
          simp
          omega
/-- what is rounded to an infinity is not tiny -/
theorem inf_tiny (m : Nat) (e : Int) (h : nearW m e = 9218868437227405312) : tinyQ m e = false := by
  unfold tinyQ
  split
  · rfl
  · rename_i h0
    rw [if_pos]
    unfold nearW at h
    rw [if_neg h0] at h
    split at h
    · omega
    · have a3 := M_lt m e
      unfold rd2 at h
      have : (up2 m (lsI m e - e)).toNat ≤ 1 := Bool.toNat_le _
      have : 1 ≤ lsI m e := by omega
      unfold lsI at this
      split at this <;> omega
/-- flags of a number that is rounded -/
def flagV (m : Nat) (e : Int) : Int := if exactB m e = true then 0 else if nearW m e = 9218868437227405312 then (if tinyP m e = true then 28 else 20) else (if tinyP m e = true then 24 else 16)
end Go.Proofs.YtiipjkkfaplhnaaDoor
