/- What the document's order of two right pairs comes to. -/
import Derived.Test.YtmhddjacjomnbaaDF1T
import Derived.Test.YtmhddjacjomnbaaDVal
import Derived.Test.YtmhddjacjomnbaaRD19
import Derived.Test.YtmhddjacjomnbaaDT2
namespace Go.Proofs.Ytmhddjacjomnbaa
open Go.RowKit

theorem fin_eq (x : Nat) : finB (x : Int) = EP.finB x := by
  unfold finB EP.finB
  rw [Bool.eq_iff_iff, decide_eq_true_eq, decide_eq_true_eq]
  omega
theorem units_R (x : Nat) : (countV (x : Int)).toNat * 2 ^ (unitV (x : Int) - -1074).toNat = EP.R (x % 9223372036854775808) := by
  unfold EP.R countV unitV expV fracV
  by_cases h : (x : Int) / 4503599627370496 % 2048 = 0
  · rw [if_pos h, if_pos h, if_pos (by omega)]
    rw [show ((-1074 : Int) - -1074).toNat = 0 by decide, Nat.pow_zero, Nat.mul_one]
    omega
  · rw [if_neg h, if_neg h, if_neg (by omega)]
    have e1 : ((x : Int) / 4503599627370496 % 2048 - 1075 - -1074).toNat = x % 9223372036854775808 / 4503599627370496 - 1 := by omega
    have e2 : ((x : Int) % 4503599627370496 + 4503599627370496).toNat = 4503599627370496 + x % 9223372036854775808 % 4503599627370496 := by omega
    rw [e1]
    congr 1
theorem vI_from (x : Nat) (hx : x < 18446744073709551616) (fx : EP.finB x = true) : vI (fromP (x : Int)) (-1074) = EP.V x := by
  have hf : finB (x : Int) = true := (fin_eq x).trans fx
  unfold fromP
  rw [if_pos hf]
  unfold fromD
  rw [vI_form _ _ _ _ (unit_bd _).1, units_R x]
  unfold EP.V sI sgnB EP.negB
  by_cases h : 9223372036854775808 ≤ x
  · rw [decide_eq_true (show (9223372036854775808 : Int) ≤ (x : Int) by omega), if_pos rfl, show x / 9223372036854775808 % 2 = 1 by omega]
    simp
  · rw [decide_eq_false (show ¬ (9223372036854775808 : Int) ≤ (x : Int) by omega), if_neg (by simp), show x / 9223372036854775808 % 2 = 0 by omega]
    simp
def exP (h l : Nat) : Bool × Nat × Int := sumD (fromP (h : Int)) (fromP (l : Int))
theorem exP_len (h l : Nat) : (wordsOf (exP h l).2.1).length ≤ 1024 ∧ blen (exP h l).2.1 ≤ 65536 ∧ -32768 ≤ (exP h l).2.2 ∧ (exP h l).2.2 ≤ 32768 := by
  have h1 := (fr_sum_room (h : Int) (l : Int)).1
  unfold exP
  unfold roomE at h1
  split at h1
  · rename_i q
    unfold roomB at q
    rw [Bool.and_eq_true] at q
    have hb := (great_not _).1 (show greatB (sumD (fromP (h : Int)) (fromP (l : Int))).2.1 = false by simpa using q.1)
    exact ⟨(words_len2 _ _).2 hb, hb, inB_yes q.2⟩
  · exact absurd h1 (by decide)
theorem exP_can (h l : Nat) : CanD (exP h l) := sum_canF (fr_can _) (fr_can _)
theorem exP_cmp (h l h' l' : Nat) (hh : h < 18446744073709551616) (hl : l < 18446744073709551616) (hh' : h' < 18446744073709551616) (hl' : l' < 18446744073709551616) (r1 : Fp.rightP h l = true) (r2 : Fp.rightP h' l' = true) : cmpD (exP h l) (exP h' l') = Fp.lexI h l h' l' := by
  obtain ⟨f1, f2, -⟩ := Fp.right_PB h l r1
  obtain ⟨g1, g2, -⟩ := Fp.right_PB h' l' r2
  obtain ⟨K, hK⟩ : ∃ K : Nat, K = 1074 := ⟨_, rfl⟩
  have lo : ∀ a b : Nat, -(K : Int) ≤ (exP a b).2.2 := fun a b => by
    have := sum_low (fromP (a : Int)) (fromP (b : Int)) (-1074) (by decide) (fr_low _) (fr_low _)
    unfold exP
    omega
  have e1 : ∀ a b : Nat, a < 18446744073709551616 → b < 18446744073709551616 → EP.finB a = true → EP.finB b = true → vI (exP a b) (-1074) = EP.V a + EP.V b := fun a b ha hb fa fb => by
    unfold exP
    rw [vI_sum _ _ _ (fr_low _) (fr_low _), vI_from a ha fa, vI_from b hb fb]
  rw [vI_cmp (exP h l) (exP h' l') K (lo _ _) (lo _ _)]
  have k : -(K : Int) = -1074 := by omega
  rw [k, e1 h l hh hl f1 f2, e1 h' l' hh' hl' g1 g2]
  exact (Fp.lex_order h l h' l' r1 r2).symm
theorem rorder_calls (h l h' l' : Nat) (hh : h < 18446744073709551616) (hl : l < 18446744073709551616) (hh' : h' < 18446744073709551616) (hl' : l' < 18446744073709551616) (r1 : Fp.rightP h l = true) (r2 : Fp.rightP h' l' = true) (a : Option Addr) (n c : Nat) (b : Option Addr) (m d : Nat) (w : World) (i : IsW w a n c (wordsOf (exP h l).2.1)) (hn : n ≤ 1024) (j : IsW w b m d (wordsOf (exP h' l').2.1)) (hm : m ≤ 1024) :
    Calls Try.prog 11 #[dyV (exP h l).1 a n c (exP h l).2.2, dyV (exP h' l').1 b m d (exP h' l').2.2] w fun r w' => r = .returned (.int .i64 (Fp.lexI h l h' l')) ∧ Below w.heap.size w w' := by
  have b1 := (exP_len h l).2
  have b2 := (exP_len h' l').2
  have c1 := exP_can h l
  have c2 := exP_can h' l'
  have hc := exP_cmp h l h' l' hh hl hh' hl' r1 r2
  generalize exP h l = p at *
  generalize exP h' l' = q at *
  generalize Fp.lexI h l h' l' = z at *
  have := qOrder_calls p.1 a n c (wordsOf p.2.1) p.2.2 q.1 b m d (wordsOf q.2.1) q.2.2 w i (Nat.le_trans hn (by decide)) j (Nat.le_trans hm (by decide)) ⟨by omega, by omega⟩ ⟨by omega, by omega⟩ (by rw [val_words]; omega) (by rw [val_words]; omega)
  rw [val_words, val_words, form_of_can c1, form_of_can c2, hc] at this
  exact this
end Go.Proofs.Ytmhddjacjomnbaa
