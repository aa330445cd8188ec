/- Least units as dyadic numbers; the document's sums and products of them; dyadic numbers in cells. -/
import Derived.Test.YtlbaphijmonjoaaEUa
import Derived.Test.YtlbaphijmonjoaaRD13
import Derived.Test.YtlbaphijmonjoaaRD16
import Derived.Test.YtlbaphijmonjoaaRD18
import Derived.Deep.CutRange
import Derived.Deep.RegionHeld3
import Derived.Deep.DrawnRows
namespace Go.Proofs.Ytlbaphijmonjoaa
open Go.RowKit

/-- So many least units as a dyadic number. -/
def dyU (v : Int) : Bool × Nat × Int := formD (decide (v < 0)) v.natAbs (-1074)
theorem dyU_vI (v : Int) : vI (dyU v) (-1074) = v := by
  unfold dyU
  rw [vI_form _ _ _ _ (Int.le_refl _), show ((-1074 : Int) - -1074).toNat = 0 by decide, Nat.pow_zero, Nat.mul_one]
  unfold sI
  by_cases h : v < 0
  · rw [decide_eq_true h, if_pos rfl]; omega
  · rw [decide_eq_false h, if_neg (by simp)]; omega
theorem dyU_can (v : Int) : CanD (dyU v) := form_can _ _ _
theorem dyU_low (v : Int) : -1074 ≤ (dyU v).2.2 := form_lo _ _ _ _ (by decide) (Int.le_refl _)
theorem dyU_of {p : Bool × Nat × Int} {v : Int} (c : CanD p) (lo : -1074 ≤ p.2.2) (h : vI p (-1074) = v) : p = dyU v :=
  vI_inj _ _ c (dyU_can v) (-1074) lo (dyU_low v) (by rw [h, dyU_vI])
theorem dyU_from (x : Nat) (hx : x < 18446744073709551616) (fx : EP.finB x = true) : fromP (x : Int) = dyU (EP.V x) := dyU_of (fr_can _) (fr_low _) (vI_from x hx fx)
theorem dyU_sum (u v : Int) : sumD (dyU u) (dyU v) = dyU (u + v) :=
  dyU_of (sum_canF (dyU_can u) (dyU_can v)) (sum_low _ _ (-1074) (by decide) (dyU_low u) (dyU_low v)) (by rw [vI_sum _ _ _ (dyU_low u) (dyU_low v), dyU_vI, dyU_vI])
theorem dyU_zero : dyU 0 = (false, 0, 0) := form_zero _ _
theorem dyU_sz (v : Int) (K : Nat) (h : v.natAbs < 2 ^ K) : blen (dyU v).2.1 ≤ K ∧ -1074 ≤ (dyU v).2.2 ∧ (dyU v).2.2 ≤ (K : Int) := by
  have hb := (blen_le _ K).2 h
  refine ⟨Nat.le_trans (blen_mono (form_amount_le _ _ _)) hb, dyU_low v, ?_⟩
  unfold dyU
  by_cases h0 : v.natAbs = 0
  · rw [h0, form_zero]; show (0 : Int) ≤ _; omega
  · rw [form_pos _ h0]
    have := tz_le_blen v.natAbs
    show (-1074 : Int) + (tz v.natAbs : Int) ≤ _
    omega
theorem dyU_mul (s u v : Int) (h : ∀ D : Nat, D = 1074 → s * ((2 ^ D : Nat) : Int) = u * v) : mulD (dyU u) (dyU v) = dyU s := by
  obtain ⟨D, hD⟩ : ∃ D : Nat, D = 1074 := ⟨_, rfl⟩
  have e1 : (-1074 : Int) - (D : Int) = -1074 + -1074 := by omega
  have lo := dyU_low s
  have hc : CanD (mulD (dyU u) (dyU v)) := form_can _ _ _
  refine (vI_inj (dyU s) (mulD (dyU u) (dyU v)) (dyU_can s) hc (-1074 - (D : Int)) (by omega) (by rw [e1]; exact mul_low _ _ _ _ (by decide) (dyU_low u) (dyU_low v)) ?_).symm
  rw [vI_down _ _ D lo, dyU_vI, e1, vI_mul _ _ _ _ (dyU_low u) (dyU_low v), dyU_vI, dyU_vI]
  exact h D hD
theorem dyU_sgn (v : Int) : sgnQ (dyU v).1 (dyU v).2.1 = if v < 0 then -1 else if 0 < v then 1 else 0 := by
  unfold dyU
  by_cases h0 : v.natAbs = 0
  · have : v = 0 := by omega
    subst this; rw [show (0 : Int).natAbs = 0 from rfl, form_zero]; decide
  · rw [form_pos _ h0]
    have h1 := (odd_part h0).1
    unfold sgnQ
    rw [if_neg (show ¬ v.natAbs / 2 ^ tz v.natAbs = 0 by omega)]
    by_cases h : v < 0
    · rw [if_pos h, if_pos (by simpa using h)]
    · rw [if_neg h, if_neg (by simpa using h), if_pos (by omega)]

namespace Fp
open EP
theorem sv_take (xs : List Nat) (k : Nat) (h : k < xs.length) : sv (xs.take (k + 1)) = sv (xs.take k) + V (xs.getD k 0) := by
  have e : xs.take (k + 1) = xs.take k ++ [xs.getD k 0] := by rw [List.take_succ_eq_append_getElem h]; simp [List.getD, h]
  rw [e, sv_snoc]
theorem tot_take (xs : List Nat) (k : Nat) : tot (xs.take k) ≤ tot xs := by
  induction xs generalizing k with
  | nil => simp
  | cons x l ih =>
    cases k with
    | zero => simp [tot]
    | succ k => simp only [List.take_succ_cons, tot]; have := ih k; omega
end Fp

/-- The sum of two such numbers. -/
theorem uplus_calls (u v : Int) (K : Nat) (hu : u.natAbs < 2 ^ K) (hv : v.natAbs < 2 ^ K) (hK : K ≤ 60000) (a b : Option Addr) (n c m d : Nat) (W : World) (p : IsW W a n c (wordsOf (dyU u).2.1)) (q : IsW W b m d (wordsOf (dyU v).2.1)) :
    Calls Try.prog 12 #[dyV (dyU u).1 a n c (dyU u).2.2, dyV (dyU v).1 b m d (dyU v).2.2] W fun r w' => ∃ v', r = .returned v' ∧ DyQ W.heap.size w' v' (dyU (u + v)) ∧ Below W.heap.size W w' := by
  obtain ⟨s1, s2, s3⟩ := dyU_sz u K hu
  obtain ⟨t1, t2, t3⟩ := dyU_sz v K hv
  have n1 : n ≤ 1024 := by rw [p.1]; exact (words_len2 _ _).2 (by omega)
  have n2 : m ≤ 1024 := by rw [q.1]; exact (words_len2 _ _).2 (by omega)
  have := qPlus_calls (dyU u).1 a n c (wordsOf (dyU u).2.1) (dyU u).2.2 (dyU v).1 b m d (wordsOf (dyU v).2.1) (dyU v).2.2 W p (by omega) q (by omega) (by omega) (by omega) (by rw [val_words]; omega) (by rw [val_words]; omega)
  rw [val_words, val_words, form_of_can (dyU_can u), form_of_can (dyU_can v), dyU_sum] at this
  exact this
theorem utimes_calls (u v : Int) (K : Nat) (hu : u.natAbs < 2 ^ K) (hv : v.natAbs < 2 ^ K) (hK : K ≤ 60000) (a b : Option Addr) (n c m d : Nat) (W : World) (p : IsW W a n c (wordsOf (dyU u).2.1)) (q : IsW W b m d (wordsOf (dyU v).2.1)) :
    Calls Try.prog 14 #[dyV (dyU u).1 a n c (dyU u).2.2, dyV (dyU v).1 b m d (dyU v).2.2] W fun r w' => ∃ v', r = .returned v' ∧ DyQ W.heap.size w' v' (mulD (dyU u) (dyU v)) ∧ Below W.heap.size W w' := by
  obtain ⟨s1, s2, s3⟩ := dyU_sz u K hu
  obtain ⟨t1, t2, t3⟩ := dyU_sz v K hv
  have n1 : n ≤ 1024 := by rw [p.1]; exact (words_len2 _ _).2 (by omega)
  have n2 : m ≤ 1024 := by rw [q.1]; exact (words_len2 _ _).2 (by omega)
  have := qTimes_calls (dyU u).1 a n c (wordsOf (dyU u).2.1) (dyU u).2.2 (dyU v).1 b m d (wordsOf (dyU v).2.1) (dyU v).2.2 W p (by omega) q (by omega) (by omega) (by omega) (by rw [val_words]; omega) (by rw [val_words]; omega)
  rw [val_words, val_words, form_of_can (dyU_can u), form_of_can (dyU_can v)] at this
  exact this
/-- A dyadic number in the cells of a block. -/
def AtDy (w : World) (b : Nat) (p : Bool × Nat × Int) (a : Option Addr) (n c : Nat) : Prop :=
  w.cell? ⟨b, 0, none⟩ = some (.bool p.1) ∧ w.cell? ⟨b, 1, none⟩ = some (.slice a n c) ∧ w.cell? ⟨b, 2, none⟩ = some (.int .i64 p.2.2) ∧ w.frozen? ⟨b, 0, none⟩ = false ∧ w.frozen? ⟨b, 1, none⟩ = false ∧ w.frozen? ⟨b, 2, none⟩ = false
theorem AtDy.keep {w w' : World} {b : Nat} {p : Bool × Nat × Int} {a : Option Addr} {n c : Nat} (h : AtDy w b p a n c) (hb : Below w.heap.size w w') : AtDy w' b p a n c := by
  obtain ⟨h0, h1, h2, h3, h4, h5⟩ := h
  exact ⟨dcarry_cell hb h0, dcarry_cell hb h1, dcarry_cell hb h2, dcarry_frozen hb h0 h3, dcarry_frozen hb h1 h4, dcarry_frozen hb h2 h5⟩
theorem AtDy.set {w : World} {b : Nat} {p : Bool × Nat × Int} {a : Option Addr} {n c : Nat} (h : AtDy w b p a n c) (q : Bool × Nat × Int) (a' : Option Addr) (n' c' : Nat) : AtDy (((w.setCell ⟨b, 0, none⟩ (.bool q.1)).setCell ⟨b, 1, none⟩ (.slice a' n' c')).setCell ⟨b, 2, none⟩ (.int .i64 q.2.2)) b q a' n' c' := by
  obtain ⟨h0, h1, h2, h3, h4, h5⟩ := h
  refine ⟨by go_simp, by go_simp, by go_simp, by go_simp, by go_simp, by go_simp⟩
theorem AtDy.other {w : World} {b r : Nat} {p : Bool × Nat × Int} {a : Option Addr} {n c : Nat} (h : AtDy w b p a n c) (hne : b ≠ r) (v0 v1 v2 : Value) : AtDy (((w.setCell ⟨r, 0, none⟩ v0).setCell ⟨r, 1, none⟩ v1).setCell ⟨r, 2, none⟩ v2) b p a n c := by
  obtain ⟨h0, h1, h2, h3, h4, h5⟩ := h
  exact ⟨set3_cell h0 hne, set3_cell h1 hne, set3_cell h2 hne, by rw [World.frozen?_setCell, World.frozen?_setCell, World.frozen?_setCell]; exact h3, by rw [World.frozen?_setCell, World.frozen?_setCell, World.frozen?_setCell]; exact h4, by rw [World.frozen?_setCell, World.frozen?_setCell, World.frozen?_setCell]; exact h5⟩

end Go.Proofs.Ytlbaphijmonjoaa
