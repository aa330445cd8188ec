/- The walks of package bits, second part (lowest bits, whole and odd numbers), and of the statements' own helpers 'lives' and 'isNumber'. The walks of the document's answers for layer 1, second part: classes, fields, last bits, whole and odd numbers (their loops). The document's dyadic numbers, sixth part: From whole, Int. -/
import Derived.Test.YtahpdcbmekgkfaaGreatDoorTMB
import Derived.Deep.RegionWith
import Derived.Test.YtahpdcbmekgkfaaGreatDoorTMH
import Derived.Test.YtahpdcbmekgkfaaGreatDoorTMD
import Derived.Test.YtahpdcbmekgkfaaGreatDoorTMF

namespace Go.Proofs.YtahpdcbmekgkfaaGreatDoor
open Go.RowKit
/-! ### powers of two -/
theorem two_pow_pos (k : Nat) : (0 : Int) < 2 ^ k := Int.pow_pos (by decide)
set_option maxRecDepth 100000 in
set_option maxHeartbeats 4000000 in
theorem qint_end (s : Bool) (j : Nat) (hj : j ≤ 18446744073709551615) (w : World) (i : Int) (hi : -9223372036854775808 ≤ i ∧ i ≤ 9223372036854775807) (hs : decide (i < 0) = s) (hc : (s = false ∧ i = (j : Int)) ∨ (s = true ∧ i = -(j : Int))) :
  Calls Tryz.prog 47 #[.int .i64 i] w fun r w' => ∃ v', r = .returned v' ∧ DyQ w.heap.size w' v' (formD s j 0) ∧ Below w.heap.size w w' := by
 have hb0 := below_one w (.cells #[.bool false, .slice none 0 0, .int .i64 0] 25)
 obtain ⟨hi1, hi2⟩ := hi
 have HO : Hid _ := fun w' => nOf_calls (j : Int) w' (by omega) (by omega)
 rw [Int.toNat_natCast] at HO
 have hgl : (wO j).length ≤ 1 := (words_len 1 j).2 (by omega)
 have HK : Hid _ := fun a c w' q1 => qForm_calls s a (wO j).length c (wO j) 0 w' q1 (by omega) (by omega)
 rw [val_words] at HK
 clear hgl
 have hjj : (0 : Int) ≤ (j : Int) ∧ (j : Int) ≤ 18446744073709551615 := by omega
 generalize formD s j 0 = p at *
 rcases hc with ⟨rfl, rfl⟩ | ⟨rfl, rfl⟩
 ·have hlt : ¬ (j : Int) < 0 := by omega
  have q3 : IntKind.u64.wrap (j : Int) = (j : Int) := by rw [IntKind.wrap_u64]; omega
  go_enter Tryz.func47, Tryz.ntmps47
  go_wp2_with fail
  refine cM (HO.out _) ?_
  rintro r w1 ⟨a1, c1, rfl, hO1, hb1⟩
  have hb01 := nT hb0 hb1
  have HI1 : IsW w1 a1 (wO j).length c1 (wO j) := hO1.isW (words_U _)
  clear hO1
  go_wp2_with fail
  refine cM (HK.out a1 c1 _ HI1) ?_
  rintro r w2 ⟨_, rfl, ⟨a2, n2, c2, rfl, HN2, hO2⟩, hb2⟩
  have hb12 := nT hb1 hb2
  have hb02 := nT hb01 hb2
  have hsz : w.heap.size + 1 ≤ w1.heap.size := by have := hb1.size; simp at this; omega
  obtain ⟨m0, m1, m2, f0, f1, f2⟩ := zero_dy (r := w.heap.size) hb12 rfl
  have hO2' : OwnW (w.heap.size + 1) w2 a2 n2 c2 (wO p.2.1) := hO2.low hsz
  clear hb1 hb2 hO2 HI1 HK HO
  go_wp2_with fail
  refine bodyPost_ret (v := dyV p.1 a2 n2 c2 p.2.2) (by simp [results, Tryz.results47, go_sem, m0, m1, m2]) rfl ⟨_, rfl, ⟨a2, n2, c2, rfl, HN2, ?_⟩, ?_⟩
  ·exact (((hO2'.far _ _ (by simp)).far _ _ (by simp)).far _ _ (by simp)).low (by omega)
  ·exact ((hb02.setCell (Nat.le_refl _) _).setCell (Nat.le_refl _) _).setCell (Nat.le_refl _) _
 ·have hlt : -(j : Int) < 0 := by simpa using hs
  have q1 : IntKind.u64.wrap (-(j : Int)) = 18446744073709551616 - (j : Int) := by rw [IntKind.wrap_u64]; omega
  have q2 : IntKind.u64.wrap (-(18446744073709551616 - (j : Int))) = (j : Int) := by rw [IntKind.wrap_u64]; omega
  have q4 : IntKind.u64.wrap (0 - (18446744073709551616 - (j : Int))) = (j : Int) := by rw [IntKind.wrap_u64]; omega
  go_enter Tryz.func47, Tryz.ntmps47
  go_wp2_with fail
  refine cM (HO.out _) ?_
  rintro r w1 ⟨a1, c1, rfl, hO1, hb1⟩
  have hb01 := nT hb0 hb1
  have HI1 : IsW w1 a1 (wO j).length c1 (wO j) := hO1.isW (words_U _)
  clear hO1
  go_wp2_with fail
  refine cM (HK.out a1 c1 _ HI1) ?_
  rintro r w2 ⟨_, rfl, ⟨a2, n2, c2, rfl, HN2, hO2⟩, hb2⟩
  have hb12 := nT hb1 hb2
  have hb02 := nT hb01 hb2
  have hsz : w.heap.size + 1 ≤ w1.heap.size := by have := hb1.size; simp at this; omega
  obtain ⟨m0, m1, m2, f0, f1, f2⟩ := zero_dy (r := w.heap.size) hb12 rfl
  have hO2' : OwnW (w.heap.size + 1) w2 a2 n2 c2 (wO p.2.1) := hO2.low hsz
  clear hb1 hb2 hO2 HI1 HK HO
  go_wp2_with fail
  refine bodyPost_ret (v := dyV p.1 a2 n2 c2 p.2.2) (by simp [results, Tryz.results47, go_sem, m0, m1, m2]) rfl ⟨_, rfl, ⟨a2, n2, c2, rfl, HN2, ?_⟩, ?_⟩
  ·exact (((hO2'.far _ _ (by simp)).far _ _ (by simp)).far _ _ (by simp)).low (by omega)
  ·exact ((hb02.setCell (Nat.le_refl _) _).setCell (Nat.le_refl _) _).setCell (Nat.le_refl _) _
theorem qint_calls (i : Int) (hi : -9223372036854775808 ≤ i ∧ i ≤ 9223372036854775807) (w : World) :
  Calls Tryz.prog 47 #[.int .i64 i] w fun r w' => ∃ v', r = .returned v' ∧ DyQ w.heap.size w' v' (intD i) ∧ Below w.heap.size w w' := by
 unfold intD
 by_cases h : i < 0
 ·rw [decide_eq_true h]
  exact qint_end true i.natAbs (by omega) w i hi (decide_eq_true h) (Or.inr ⟨rfl, by omega⟩)
 ·rw [decide_eq_false h]
  exact qint_end false i.natAbs (by omega) w i hi (decide_eq_false h) (Or.inl ⟨rfl, by omega⟩)
end Go.Proofs.YtahpdcbmekgkfaaGreatDoor
