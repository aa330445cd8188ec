/- The document's dyadic numbers, sixth part: From whole, Int. -/
import Derived.Test.YtlbaphijmonjoaaRD5
namespace Go.Proofs.Ytlbaphijmonjoaa
open Go.RowKit

set_option maxRecDepth 100000 in
set_option maxHeartbeats 1000000 in
theorem qfrom_bad (x : Int) (w : World) (hU : U x) (hf : finB x = false) :
    Calls Try.prog 23 #[.int .u64 x] w fun r w' => r = .returned (.tuple #[dyV false none 0 0 0, .int .i64 5]) ∧ Below w.heap.size w w' := by
  have hb0 := below_one w (.cells #[.bool false, .slice none 0 0, .int .i64 0] 30)
  have FC : Hid _ := rFinite_calls x (w.alloc (.cells #[.bool false, .slice none 0 0, .int .i64 0] 30)) hU
  rw [hf] at FC
  obtain ⟨m0, m1, m2, f0, f1, f2⟩ := zero_dy (r := w.heap.size) (Below.refl _ (w.alloc (.cells #[.bool false, .slice none 0 0, .int .i64 0] 30))) rfl
  clear hU hf
  go_enter Try.func23, Try.ntmps23
  go_wp2_with fail
  refine Calls.mono FC.out ?_
  rintro r w1 ⟨rfl, rfl⟩
  go_wp2_with fail
  exact bodyPost_ret (v := .tuple #[dyV false none 0 0 0, .int .i64 5]) (by simp [results, Try.results23, go_sem, m0, m1, m2]) rfl ⟨rfl, hb0⟩
theorem qfrom_calls (x : Int) (w : World) (hU : U x) :
    Calls Try.prog 23 #[.int .u64 x] w fun r w' => ∃ v', r = .returned (.tuple #[v', .int .i64 (lastE x)]) ∧ DyQ w.heap.size w' v' (fromP x) ∧ Below w.heap.size w w' := by
  cases hf : finB x with
  | false =>
    have e1 : lastE x = 5 := by unfold lastE; rw [hf]; rfl
    have e2 : fromP x = (false, 0, 0) := by unfold fromP; rw [hf]; rfl
    rw [e1, e2]
    refine (qfrom_bad x w hU hf).mono ?_
    rintro r w' ⟨rfl, hb⟩
    exact ⟨_, rfl, dyQ_zero _ _, hb⟩
  | true =>
    have h1 := frac_bd x
    have h2 := exp_bd x
    by_cases he : expV x = 0
    · exact qfrom_end x w hU hf (fracV x).toNat (by omega) (by unfold countV; rw [if_pos he]) (fracV x).toNat (by omega) (Or.inl ⟨he, rfl⟩)
    · exact qfrom_end x w hU hf ((fracV x).toNat + 4503599627370496) (by omega) (by unfold countV; rw [if_neg he]; omega) (fracV x).toNat (by omega) (Or.inr ⟨by omega, by omega⟩)

set_option maxRecDepth 100000 in
set_option maxHeartbeats 4000000 in
theorem qint_end (s : Bool) (j : Nat) (hj : j ≤ 18446744073709551615) (w : World) (i : Int) (hi : -9223372036854775808 ≤ i ∧ i ≤ 9223372036854775807) (hs : decide (i < 0) = s) (hc : (s = false ∧ i = (j : Int)) ∨ (s = true ∧ i = -(j : Int))) :
    Calls Try.prog 19 #[.int .i64 i] w fun r w' => ∃ v', r = .returned v' ∧ DyQ w.heap.size w' v' (formD s j 0) ∧ Below w.heap.size w w' := by
  have hb0 := below_one w (.cells #[.bool false, .slice none 0 0, .int .i64 0] 30)
  obtain ⟨hi1, hi2⟩ := hi
  have HO : Hid _ := fun w' => nOf_calls (j : Int) w' (by omega) (by omega)
  rw [Int.toNat_natCast] at HO
  have hgl : (wordsOf j).length ≤ 1 := (words_len 1 j).2 (by omega)
  have HK : Hid _ := fun a c w' q1 => qForm_calls s a (wordsOf j).length c (wordsOf j) 0 w' q1 (by omega) (by omega)
  rw [val_words] at HK
  clear hgl
  have hjj : (0 : Int) ≤ (j : Int) ∧ (j : Int) ≤ 18446744073709551615 := by omega
  generalize formD s j 0 = p at *
  rcases hc with ⟨rfl, rfl⟩ | ⟨rfl, rfl⟩
  · have hlt : ¬ (j : Int) < 0 := by omega
    have q3 : IntKind.u64.wrap (j : Int) = (j : Int) := by rw [IntKind.wrap_u64]; omega
    go_enter Try.func19, Try.ntmps19
    go_wp2_with fail
    refine Calls.mono (HO.out _) ?_
    rintro r w1 ⟨a1, c1, rfl, hO1, hb1⟩
    have hb01 := nbelow_trans hb0 hb1
    have HI1 : IsW w1 a1 (wordsOf j).length c1 (wordsOf j) := hO1.isW (words_U _)
    clear hO1
    go_wp2_with fail
    refine Calls.mono (HK.out a1 c1 _ HI1) ?_
    rintro r w2 ⟨_, rfl, ⟨a2, n2, c2, rfl, HN2, hO2⟩, hb2⟩
    have hb12 := nbelow_trans hb1 hb2
    have hb02 := nbelow_trans hb01 hb2
    have hsz : w.heap.size + 1 ≤ w1.heap.size := by have := hb1.size; simp at this; omega
    obtain ⟨m0, m1, m2, f0, f1, f2⟩ := zero_dy (r := w.heap.size) hb12 rfl
    have hO2' : OwnW (w.heap.size + 1) w2 a2 n2 c2 (wordsOf p.2.1) := hO2.low hsz
    clear hb1 hb2 hO2 HI1 HK HO
    go_wp2_with fail
    refine bodyPost_ret (v := dyV p.1 a2 n2 c2 p.2.2) (by simp [results, Try.results19, go_sem, m0, m1, m2]) rfl ⟨_, rfl, ⟨a2, n2, c2, rfl, HN2, ?_⟩, ?_⟩
    · exact (((hO2'.far _ _ (by simp)).far _ _ (by simp)).far _ _ (by simp)).low (by omega)
    · exact ((hb02.setCell (Nat.le_refl _) _).setCell (Nat.le_refl _) _).setCell (Nat.le_refl _) _
  · have hlt : -(j : Int) < 0 := by simpa using hs
    have q1 : IntKind.u64.wrap (-(j : Int)) = 18446744073709551616 - (j : Int) := by rw [IntKind.wrap_u64]; omega
    have q2 : IntKind.u64.wrap (-(18446744073709551616 - (j : Int))) = (j : Int) := by rw [IntKind.wrap_u64]; omega
    have q4 : IntKind.u64.wrap (0 - (18446744073709551616 - (j : Int))) = (j : Int) := by rw [IntKind.wrap_u64]; omega
    go_enter Try.func19, Try.ntmps19
    go_wp2_with fail
    refine Calls.mono (HO.out _) ?_
    rintro r w1 ⟨a1, c1, rfl, hO1, hb1⟩
    have hb01 := nbelow_trans hb0 hb1
    have HI1 : IsW w1 a1 (wordsOf j).length c1 (wordsOf j) := hO1.isW (words_U _)
    clear hO1
    go_wp2_with fail
    refine Calls.mono (HK.out a1 c1 _ HI1) ?_
    rintro r w2 ⟨_, rfl, ⟨a2, n2, c2, rfl, HN2, hO2⟩, hb2⟩
    have hb12 := nbelow_trans hb1 hb2
    have hb02 := nbelow_trans hb01 hb2
    have hsz : w.heap.size + 1 ≤ w1.heap.size := by have := hb1.size; simp at this; omega
    obtain ⟨m0, m1, m2, f0, f1, f2⟩ := zero_dy (r := w.heap.size) hb12 rfl
    have hO2' : OwnW (w.heap.size + 1) w2 a2 n2 c2 (wordsOf p.2.1) := hO2.low hsz
    clear hb1 hb2 hO2 HI1 HK HO
    go_wp2_with fail
    refine bodyPost_ret (v := dyV p.1 a2 n2 c2 p.2.2) (by simp [results, Try.results19, go_sem, m0, m1, m2]) rfl ⟨_, rfl, ⟨a2, n2, c2, rfl, HN2, ?_⟩, ?_⟩
    · exact (((hO2'.far _ _ (by simp)).far _ _ (by simp)).far _ _ (by simp)).low (by omega)
    · exact ((hb02.setCell (Nat.le_refl _) _).setCell (Nat.le_refl _) _).setCell (Nat.le_refl _) _
theorem qint_calls (i : Int) (hi : -9223372036854775808 ≤ i ∧ i ≤ 9223372036854775807) (w : World) :
    Calls Try.prog 19 #[.int .i64 i] w fun r w' => ∃ v', r = .returned v' ∧ DyQ w.heap.size w' v' (intD i) ∧ Below w.heap.size w w' := by
  unfold intD
  by_cases h : i < 0
  · rw [decide_eq_true h]
    exact qint_end true i.natAbs (by omega) w i hi (decide_eq_true h) (Or.inr ⟨rfl, by omega⟩)
  · rw [decide_eq_false h]
    exact qint_end false i.natAbs (by omega) w i hi (decide_eq_false h) (Or.inl ⟨rfl, by omega⟩)
end Go.Proofs.Ytlbaphijmonjoaa
