/- The document's dyadic numbers (ulpref04), first part: Form, One, Right, Zero, room, Canon. -/
import Derived.Test.YtlbaphijmonjoaaTMB
import Derived.Test.YtlbaphijmonjoaaNRefR
namespace Go.Proofs.Ytlbaphijmonjoaa
open Go.RowKit

/-- A number that the document's functions hand out, of whatever size. -/
def DyQ (B : Nat) (w : World) (v : Value) (p : Bool × Nat × Int) : Prop := ∃ (ao : Option Addr) (n c : Nat), v = dyV p.1 ao n c p.2.2 ∧ Hid (n = (wordsOf p.2.1).length) ∧ OwnW B w ao n c (wordsOf p.2.1)
theorem DyAt.q {B : Nat} {w : World} {v : Value} {p : Bool × Nat × Int} (h : DyAt B w v p) : DyQ B w v p := by
  obtain ⟨ao, n, c, h1, h2, -, h4⟩ := h
  exact ⟨ao, n, c, h1, h2, h4⟩
theorem DyQ.keep {B : Nat} {w w' : World} {v : Value} {p : Bool × Nat × Int} (h : DyQ B w v p) (hb : Below w.heap.size w w') : DyQ B w' v p := by
  obtain ⟨ao, n, c, h1, h2, h3⟩ := h
  exact ⟨ao, n, c, h1, h2, h3.keep hb⟩
theorem DyQ.low {B B' : Nat} {w : World} {v : Value} {p : Bool × Nat × Int} (h : DyQ B w v p) (hB : B' ≤ B) : DyQ B' w v p := by
  obtain ⟨ao, n, c, h1, h2, h3⟩ := h
  exact ⟨ao, n, c, h1, h2, h3.low hB⟩
theorem dyQ_zero (B : Nat) (w : World) : DyQ B w (dyV false none 0 0 0) (false, 0, 0) := (dyAt_zero B w).q

set_option maxRecDepth 100000 in
set_option maxHeartbeats 2000000 in
theorem qForm_calls (s : Bool) (a : Option Addr) (len cap : Nat) (xs : List Int) (e : Int) (w : World) (h : IsW w a len cap xs) (hm : len ≤ 17592186044000) (he : -4611686018427387904 ≤ e ∧ e ≤ 4611686018427387904) :
    Calls Try.prog 31 #[.bool s, .slice a len cap, .int .i64 e] w fun r w' => ∃ v, r = .returned v ∧ DyQ w.heap.size w' v (formD s (val xs) e) ∧ Below w.heap.size w w' := by
  have hb0 := below_one w (.cells #[.bool false, .slice none 0 0, .int .i64 0] 30)
  have HN : Hid _ := nNorm_calls a len cap xs _ (h.keep hb0) (by omega)
  obtain ⟨he1, he2⟩ := he
  have hwl : (wordsOf (val xs)).length ≤ 17592186044000 := by have := size_words xs h.2.1; have := size_le xs; have := h.1; omega
  by_cases h0 : val xs = 0
  · rw [h0, form_zero]
    rw [h0, words_zero] at HN
    clear h0
    go_enter Try.func31, Try.ntmps31
    go_wp2_with fail
    refine Calls.mono HN.out ?_
    rintro r w1 ⟨ao, cv, rfl, hO, hb1⟩
    obtain ⟨m0, m1, m2, f0, f1, f2⟩ := zero_dy (r := w.heap.size) hb1 rfl
    have hb01 := nbelow_trans hb0 hb1
    clear hb1
    go_wp2_with fail
    refine bodyPost_ret (v := dyV false none 0 0 0) (by simp [results, Try.results31, go_sem, m0, m1, m2]) rfl ⟨_, rfl, dyQ_zero _ _, ?_⟩
    exact ((hb01.setCell (Nat.le_refl _) _).setCell (Nat.le_refl _) _).setCell (Nat.le_refl _) _
  · have HF : Hid _ := form_pos s h0 e
    have HO : Hid _ := odd_part h0
    have HW : Hid (wordsOf (val xs) ≠ []) := fun q => h0 ((words_nil _).1 q)
    have hz := tz_le_blen (val xs)
    have hbl := blen_words_le xs h.2.1
    have hlx := h.1
    have hzb : tz (val xs) ≤ 1125899906840000 := by omega
    clear hz hbl hlx h0
    obtain ⟨n0, hn0⟩ : ∃ n0, n0 = (wordsOf (val xs)).length := ⟨_, rfl⟩
    have HN0 : Hid (n0 = (wordsOf (val xs)).length) := hn0
    have hne : ((n0 : Int) == 0) = false := by
      have : n0 ≠ 0 := fun q => HW.out (List.length_eq_zero_iff.1 (by rw [← hn0]; exact q))
      simp; omega
    rw [← hn0] at HN hwl
    clear hn0
    obtain ⟨t, ht⟩ : ∃ t, t = tz (val xs) := ⟨_, rfl⟩
    have HT : Hid (t = tz (val xs)) := ht
    rw [← ht] at hzb
    clear ht
    go_enter Try.func31, Try.ntmps31
    go_wp2_with fail
    refine Calls.mono HN.out ?_
    rintro r w1 ⟨ao, cv, rfl, hO, hb1⟩
    have hI : IsW w1 ao n0 cv (wordsOf (val xs)) := by
      have := hO.isW (words_U _)
      rw [← HN0.out] at this; exact this
    have hb01 := nbelow_trans hb0 hb1
    go_wp2_with fail
    refine Calls.mono (nLow_calls ao n0 cv _ w1 hI (by omega)) ?_
    rw [val_words, ← HT.out]
    rintro r w2 ⟨rfl, hb2⟩
    have hI2 := hI.keep hb2
    go_wp2_with fail
    refine Calls.mono (nShr_calls ao n0 cv t _ w2 hI2 (by omega) (by omega)) ?_
    rw [val_words, HT.out]
    rintro r w3 ⟨_, rfl, ⟨a3, n3, c3, rfl, hn3, hO3⟩, hb3⟩
    have HN3 : Hid (n3 = (wordsOf (val xs / 2 ^ tz (val xs))).length) := hn3
    rw [← HT.out]
    have hb13 := nbelow_trans hb1 (nbelow_trans hb2 hb3)
    obtain ⟨m0, m1, m2, f0, f1, f2⟩ := zero_dy (r := w.heap.size) hb13 rfl
    have hb03 := nbelow_trans hb0 hb13
    have hws : w.heap.size + 1 ≤ w2.heap.size := by have := (nbelow_trans hb1 hb2).size; simp at this; omega
    clear hb1 hb2 hb3 hb01 hn3 hO hb13
    go_wp2_with fail
    refine bodyPost_ret (v := dyV s a3 n3 c3 (e + (t : Int))) (by simp [results, Try.results31, go_sem, m0, m1, m2]) rfl ⟨_, rfl, ?_, ?_⟩
    · rw [HF.out]
      refine ⟨a3, n3, c3, by rw [HT.out], HN3, ?_⟩
      exact (((hO3.far _ _ (by show w.heap.size < _; omega)).far _ _ (by show w.heap.size < _; omega)).far _ _ (by show w.heap.size < _; omega)).low (by omega)
    · exact ((hb03.setCell (Nat.le_refl _) _).setCell (Nat.le_refl _) _).setCell (Nat.le_refl _) _

set_option maxRecDepth 100000 in
set_option maxHeartbeats 2000000 in
theorem qOne_calls (s : Bool) (a : Option Addr) (len cap : Nat) (xs : List Int) (e : Int) (w : World) (h : IsW w a len cap xs) (hm : len ≤ 17592186044000) (he : -4611686018427387904 ≤ e ∧ e ≤ 4611686018427387904) :
    Calls Try.prog 29 #[dyV s a len cap e] w fun r w' => ∃ v, r = .returned v ∧ DyQ w.heap.size w' v (formD s (val xs) e) ∧ Below w.heap.size w w' := by
  have hb0 : Below w.heap.size w ((w.alloc (.cells #[.bool s, .slice a len cap, .int .i64 e] 30)).alloc (.cells #[.bool false, .slice none 0 0, .int .i64 0] 30)) := nbelow_trans (below_one _ _) (below_one _ _)
  have HF : Hid _ := qForm_calls s a len cap xs e _ (h.keep hb0) hm he
  clear he
  go_enter Try.func29, Try.ntmps29
  go_wp2_with fail
  refine Calls.mono HF.out ?_
  rintro r w1 ⟨_, rfl, ⟨a1, n1, c1, rfl, HN1, hO1⟩, hb1⟩
  obtain ⟨m0, m1, m2, f0, f1, f2⟩ := zero_dy (r := w.heap.size + 1) hb1 (by simp)
  have hb01 := nbelow_trans hb0 hb1
  have hws : w.heap.size + 2 ≤ w1.heap.size := by have := hb1.size; simp at this; omega
  clear hb1
  go_wp2_with fail
  refine bodyPost_ret (v := dyV (formD s (val xs) e).1 a1 n1 c1 (formD s (val xs) e).2.2) (by simp [results, Try.results29, go_sem, m0, m1, m2]) rfl ⟨_, rfl, ⟨a1, n1, c1, rfl, HN1, ?_⟩, ?_⟩
  · exact (((hO1.far _ _ (by simp)).far _ _ (by simp)).far _ _ (by simp)).low (by simp; omega)
  · exact ((hb01.setCell (by show w.heap.size ≤ w.heap.size + 1; omega) _).setCell (by show w.heap.size ≤ w.heap.size + 1; omega) _).setCell (by show w.heap.size ≤ w.heap.size + 1; omega) _


set_option maxRecDepth 100000 in
set_option maxHeartbeats 1000000 in
theorem qZero_calls (s : Bool) (a : Option Addr) (len cap : Nat) (xs : List Int) (e : Int) (w : World) (h : IsW w a len cap xs) (hm : len ≤ 17592186044416) :
    Calls Try.prog 66 #[dyV s a len cap e] w fun r w' => r = .returned (.bool (decide (val xs = 0))) ∧ Below w.heap.size w w' := by
  have hb0 := below_one w (.cells #[.bool s, .slice a len cap, .int .i64 e] 30)
  have HN : Hid _ := nNorm_calls a len cap xs _ (h.keep hb0) hm
  have HZ : Hid (((((wordsOf (val xs)).length : Nat) : Int) == 0) = decide (val xs = 0)) := by
    rw [Hid, Bool.eq_iff_iff]
    simp only [beq_iff_eq, decide_eq_true_eq]
    rw [Int.natCast_eq_zero, List.length_eq_zero_iff, words_nil]
  generalize decide (val xs = 0) = z at *
  generalize (wordsOf (val xs)).length = n at *
  go_enter Try.func66, Try.ntmps66
  go_wp2_with fail
  refine Calls.mono HN.out ?_
  rintro r w1 ⟨ao, cv, rfl, hO, hb1⟩
  have hb01 := nbelow_trans hb0 hb1
  clear hb1 hO
  go_wp2_with fail
  go_ret
  exact ⟨nret_bool HZ.out, hb01⟩

end Go.Proofs.Ytlbaphijmonjoaa
