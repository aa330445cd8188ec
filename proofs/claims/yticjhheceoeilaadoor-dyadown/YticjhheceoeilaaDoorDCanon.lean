/- The walk of canonical: the one form. -/
import Derived.Test.YticjhheceoeilaaDoorDNum
namespace Go.Proofs.YticjhheceoeilaaDoor
open Go.RowKit

/-- What canonical makes: of a number that is too great, nothing. -/
def canG (s : Bool) (u : Nat) (e : Int) : Bool × Nat × Int := if greatB u = true then (false, 0, 0) else formD s u e
theorem canG_yes {s : Bool} {u : Nat} {e : Int} (h : greatB u = true) : canG s u e = (false, 0, 0) := by unfold canG; rw [if_pos h]
theorem canG_no {s : Bool} {u : Nat} {e : Int} (h : greatB u = false) : canG s u e = formD s u e := by unfold canG; rw [if_neg (by rw [h]; decide)]

set_option maxRecDepth 100000 in
set_option maxHeartbeats 2000000 in
theorem canonical_fit (s : Bool) (a : Option Addr) (len cap : Nat) (xs : List Int) (e : Int) (w : World) (h : IsW w a len cap xs) (hm : len ≤ 17592186044416) (hT : Tab w) (hg : greatB (val xs) = false) (h0 : val xs ≠ 0) (he : -4611686018427387904 ≤ e ∧ e ≤ 4611686018427387904) :
    Calls Tryd.prog 25 #[dyV s a len cap e] w fun r w' => ∃ (ao : Option Addr) (n c : Nat), r = .returned (numV s ao n c (e + (tz (val xs) : Int)) false) ∧ Hid (n = (wordsOf (val xs / 2 ^ tz (val xs))).length) ∧ n ≤ 1024 ∧ OwnW w.heap.size w' ao n c (wordsOf (val xs / 2 ^ tz (val xs))) ∧ Below w.heap.size w w' := by
  have hbl : blen (val xs) ≤ 65536 := (great_not _).1 hg
  have htz := tz_le_blen (val xs)
  have HG : Hid (greatB (val xs) = false) := hg
  have HO : Hid _ := odd_part h0
  obtain ⟨t, ht⟩ : ∃ t, t = tz (val xs) := ⟨_, rfl⟩
  rw [← ht] at htz HO ⊢
  have HTT : Hid (t = tz (val xs)) := ht
  clear hg h0 ht
  obtain ⟨he1, he2⟩ := he
  go_enter Tryd.func25, Tryd.ntmps25
  go_wp2_with fail
  have hb0 : Below w.heap.size w ((w.alloc (.cells #[.bool s, .slice a len cap, .int .i64 e] 25)).alloc (.cells #[.bool false, .slice none 0 0, .int .i64 0, .bool false] 52)) := nbelow_trans (below_one _ _) (below_one _ _)
  refine Calls.mono (low_calls a len cap xs _ (h.keep hb0) hm (hT.kept hb0)) ?_
  rintro r w1 ⟨_, hr, hb1⟩
  obtain rfl := hr HG.out
  rw [← HTT.out]
  have hb01 := nbelow_trans hb0 hb1
  have k0 : w1.cell? ⟨w.heap.size, 0, none⟩ = some (.bool s) := dcarry_cell hb1 (by go_simp)
  have k1 : w1.cell? ⟨w.heap.size, 1, none⟩ = some (.slice a len cap) := dcarry_cell hb1 (by go_simp)
  have k2 : w1.cell? ⟨w.heap.size, 2, none⟩ = some (.int .i64 e) := dcarry_cell hb1 (by go_simp)
  clear hr
  go_wp2_with fail
  obtain ⟨g1, g2, g3⟩ := shr_fit (u := val xs) (j := t) HG.out
  refine Calls.mono (shr_eq (w := w1) (i := (t : Int)) (h.keep hb01) hm (by omega) g2 g3 g1) ?_
  rintro r w2 ⟨ao, n, c, rfl, HN, hn, hO, hb2⟩
  have hb12 := nbelow_trans hb1 hb2
  have hb02 := nbelow_trans hb0 hb12
  have hn0 : ((n : Int) == 0) = false := by
    have : n ≠ 0 := fun q => by
      have h1 := (words_nil _).1 (List.length_eq_zero_iff.1 (by rw [← HN.out]; exact q))
      have h2 := HO.out.1
      rw [h1] at h2; omega
    simp; omega
  have k0' := dcarry_cell hb2 k0
  have k1' := dcarry_cell hb2 k1
  have k2' := dcarry_cell hb2 k2
  have hws : w.heap.size + 2 ≤ w1.heap.size := by have := hb1.size; simp at this; omega
  obtain ⟨m0, m1, m2, m3, f0, f1, f2, f3⟩ := zero_num (r := w.heap.size + 1) hb12 (by simp)
  clear k0 k1 k2 hb12 hb1 hb0 hb01 hb2
  go_wp2_with fail
  refine bodyPost_ret (v := numV s ao n c (e + (t : Int)) false) (by simp [results, Tryd.results25, go_sem, m0, m1, m2, m3]) rfl ⟨ao, n, c, rfl, HN, hn, ?_, ?_⟩
  · exact ((((hO.far _ _ (by show w.heap.size + 1 < _; omega)).far _ _ (by show w.heap.size + 1 < _; omega)).far _ _ (by show w.heap.size + 1 < _; omega)).far _ _ (by show w.heap.size + 1 < _; omega)).low (by omega)
  · exact (((hb02.setCell (by show w.heap.size ≤ w.heap.size + 1; omega) _).setCell (by show w.heap.size ≤ w.heap.size + 1; omega) _).setCell (by show w.heap.size ≤ w.heap.size + 1; omega) _).setCell (by show w.heap.size ≤ w.heap.size + 1; omega) _


set_option maxRecDepth 100000 in
set_option maxHeartbeats 2000000 in
theorem canonical_far (s : Bool) (a : Option Addr) (len cap : Nat) (xs : List Int) (e : Int) (w : World) (h : IsW w a len cap xs) (hm : len ≤ 17592186044416) (hT : Tab w) (hg : greatB (val xs) = false) (h0 : val xs ≠ 0) :
    Calls Tryd.prog 25 #[dyV s a len cap e] w fun r w' => ∃ (ao : Option Addr) (n c : Nat) (e' : Int), r = .returned (numV s ao n c e' false) ∧ Hid (n = (wordsOf (val xs / 2 ^ tz (val xs))).length) ∧ n ≤ 1024 ∧ OwnW w.heap.size w' ao n c (wordsOf (val xs / 2 ^ tz (val xs))) ∧ Below w.heap.size w w' := by
  have hbl : blen (val xs) ≤ 65536 := (great_not _).1 hg
  have htz := tz_le_blen (val xs)
  have HG : Hid (greatB (val xs) = false) := hg
  have HO : Hid _ := odd_part h0
  obtain ⟨t, ht⟩ : ∃ t, t = tz (val xs) := ⟨_, rfl⟩
  rw [← ht] at htz HO ⊢
  have HTT : Hid (t = tz (val xs)) := ht
  clear hg h0 ht
  go_enter Tryd.func25, Tryd.ntmps25
  go_wp2_with fail
  have hb0 : Below w.heap.size w ((w.alloc (.cells #[.bool s, .slice a len cap, .int .i64 e] 25)).alloc (.cells #[.bool false, .slice none 0 0, .int .i64 0, .bool false] 52)) := nbelow_trans (below_one _ _) (below_one _ _)
  refine Calls.mono (low_calls a len cap xs _ (h.keep hb0) hm (hT.kept hb0)) ?_
  rintro r w1 ⟨_, hr, hb1⟩
  obtain rfl := hr HG.out
  rw [← HTT.out]
  have hb01 := nbelow_trans hb0 hb1
  have k0 : w1.cell? ⟨w.heap.size, 0, none⟩ = some (.bool s) := dcarry_cell hb1 (by go_simp)
  have k1 : w1.cell? ⟨w.heap.size, 1, none⟩ = some (.slice a len cap) := dcarry_cell hb1 (by go_simp)
  have k2 : w1.cell? ⟨w.heap.size, 2, none⟩ = some (.int .i64 e) := dcarry_cell hb1 (by go_simp)
  clear hr
  go_wp2_with fail
  obtain ⟨g1, g2, g3⟩ := shr_fit (u := val xs) (j := t) HG.out
  refine Calls.mono (shr_eq (w := w1) (i := (t : Int)) (h.keep hb01) hm (by omega) g2 g3 g1) ?_
  rintro r w2 ⟨ao, n, c, rfl, HN, hn, hO, hb2⟩
  have hb12 := nbelow_trans hb1 hb2
  have hb02 := nbelow_trans hb0 hb12
  have hn0 : ((n : Int) == 0) = false := by
    have : n ≠ 0 := fun q => by
      have h1 := (words_nil _).1 (List.length_eq_zero_iff.1 (by rw [← HN.out]; exact q))
      have h2 := HO.out.1
      rw [h1] at h2; omega
    simp; omega
  have k0' := dcarry_cell hb2 k0
  have k1' := dcarry_cell hb2 k1
  have k2' := dcarry_cell hb2 k2
  have hws : w.heap.size + 2 ≤ w1.heap.size := by have := hb1.size; simp at this; omega
  obtain ⟨m0, m1, m2, m3, f0, f1, f2, f3⟩ := zero_num (r := w.heap.size + 1) hb12 (by simp)
  clear k0 k1 k2 hb12 hb1 hb0 hb01 hb2
  go_wp2_with fail
  refine bodyPost_ret (v := numV s ao n c (wrap64 (e + (t : Int))) false) (by simp [results, Tryd.results25, go_sem, m0, m1, m2, m3]) rfl ⟨ao, n, c, _, rfl, HN, hn, ?_, ?_⟩
  · exact ((((hO.far _ _ (by show w.heap.size + 1 < _; omega)).far _ _ (by show w.heap.size + 1 < _; omega)).far _ _ (by show w.heap.size + 1 < _; omega)).far _ _ (by show w.heap.size + 1 < _; omega)).low (by omega)
  · exact (((hb02.setCell (by show w.heap.size ≤ w.heap.size + 1; omega) _).setCell (by show w.heap.size ≤ w.heap.size + 1; omega) _).setCell (by show w.heap.size ≤ w.heap.size + 1; omega) _).setCell (by show w.heap.size ≤ w.heap.size + 1; omega) _


set_option maxRecDepth 100000 in
set_option maxHeartbeats 2000000 in
theorem canonical_none (s : Bool) (a : Option Addr) (len cap : Nat) (xs : List Int) (e : Int) (w : World) (h : IsW w a len cap xs) (hm : len ≤ 17592186044416) (hT : Tab w) (hz : greatB (val xs) = true ∨ val xs = 0) :
    Calls Tryd.prog 25 #[dyV s a len cap e] w fun r w' => r = .returned (numV false none 0 0 0 false) ∧ Below w.heap.size w w' := by
  have hl0 : (greatB (val xs) = true → shrQ (val xs) 0 = 0) ∧ (greatB (val xs) = false → shrQ (val xs) 0 = 0) := by
    refine ⟨fun q => (shr_great q).2.1, fun q => ?_⟩
    rcases hz with h1 | h1
    · rw [h1] at q; cases q
    · have := (shr_fit (u := val xs) (j := 0) q).2.1
      rw [h1] at this ⊢; simpa using this
  have HQ : Hid (shrQ (val xs) 0 = 0) := by
    cases hg : greatB (val xs) with
    | true => exact hl0.1 hg
    | false => exact hl0.2 hg
  have HZ : Hid (greatB (val xs) = true ∨ val xs = 0) := hz
  clear hl0 hz
  go_enter Tryd.func25, Tryd.ntmps25
  go_wp2_with fail
  have hb0 : Below w.heap.size w ((w.alloc (.cells #[.bool s, .slice a len cap, .int .i64 e] 25)).alloc (.cells #[.bool false, .slice none 0 0, .int .i64 0, .bool false] 52)) := nbelow_trans (below_one _ _) (below_one _ _)
  refine Calls.mono (low_calls a len cap xs _ (h.keep hb0) hm (hT.kept hb0)) ?_
  rintro r w1 ⟨hr1, hr2, hb1⟩
  obtain ⟨le, rfl⟩ : ∃ le : Int, r = .returned (.tuple #[.int .i64 0, .int .i64 le]) := by
    cases hg : greatB (val xs) with
    | true => exact ⟨3, hr1 hg⟩
    | false =>
      rcases HZ.out with h1 | h1
      · rw [hg] at h1; cases h1
      · refine ⟨0, ?_⟩
        rw [hr2 hg, h1, tz_zero]; rfl
  have hb01 := nbelow_trans hb0 hb1
  have k1 : w1.cell? ⟨w.heap.size, 1, none⟩ = some (.slice a len cap) := dcarry_cell hb1 (by go_simp)
  clear hr1 hr2
  go_wp2_with fail
  refine Calls.mono (shr_eq (w := w1) (i := 0) (h.keep hb01) hm (by omega) HQ.out rfl rfl) ?_
  rintro r w2 ⟨ao, n, c, rfl, HN, hn, hO, hb2⟩
  obtain rfl : n = 0 := by rw [HN.out, words_zero]; rfl
  have hb12 := nbelow_trans hb1 hb2
  have hb02 := nbelow_trans hb0 hb12
  obtain ⟨m0, m1, m2, m3, f0, f1, f2, f3⟩ := zero_num (r := w.heap.size + 1) hb12 (by simp)
  clear k1 hb12 hb1 hb0 hb01 hb2
  go_wp2_with fail
  refine bodyPost_ret (v := numV false none 0 0 0 false) (by simp [results, Tryd.results25, go_sem, m0, m1, m2, m3]) rfl ⟨rfl, ?_⟩
  exact (((hb02.setCell (by show w.heap.size ≤ w.heap.size + 1; omega) _).setCell (by show w.heap.size ≤ w.heap.size + 1; omega) _).setCell (by show w.heap.size ≤ w.heap.size + 1; omega) _).setCell (by show w.heap.size ≤ w.heap.size + 1; omega) _


theorem form_words_ne {m n : Nat} (h : m ≠ 0) (hn : n = (wordsOf (m / 2 ^ tz m)).length) : n ≠ 0 := fun q => by
  have h1 := (words_nil _).1 (List.length_eq_zero_iff.1 (by rw [← hn]; exact q))
  have h2 := (odd_part h).1
  rw [h1] at h2; omega
/-- What canonical makes, whatever comes in; its exponent where nothing wraps round. -/
theorem canonical_calls (s : Bool) (a : Option Addr) (len cap : Nat) (xs : List Int) (e : Int) (w : World) (h : IsW w a len cap xs) (hm : len ≤ 17592186044416) (hT : Tab w) :
    Calls Tryd.prog 25 #[dyV s a len cap e] w fun r w' => ∃ (ao : Option Addr) (n c : Nat) (e' : Int), r = .returned (numV (canG s (val xs) e).1 ao n c e' false) ∧ Hid (-4611686018427387904 ≤ e → e ≤ 4611686018427387904 → e' = (canG s (val xs) e).2.2) ∧ Hid (n = (wordsOf (canG s (val xs) e).2.1).length) ∧ Hid (n = 0 → ao = none ∧ c = 0) ∧ n ≤ 1024 ∧ OwnW w.heap.size w' ao n c (wordsOf (canG s (val xs) e).2.1) ∧ Below w.heap.size w w' := by
  cases hg : greatB (val xs) with
  | true =>
    rw [canG_yes hg]
    refine Calls.mono (canonical_none s a len cap xs e w h hm hT (Or.inl hg)) ?_
    rintro r w' ⟨rfl, hb⟩
    refine ⟨none, 0, 0, 0, rfl, fun _ _ => rfl, ?_, fun _ => ⟨rfl, rfl⟩, by omega, ?_, hb⟩
    · rw [words_zero]; rfl
    · rw [words_zero]; exact ownW_nil _ _
  | false =>
    rw [canG_no hg]
    by_cases h0 : val xs = 0
    · rw [h0, form_zero]
      refine Calls.mono (canonical_none s a len cap xs e w h hm hT (Or.inr h0)) ?_
      rintro r w' ⟨rfl, hb⟩
      refine ⟨none, 0, 0, 0, rfl, fun _ _ => rfl, ?_, fun _ => ⟨rfl, rfl⟩, by omega, ?_, hb⟩
      · rw [words_zero]; rfl
      · rw [words_zero]; exact ownW_nil _ _
    · rw [form_pos s h0]
      by_cases he : -4611686018427387904 ≤ e ∧ e ≤ 4611686018427387904
      · refine Calls.mono (canonical_fit s a len cap xs e w h hm hT hg h0 he) ?_
        rintro r w' ⟨ao, n, c, rfl, h1, h2, h3, h4⟩
        exact ⟨ao, n, c, _, rfl, fun _ _ => rfl, h1, fun q => absurd q (form_words_ne h0 h1.out), h2, h3, h4⟩
      · refine Calls.mono (canonical_far s a len cap xs e w h hm hT hg h0) ?_
        rintro r w' ⟨ao, n, c, e', rfl, h1, h2, h3, h4⟩
        exact ⟨ao, n, c, e', rfl, fun q1 q2 => absurd ⟨q1, q2⟩ he, h1, fun q => absurd q (form_words_ne h0 h1.out), h2, h3, h4⟩
end Go.Proofs.YticjhheceoeilaaDoor
