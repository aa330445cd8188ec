/- The document's dyadic numbers, fourth part: Neg, Twice, Shift; the program's Neg, Abs, Shift in the same words. -/
import Derived.Test.YtcoeaanhjclgbaaDoorRDA
import Derived.Test.YtcoeaanhjclgbaaDoorPShift
namespace Go.Proofs.YtcoeaanhjclgbaaDoor
open Go.RowKit

set_option maxRecDepth 100000 in
set_option maxHeartbeats 2000000 in
theorem qNeg_calls (s : Bool) (a : Option Addr) (len cap : Nat) (xs : List Int) (e : Int) (w : World) (h : IsW w a len cap xs) (hm : len ≤ 17592186044000) (he : -4611686018427387904 ≤ e ∧ e ≤ 4611686018427387904) :
    Calls Tryd.prog 23 #[dyV s a len cap e] w fun r w' => ∃ v, r = .returned v ∧ DyQ w.heap.size w' v (formD (!s) (val xs) e) ∧ Below w.heap.size w w' := by
  have hb0 : Below w.heap.size w ((w.alloc (.cells #[.bool s, .slice a len cap, .int .i64 e] 25)).alloc (.cells #[.bool false, .slice none 0 0, .int .i64 0] 25)) := nbelow_trans (below_one _ _) (below_one _ _)
  have HF : Hid _ := qForm_calls (!s) a len cap xs e _ (h.keep hb0) hm (by omega)
  clear he
  generalize formD (!s) (val xs) e = p at *
  go_enter Tryd.func23, Tryd.ntmps23
  go_wp2_with fail
  refine Calls.mono HF.out ?_
  rintro r w1 ⟨_, rfl, ⟨a1, n1, c1, rfl, HN1, hO1⟩, hb1⟩
  obtain ⟨m0, m1, m2, f0, f1, f2⟩ := zero_dy (r := w.heap.size + 1) hb1 (by simp)
  have hb01 := nbelow_trans hb0 hb1
  have hws : w.heap.size + 2 ≤ w1.heap.size := by have := hb1.size; simp at this; omega
  clear hb1 HF
  go_wp2_with fail
  refine bodyPost_ret (v := dyV p.1 a1 n1 c1 p.2.2) (by simp [results, Tryd.results23, go_sem, m0, m1, m2]) rfl ⟨_, rfl, ⟨a1, n1, c1, rfl, HN1, ?_⟩, ?_⟩
  · exact (((hO1.far _ _ (by simp)).far _ _ (by simp)).far _ _ (by simp)).low (by simp; omega)
  · exact ((hb01.setCell (by show w.heap.size ≤ w.heap.size + 1; omega) _).setCell (by show w.heap.size ≤ w.heap.size + 1; omega) _).setCell (by show w.heap.size ≤ w.heap.size + 1; omega) _

set_option maxRecDepth 100000 in
set_option maxHeartbeats 2000000 in
theorem qTwice_calls (s : Bool) (a : Option Addr) (len cap : Nat) (xs : List Int) (e : Int) (i : Int) (w : World) (h : IsW w a len cap xs) (hm : len ≤ 17592186044000) (he : (-2305843009213693952 ≤ e ∧ e ≤ 2305843009213693952) ∧ -2305843009213693952 ≤ i ∧ i ≤ 2305843009213693952) :
    Calls Tryd.prog 61 #[dyV s a len cap e, .int .i64 i] w fun r w' => ∃ v, r = .returned v ∧ DyQ w.heap.size w' v (formD s (val xs) (e + i)) ∧ Below w.heap.size w w' := by
  have hb0 : Below w.heap.size w ((w.alloc (.cells #[.bool s, .slice a len cap, .int .i64 e] 25)).alloc (.cells #[.bool false, .slice none 0 0, .int .i64 0] 25)) := nbelow_trans (below_one _ _) (below_one _ _)
  have HF : Hid _ := qForm_calls s a len cap xs (e + i) _ (h.keep hb0) hm (by omega)
  obtain ⟨⟨he1, he2⟩, hi1, hi2⟩ := he
  generalize formD s (val xs) (e + i) = p at *
  go_enter Tryd.func61, Tryd.ntmps61
  go_wp2_with fail
  refine Calls.mono HF.out ?_
  rintro r w1 ⟨_, rfl, ⟨a1, n1, c1, rfl, HN1, hO1⟩, hb1⟩
  obtain ⟨m0, m1, m2, f0, f1, f2⟩ := zero_dy (r := w.heap.size + 1) hb1 (by simp)
  have hb01 := nbelow_trans hb0 hb1
  have hws : w.heap.size + 2 ≤ w1.heap.size := by have := hb1.size; simp at this; omega
  clear hb1 HF
  go_wp2_with fail
  refine bodyPost_ret (v := dyV p.1 a1 n1 c1 p.2.2) (by simp [results, Tryd.results61, go_sem, m0, m1, m2]) rfl ⟨_, rfl, ⟨a1, n1, c1, rfl, HN1, ?_⟩, ?_⟩
  · exact (((hO1.far _ _ (by simp)).far _ _ (by simp)).far _ _ (by simp)).low (by simp; omega)
  · exact ((hb01.setCell (by show w.heap.size ≤ w.heap.size + 1; omega) _).setCell (by show w.heap.size ≤ w.heap.size + 1; omega) _).setCell (by show w.heap.size ≤ w.heap.size + 1; omega) _

/-- What Shift answers. -/
def shB (m : Nat) (e i : Int) : Bool := rightB m e && decide (-65536 ≤ i ∧ i ≤ 65536)
def shE (s : Bool) (m : Nat) (e i : Int) : Int := if shB m e i = true then roomE (formD s m (e + i)) else 2
def shP (s : Bool) (m : Nat) (e i : Int) : Bool × Nat × Int := if shB m e i = true then roomP (formD s m (e + i)) else (false, 0, 0)
theorem sh_no {s : Bool} {m : Nat} {e i : Int} (h : shB m e i = false) : shE s m e i = 2 ∧ shP s m e i = (false, 0, 0) := by unfold shE shP; rw [if_neg (by rw [h]; decide), if_neg (by rw [h]; decide)]; exact ⟨rfl, rfl⟩
theorem sh_yes {s : Bool} {m : Nat} {e i : Int} (h : shB m e i = true) : shE s m e i = roomE (formD s m (e + i)) ∧ shP s m e i = roomP (formD s m (e + i)) := by unfold shE shP; rw [if_pos h, if_pos h]; exact ⟨rfl, rfl⟩
theorem pShift_calls (s : Bool) (a : Option Addr) (len cap : Nat) (xs : List Int) (e i : Int) (w : World) (h : IsW w a len cap xs) (hm : len ≤ 17592186044416) (hT : Tab w) :
    Calls Tryd.prog 25 #[dyV s a len cap e, .int .i64 i] w fun r w' => ∃ v', r = .returned (.tuple #[v', .int .i64 (shE s (val xs) e i)]) ∧ DyAt w.heap.size w' v' (shP s (val xs) e i) ∧ Below w.heap.size w w' := by
  by_cases hi : -65536 ≤ i ∧ i ≤ 65536
  · cases hr : rightB (val xs) e with
    | false =>
      obtain ⟨e1, e2⟩ := sh_no (s := s) (show shB (val xs) e i = false by unfold shB; rw [hr]; rfl)
      rw [e1, e2]
      refine (dshift_not s a len cap xs e i w h hm hi hr).mono ?_
      rintro r w' ⟨rfl, hb⟩
      exact ⟨_, rfl, dyAt_zero _ _, hb⟩
    | true =>
      obtain ⟨e1, e2⟩ := sh_yes (s := s) (show shB (val xs) e i = true by unfold shB; rw [hr, decide_eq_true hi]; rfl)
      rw [e1, e2, ← shift_form]
      exact dshift_yes s a len cap xs e i w h hm hT hi hr
  · obtain ⟨e1, e2⟩ := sh_no (s := s) (show shB (val xs) e i = false by unfold shB; rw [decide_eq_false hi, Bool.and_false])
    rw [e1, e2]
    refine (dshift_far s a len cap e i w (by omega)).mono ?_
    rintro r w' ⟨rfl, hb⟩
    exact ⟨_, rfl, dyAt_zero _ _, hb⟩

set_option maxRecDepth 100000 in
set_option maxHeartbeats 2000000 in
theorem qShift_calls (s : Bool) (a : Option Addr) (len cap : Nat) (xs : List Int) (e i : Int) (w : World) (h : IsW w a len cap xs) (hm : len ≤ 17592186044000) :
    Calls Tryd.prog 26 #[dyV s a len cap e, .int .i64 i] w fun r w' => ∃ v', r = .returned (.tuple #[v', .int .i64 (shE s (val xs) e i)]) ∧ DyQ w.heap.size w' v' (shP s (val xs) e i) ∧ Below w.heap.size w w' := by
  have hb0 : Below w.heap.size w ((w.alloc (.cells #[.bool s, .slice a len cap, .int .i64 e] 25)).alloc (.cells #[.bool false, .slice none 0 0, .int .i64 0] 25)) := nbelow_trans (below_one _ _) (below_one _ _)
  have HR : Hid _ := qRight_calls s a len cap xs e _ (h.keep hb0) (by omega)
  cases hr : rightB (val xs) e with
  | false =>
    rw [hr] at HR
    obtain ⟨e1, e2⟩ := sh_no (s := s) (show shB (val xs) e i = false by unfold shB; rw [hr]; rfl)
    rw [e1, e2]
    clear hr e1 e2
    go_enter Tryd.func26, Tryd.ntmps26
    go_wp2_with fail
    refine Calls.mono HR.out ?_
    rintro r w1 ⟨rfl, hb1⟩
    obtain ⟨m0, m1, m2, f0, f1, f2⟩ := zero_dy (r := w.heap.size + 1) hb1 (by simp)
    have hb01 := nbelow_trans hb0 hb1
    clear hb1 hb0
    go_wp2_with fail
    refine bodyPost_ret (v := .tuple #[dyV false none 0 0 0, .int .i64 2]) (by simp [results, Tryd.results26, go_sem, m0, m1, m2]) rfl ⟨_, rfl, dyQ_zero _ _, ?_⟩
    exact ((hb01.setCell (by show w.heap.size ≤ w.heap.size + 1; omega) _).setCell (by show w.heap.size ≤ w.heap.size + 1; omega) _).setCell (by show w.heap.size ≤ w.heap.size + 1; omega) _
  | true =>
    rw [hr] at HR
    by_cases hi1 : i < -65536
    · obtain ⟨e1, e2⟩ := sh_no (s := s) (show shB (val xs) e i = false by unfold shB; rw [decide_eq_false (by omega), Bool.and_false])
      rw [e1, e2]
      clear hr e1 e2
      go_enter Tryd.func26, Tryd.ntmps26
      go_wp2_with fail
      refine Calls.mono HR.out ?_
      rintro r w1 ⟨rfl, hb1⟩
      obtain ⟨m0, m1, m2, f0, f1, f2⟩ := zero_dy (r := w.heap.size + 1) hb1 (by simp)
      have hb01 := nbelow_trans hb0 hb1
      clear hb1 hb0
      go_wp2_with fail
      refine bodyPost_ret (v := .tuple #[dyV false none 0 0 0, .int .i64 2]) (by simp [results, Tryd.results26, go_sem, m0, m1, m2]) rfl ⟨_, rfl, dyQ_zero _ _, ?_⟩
      exact ((hb01.setCell (by show w.heap.size ≤ w.heap.size + 1; omega) _).setCell (by show w.heap.size ≤ w.heap.size + 1; omega) _).setCell (by show w.heap.size ≤ w.heap.size + 1; omega) _

    by_cases hi2 : 65536 < i
    · obtain ⟨e1, e2⟩ := sh_no (s := s) (show shB (val xs) e i = false by unfold shB; rw [decide_eq_false (by omega), Bool.and_false])
      rw [e1, e2]
      clear hr e1 e2
      go_enter Tryd.func26, Tryd.ntmps26
      go_wp2_with fail
      refine Calls.mono HR.out ?_
      rintro r w1 ⟨rfl, hb1⟩
      obtain ⟨m0, m1, m2, f0, f1, f2⟩ := zero_dy (r := w.heap.size + 1) hb1 (by simp)
      have hb01 := nbelow_trans hb0 hb1
      clear hb1 hb0
      go_wp2_with fail
      refine bodyPost_ret (v := .tuple #[dyV false none 0 0 0, .int .i64 2]) (by simp [results, Tryd.results26, go_sem, m0, m1, m2]) rfl ⟨_, rfl, dyQ_zero _ _, ?_⟩
      exact ((hb01.setCell (by show w.heap.size ≤ w.heap.size + 1; omega) _).setCell (by show w.heap.size ≤ w.heap.size + 1; omega) _).setCell (by show w.heap.size ≤ w.heap.size + 1; omega) _

    obtain ⟨e1, e2⟩ := sh_yes (s := s) (show shB (val xs) e i = true by unfold shB; rw [hr, decide_eq_true (by omega)]; rfl)
    rw [e1, e2]
    obtain ⟨-, b1, b2⟩ := rightB_yes hr
    have HO : Hid _ := fun w' g => qTwice_calls s a len cap xs e i w' g hm ⟨⟨by omega, by omega⟩, by omega, by omega⟩
    have hwl := words_form_len s xs (e + i) h.2.1
    have hlx := h.1
    have HM : Hid ((wordsOf (formD s (val xs) (e + i)).2.1).length ≤ 17592186044416) := by rw [Hid]; omega
    clear hr e1 e2 b1 b2 hwl hlx
    generalize formD s (val xs) (e + i) = p at *
    go_enter Tryd.func26, Tryd.ntmps26
    go_wp2_with fail
    refine Calls.mono HR.out ?_
    rintro r w1 ⟨rfl, hb1⟩
    have k0 : w1.cell? ⟨w.heap.size, 0, none⟩ = some (.bool s) := dcarry_cell hb1 (by go_simp)
    have k1 : w1.cell? ⟨w.heap.size, 1, none⟩ = some (.slice a len cap) := dcarry_cell hb1 (by go_simp)
    have k2 : w1.cell? ⟨w.heap.size, 2, none⟩ = some (.int .i64 e) := dcarry_cell hb1 (by go_simp)
    have hb01 := nbelow_trans hb0 hb1
    go_wp2_with fail
    refine Calls.mono (HO.out _ (h.keep hb01)) ?_
    rintro r w2 ⟨v2, rfl, hQ2, hb2⟩
    go_wp2_with fail
    refine Calls.mono (qRoom_calls v2 p w1.heap.size w2 hQ2 HM.out) ?_
    rintro r w3 ⟨_, rfl, ⟨a3, n3, c3, rfl, HN3, hO3⟩, hb3⟩
    have hb13 := nbelow_trans hb1 (nbelow_trans hb2 hb3)
    obtain ⟨m0, m1, m2, f0, f1, f2⟩ := zero_dy (r := w.heap.size + 1) hb13 (by simp)
    have hb03 := nbelow_trans hb0 hb13
    have hws : w.heap.size + 2 ≤ w1.heap.size := by have := hb1.size; simp at this; omega
    clear hb1 hb2 hb3 hb13 k0 k1 k2 hb01 hb0 hQ2
    go_wp2_with fail
    refine bodyPost_ret (v := .tuple #[dyV (roomP p).1 a3 n3 c3 (roomP p).2.2, .int .i64 (roomE p)]) (by simp [results, Tryd.results26, go_sem, m0, m1, m2]) rfl ⟨_, rfl, ⟨a3, n3, c3, rfl, HN3, ?_⟩, ?_⟩
    · exact (((hO3.far _ _ (by show w.heap.size + 1 < _; omega)).far _ _ (by show w.heap.size + 1 < _; omega)).far _ _ (by show w.heap.size + 1 < _; omega)).low (by omega)
    · exact ((hb03.setCell (by show w.heap.size ≤ w.heap.size + 1; omega) _).setCell (by show w.heap.size ≤ w.heap.size + 1; omega) _).setCell (by show w.heap.size ≤ w.heap.size + 1; omega) _

theorem room_neg (p : Bool × Nat × Int) : roomE (negD p) = roomE p := rfl
theorem room_abs (p : Bool × Nat × Int) : roomE (absD p) = roomE p := rfl
/-- Neg and Abs of the one form: the error is Canon's. -/
def ngP (s : Bool) (m : Nat) (e : Int) : Bool × Nat × Int := if canE s m e = 0 then negD (canP s m e) else (false, 0, 0)
theorem roomP_neg (p : Bool × Nat × Int) : roomP (negD p) = if roomE p = 0 then negD (roomP p) else (false, 0, 0) := by
  unfold roomP roomE
  have hb : roomB (negD p) = roomB p := rfl
  rw [hb]
  by_cases h : roomB p = true
  · rw [if_pos h, if_pos h, if_pos h]; rfl
  · rw [if_neg h, if_neg h, if_neg h]; rfl
theorem roomP_abs (p : Bool × Nat × Int) : roomP (absD p) = absD (roomP p) := by
  unfold roomP
  have hb : roomB (absD p) = roomB p := rfl
  rw [hb]
  by_cases h : roomB p = true
  · rw [if_pos h, if_pos h]
  · rw [if_neg h, if_neg h]; rfl
theorem pNeg_calls (s : Bool) (a : Option Addr) (len cap : Nat) (xs : List Int) (e : Int) (w : World) (h : IsW w a len cap xs) (hm : len ≤ 17592186044416) (hT : Tab w) :
    Calls Tryd.prog 22 #[dyV s a len cap e] w fun r w' => ∃ v', r = .returned (.tuple #[v', .int .i64 (canE s (val xs) e)]) ∧ DyAt w.heap.size w' v' (ngP s (val xs) e) ∧ Below w.heap.size w w' := by
  unfold ngP
  cases hr : rightB (val xs) e with
  | false =>
    obtain ⟨e1, e2⟩ := canE_not (s := s) hr
    rw [e1, if_neg (by decide)]
    refine (neg_not s a len cap xs e w h hm hT hr).mono ?_
    rintro r w' ⟨rfl, hb⟩
    exact ⟨_, rfl, dyAt_zero _ _, hb⟩
  | true =>
    obtain ⟨e1, e2⟩ := canE_yes (s := s) hr
    rw [e1, e2]
    have := neg_yes s a len cap xs e w h hm hT hr
    rw [room_neg, roomP_neg] at this
    exact this
theorem pAbs_calls (s : Bool) (a : Option Addr) (len cap : Nat) (xs : List Int) (e : Int) (w : World) (h : IsW w a len cap xs) (hm : len ≤ 17592186044416) (hT : Tab w) :
    Calls Tryd.prog 24 #[dyV s a len cap e] w fun r w' => ∃ v', r = .returned (.tuple #[v', .int .i64 (canE s (val xs) e)]) ∧ DyAt w.heap.size w' v' (absD (canP s (val xs) e)) ∧ Below w.heap.size w w' := by
  cases hr : rightB (val xs) e with
  | false =>
    obtain ⟨e1, e2⟩ := canE_not (s := s) hr
    rw [e1, e2]
    refine (abs_not s a len cap xs e w h hm hT hr).mono ?_
    rintro r w' ⟨rfl, hb⟩
    exact ⟨_, rfl, dyAt_zero _ _, hb⟩
  | true =>
    obtain ⟨e1, e2⟩ := canE_yes (s := s) hr
    rw [e1, e2]
    have := abs_yes s a len cap xs e w h hm hT hr
    rw [room_abs, roomP_abs] at this
    exact this
theorem canP_can (s : Bool) (m : Nat) (e : Int) : CanD (canP s m e) := by
  unfold canP roomP
  split
  · split
    · exact form_can s m e
    · exact Or.inl rfl
  · exact Or.inl rfl
theorem neg_can {p : Bool × Nat × Int} (h : CanD p) : formD (!p.1) p.2.1 p.2.2 = negD p := by
  rcases h with h | h
  · rw [h, form_zero]; rfl
  · rw [form_odd _ h]
    unfold negD
    rw [decide_eq_false (by omega)]
    simp
end Go.Proofs.YtcoeaanhjclgbaaDoor
