/- The program's Shift. The document's dyadic numbers, fourth part: Neg, Twice, Shift; the program's Neg, Abs, Shift in the same words. The document's dyadic numbers: the difference. The document's dyadic numbers: Sign, Top, Order, Cmp, Bits, Size, TopOf. -/
import Derived.Test.YtoefhlapfnjbjaaGreatDoorTMF
import Derived.Test.YtoefhlapfnjbjaaGreatDoorTMH
import Derived.Test.YtoefhlapfnjbjaaGreatDoorRD13
import Derived.Test.YtoefhlapfnjbjaaGreatDoorDCmp2

namespace Go.Proofs.YtoefhlapfnjbjaaGreatDoor
open Go.RowKit

attribute [local go_sem ↓] Go.wp_at_zero Go.wp_at_succ

def shiftD (p : Bool × Nat × Int) (i : Int) : Bool × Nat × Int := (p.1, p.2.1, if p.2.1 = 0 then p.2.2 else p.2.2 + i)
theorem shift_form (s : Bool) (m : Nat) (e i : Int) : shiftD (formD s m e) i = formD s m (e + i) := by
  unfold shiftD
  by_cases h : m = 0
  · rw [h, form_zero, form_zero]; rfl
  · have h2 := (odd_part h).1
    rw [form_pos s h, form_pos s h, if_neg (show ¬ m / 2 ^ tz m = 0 from fun q => by rw [q] at h2; omega)]
    show (s, m / 2 ^ tz m, e + (tz m : Int) + i) = _
    rw [Int.add_right_comm]

def shfE (n : Nat) (e i : Int) : Int := if n = 0 then e else e + i
theorem shifted2_calls (s : Bool) (a : Option Addr) (n c : Nat) (e : Int) (g : Bool) (i : Int) (w : World) (he : -4611686018427387904 ≤ e ∧ e ≤ 4611686018427387904) (hi : -65536 ≤ i ∧ i ≤ 65536) :
    Calls Tryz.prog 139 #[numV s a n c e g, .int .i64 i] w fun r w' => r = .returned (numV s a n c (shfE n e i) g) ∧ Below w.heap.size w w' := shifted_calls s a n c e g i w he hi

set_option maxRecDepth 100000 in
set_option maxHeartbeats 4000000 in
theorem shift1_calls (b1 b2 : Nat) (s : Bool) (a : Option Addr) (len cap : Nat) (xs : List Int) (e : Int) (i : Int) (w : World) (h : IsW w a len cap xs) (hm : len ≤ 17592186044416) (hT : Tab w) (hr : rightB (val xs) e = true) (hi : -65536 ≤ i ∧ i ≤ 65536)
    (k0 : w.cell? ⟨b1, 0, none⟩ = some (.bool s)) (k1 : w.cell? ⟨b1, 1, none⟩ = some (.slice a len cap)) (k2 : w.cell? ⟨b1, 2, none⟩ = some (.int .i64 e))
    (l0 : w.cell? ⟨b2, 0, none⟩ = some (.int .i64 i)) :
    Calls Tryz.prog 138 #[.pointer (some ⟨b1, 0, none⟩), .pointer (some ⟨b2, 0, none⟩)] w fun r w' => ∃ v, r = .returned v ∧ NumR w.heap.size w' v (shiftD (formD s (val xs) e) i) ∧ Below w.heap.size w w' := by
  have HCGX : Hid (canG s (val xs) e = (formD s (val xs) e)) := canG_no (rightB_yes hr).1
  have HEBX : Hid _ := right_exp hr
  have HGX : Hid _ := form_fit s (val xs) e hr
  have HBX : Hid _ := form_bounds s (val xs) e hr
  have hl1 : b1 < w.heap.size := World.block_lt_of_cell? _ _ k0
  have hl2 : b2 < w.heap.size := World.block_lt_of_cell? _ _ l0
  have hn1 : b1 ≠ w.heap.size := Nat.ne_of_lt hl1
  have hn2 : b2 ≠ w.heap.size := Nat.ne_of_lt hl2
  clear hr
  go_enter Tryz.func138, Tryz.ntmps138
  go_wp2_with fail
  go_region_with (first
      | (go_at_call 76; refine calls_guard #[dyV s a len cap e] ?_ ?_; (focus rfl); refine (canonical_calls s a len cap xs e _ (h.keep (by repeat (first | exact hbwQ | exact Below.refl _ _ | apply Below.drew | refine Below.alloc ?_ (by simp; try omega) _))) hm (hT.kept (by repeat (first | exact hbwQ | exact Below.refl _ _ | apply Below.drew | refine Below.alloc ?_ (by simp; try omega) _)))).mono ?_; rintro r wX ⟨aX, nX, cX, eX, rfl, HEX, HNX, HZX, hnX, hOX, hbX⟩; have hbwX : Below w.heap.size w wX := nT (by repeat (first | exact hbwQ | exact Below.refl _ _ | apply Below.drew | refine Below.alloc ?_ (by simp; try omega) _)) hbX; have hbzX : Below (w.alloc (.cells #[.bool false, .slice none 0 0, .int .i64 0, .bool false] 101)).heap.size (w.alloc (.cells #[.bool false, .slice none 0 0, .int .i64 0, .bool false] 101)) wX := nT (by repeat (first | exact hbzQ | exact Below.refl _ _ | apply Below.drew | refine Below.alloc ?_ (by simp; try omega) _)) hbX; obtain rfl := HEX.out HEBX.out.1 HEBX.out.2; rw [HCGX.out] at hOX HNX ⊢; clear HEX; have hPX := hOX.low (B' := w.heap.size + 1) (by first | (have := hbzQ.size; simp at this ⊢; omega) | simp); have qX0 := kC hbwX k0; have qX1 := kC hbwX k1; have qX2 := kC hbwX k2; have qX3 := kC hbwX l0)
      | (go_at_call 139; refine (shifted2_calls (formD s (val xs) e).1 aX nX cX (formD s (val xs) e).2.2 false i _ ⟨by have := HBX.out; omega, by have := HBX.out; omega⟩ hi).mono ?_; rintro r wP ⟨rfl, hbP⟩; have hbwP := nT hbwX (show Below wX.heap.size wX wP from by first | exact hbP | exact (Below.refl _ _).drew.trans hbP); have hbzP := nT hbzX (show Below wX.heap.size wX wP from by first | exact hbP | exact (Below.refl _ _).drew.trans hbP); obtain ⟨m0, m1, m2, m3, f0, f1, f2, f3⟩ := zero_num (r := w.heap.size) hbzP rfl; have hOP := hPX.keep (show Below wX.heap.size wX wP from by first | exact hbP | exact (Below.refl _ _).drew.trans hbP)))
  all_goals
    have HX : Hid (shfE nX (formD s (val xs) e).2.2 i = (shiftD (formD s (val xs) e) i).2.2) := by
      rw [Hid, shfE, shiftD]
      have h0 : nX = 0 ↔ (formD s (val xs) e).2.1 = 0 := by rw [HNX.out, List.length_eq_zero_iff, words_nil]
      by_cases q : (formD s (val xs) e).2.1 = 0
      · rw [if_pos (h0.2 q), if_pos q]
      · rw [if_neg (fun z => q (h0.1 z)), if_neg q]
    rw [HX.out]
    go_wp2_with fail
    refine bodyPost_ret (v := numV (formD s (val xs) e).1 aX nX cX (shiftD (formD s (val xs) e) i).2.2 false) (by simp [results, Tryz.results138, go_sem, m0, m1, m2, m3]) rfl ⟨_, rfl, Or.inl ⟨HGX.out, aX, nX, cX, rfl, HNX, HZX, hnX, ((((hOP.far _ _ (by show w.heap.size < _; omega)).far _ _ (by show w.heap.size < _; omega)).far _ _ (by show w.heap.size < _; omega)).far _ _ (by show w.heap.size < _; omega)).low (by omega)⟩, ?_⟩
    exact (((hbwP.setCell (Nat.le_refl _) _).setCell (Nat.le_refl _) _).setCell (Nat.le_refl _) _).setCell (Nat.le_refl _) _

set_option maxRecDepth 100000 in
set_option maxHeartbeats 4000000 in
theorem dshift_far (s : Bool) (a : Option Addr) (len cap : Nat) (e : Int) (i : Int) (w : World) (hi : i < -65536 ∨ 65536 < i) :
    Calls Tryz.prog 119 #[dyV s a len cap e, .int .i64 i] w fun r w' => r = .returned (.tuple #[dyV false none 0 0 0, .int .i64 2]) ∧ Below w.heap.size w w' := by
  rcases hi with hi | hi
  · go_enter Tryz.func119, Tryz.ntmps119
    go_wp2_with fail
    refine bodyPost_ret (v := .tuple #[dyV false none 0 0 0, .int .i64 2]) (by simp [results, Tryz.results119, go_sem]) rfl ⟨rfl, ?_⟩
    repeat (first | exact Below.refl _ _ | refine Below.alloc ?_ (by simp; try omega) _ | refine Below.setCell ?_ (by simp; try omega) _)
  · have hn : ¬ i < -65536 := by omega
    go_enter Tryz.func119, Tryz.ntmps119
    go_wp2_with fail
    refine bodyPost_ret (v := .tuple #[dyV false none 0 0 0, .int .i64 2]) (by simp [results, Tryz.results119, go_sem]) rfl ⟨rfl, ?_⟩
    repeat (first | exact Below.refl _ _ | refine Below.alloc ?_ (by simp; try omega) _ | refine Below.setCell ?_ (by simp; try omega) _)

set_option maxRecDepth 100000 in
set_option maxHeartbeats 4000000 in
theorem dshift_not (s : Bool) (a : Option Addr) (len cap : Nat) (xs : List Int) (e : Int) (i : Int) (w : World) (h : IsW w a len cap xs) (hm : len ≤ 17592186044416) (hi : -65536 ≤ i ∧ i ≤ 65536) (hr : rightB (val xs) e = false) :
    Calls Tryz.prog 119 #[dyV s a len cap e, .int .i64 i] w fun r w' => r = .returned (.tuple #[dyV false none 0 0 0, .int .i64 2]) ∧ Below w.heap.size w w' := by
  have hmf : ∀ (fn : Fn) (first cap : Array Value) (w : World), (Instr.makeFunc fn first cap).run Tryz.prog w = .ok (.func fn first cap) w := fun _ _ _ _ => rfl
  have HRB : Hid (rightB (val xs) e = false) := hr
  obtain ⟨hi1, hi2⟩ := hi
  clear hr
  go_enter Tryz.func119, Tryz.ntmps119
  go_wp2_with fail
  have hb0 : Below w.heap.size w ((((w.alloc (.cells #[.bool s, .slice a len cap, .int .i64 e] 27)).alloc (.cells #[.int .i64 i] 3)).alloc (.cells #[.bool false, .slice none 0 0, .int .i64 0] 27)).alloc (.cells #[.bool s, .slice a len cap, .int .i64 e] 27)) := by repeat (first | exact Below.refl _ _ | refine Below.alloc ?_ (by simp; try omega) _)
  refine Calls.mono (made_not _ _ _ (fun W hW => HRB.out ▸ right1_calls (w.heap.size + 1 + 1 + 1) s a len cap xs e W (h.keep (nT hb0 hW)) hm (kC hW (by go_simp)) (kC hW (by go_simp)) (kC hW (by go_simp)))) ?_
  rintro r w2 ⟨rfl, hbM⟩
  have hb2 := nT hb0 hbM
  obtain ⟨m0, m1, m2, f0, f1, f2⟩ := zero_dy (r := w.heap.size + 1 + 1) (w := (w.alloc (.cells #[.bool s, .slice a len cap, .int .i64 e] 27)).alloc (.cells #[.int .i64 i] 3)) (W' := w2) (nT (below_one _ _) hbM) (by simp)
  go_wp2_with fail
  refine bodyPost_ret (v := .tuple #[dyV false none 0 0 0, .int .i64 2]) (by simp [results, Tryz.results119, go_sem, m0, m1, m2]) rfl ⟨rfl, ?_⟩
  exact ((hb2.setCell (by show w.heap.size ≤ w.heap.size + 1 + 1; omega) _).setCell (by show w.heap.size ≤ w.heap.size + 1 + 1; omega) _).setCell (by show w.heap.size ≤ w.heap.size + 1 + 1; omega) _

set_option maxRecDepth 100000 in
set_option maxHeartbeats 4000000 in
theorem dshift_yes (s : Bool) (a : Option Addr) (len cap : Nat) (xs : List Int) (e : Int) (i : Int) (w : World) (h : IsW w a len cap xs) (hm : len ≤ 17592186044416) (hT : Tab w) (hi : -65536 ≤ i ∧ i ≤ 65536) (hr : rightB (val xs) e = true) :
    Calls Tryz.prog 119 #[dyV s a len cap e, .int .i64 i] w fun r w' => ∃ v', r = .returned (.tuple #[v', .int .i64 (roomE (shiftD (formD s (val xs) e) i))]) ∧ DyAt w.heap.size w' v' (roomP (shiftD (formD s (val xs) e) i)) ∧ Below w.heap.size w w' := by
  have hmf : ∀ (fn : Fn) (first cap : Array Value) (w : World), (Instr.makeFunc fn first cap).run Tryz.prog w = .ok (.func fn first cap) w := fun _ _ _ _ => rfl
  have HRB : Hid (rightB (val xs) e = true) := hr
  have HP : Hid _ := hi
  obtain ⟨hi1, hi2⟩ := hi
  clear hr
  go_enter Tryz.func119, Tryz.ntmps119
  go_wp2_with fail
  have hb0 : Below w.heap.size w ((((w.alloc (.cells #[.bool s, .slice a len cap, .int .i64 e] 27)).alloc (.cells #[.int .i64 i] 3)).alloc (.cells #[.bool false, .slice none 0 0, .int .i64 0] 27)).alloc (.cells #[.bool s, .slice a len cap, .int .i64 e] 27)) := by repeat (first | exact Below.refl _ _ | refine Below.alloc ?_ (by simp; try omega) _)
  refine Calls.mono (made_Shift w.heap.size (w.heap.size + 1) 0 (shiftD (formD s (val xs) e) i) _ _ (fun W hW => HRB.out ▸ right1_calls (w.heap.size + 1 + 1 + 1) s a len cap xs e W (h.keep (nT hb0 hW)) hm (kC hW (by go_simp)) (kC hW (by go_simp)) (kC hW (by go_simp)))
    (fun W hW => Calls.mono (shift1_calls w.heap.size (w.heap.size + 1) s a len cap xs e i W (h.keep (nT hb0 hW)) hm (hT.kept (nT hb0 hW)) HRB.out HP.out (kC hW (by go_simp)) (kC hW (by go_simp)) (kC hW (by go_simp)) (kC hW (by go_simp))) (by
      rintro r w5 ⟨v, rfl, hN, hb5⟩
      exact ⟨v, rfl, hN.low (Nat.zero_le _), hb5⟩))) ?_
  rintro r w2 ⟨v', rfl, ⟨a2, n2, c2, rfl, HN2, hn2, hO2⟩, hbM⟩
  have hb2 := nT hb0 hbM
  obtain ⟨m0, m1, m2, f0, f1, f2⟩ := zero_dy (r := w.heap.size + 1 + 1) (w := (w.alloc (.cells #[.bool s, .slice a len cap, .int .i64 e] 27)).alloc (.cells #[.int .i64 i] 3)) (W' := w2) (nT (below_one _ _) hbM) (by simp)
  go_wp2_with fail
  refine bodyPost_ret (v := .tuple #[dyV (roomP (shiftD (formD s (val xs) e) i)).1 a2 n2 c2 (roomP (shiftD (formD s (val xs) e) i)).2.2, .int .i64 (roomE (shiftD (formD s (val xs) e) i))]) (by simp [results, Tryz.results119, go_sem, m0, m1, m2]) rfl ⟨_, rfl, ⟨a2, n2, c2, rfl, HN2, hn2, (((hO2.far _ _ (by show w.heap.size + 1 + 1 < _; simp)).far _ _ (by show w.heap.size + 1 + 1 < _; simp)).far _ _ (by show w.heap.size + 1 + 1 < _; simp)).low (by simp; omega)⟩, ?_⟩
  exact ((hb2.setCell (by show w.heap.size ≤ w.heap.size + 1 + 1; omega) _).setCell (by show w.heap.size ≤ w.heap.size + 1 + 1; omega) _).setCell (by show w.heap.size ≤ w.heap.size + 1 + 1; omega) _
end Go.Proofs.YtoefhlapfnjbjaaGreatDoor

namespace Go.Proofs.YtoefhlapfnjbjaaGreatDoor
open Go.RowKit

set_option maxRecDepth 100000 in
set_option maxHeartbeats 2000000 in
theorem qNeg_calls (s : Bool) (a : Option Addr) (len cap : Nat) (xs : List Int) (e : Int) (w : World) (h : IsW w a len cap xs) (hm : len ≤ 17592186044000) (he : -4611686018427387904 ≤ e ∧ e ≤ 4611686018427387904) :
    Calls Tryz.prog 27 #[dyV s a len cap e] w fun r w' => ∃ v, r = .returned v ∧ DyQ w.heap.size w' v (formD (!s) (val xs) e) ∧ Below w.heap.size w w' := by
  have hb0 : Below w.heap.size w ((w.alloc (.cells #[.bool s, .slice a len cap, .int .i64 e] 27)).alloc (.cells #[.bool false, .slice none 0 0, .int .i64 0] 27)) := nT (below_one _ _) (below_one _ _)
  have HF : Hid _ := qForm_calls (!s) a len cap xs e _ (h.keep hb0) hm (by omega)
  clear he
  generalize formD (!s) (val xs) e = p at *
  go_enter Tryz.func27, Tryz.ntmps27
  go_wp2_with fail
  refine Calls.mono HF.out ?_
  rintro r w1 ⟨_, rfl, ⟨a1, n1, c1, rfl, HN1, hO1⟩, hb1⟩
  obtain ⟨m0, m1, m2, f0, f1, f2⟩ := zero_dy (r := w.heap.size + 1) hb1 (by simp)
  have hb01 := nT hb0 hb1
  have hws : w.heap.size + 2 ≤ w1.heap.size := by have := hb1.size; simp at this; omega
  clear hb1 HF
  go_wp2_with fail
  refine bodyPost_ret (v := dyV p.1 a1 n1 c1 p.2.2) (by simp [results, Tryz.results27, go_sem, m0, m1, m2]) rfl ⟨_, rfl, ⟨a1, n1, c1, rfl, HN1, ?_⟩, ?_⟩
  · exact (((hO1.far _ _ (by simp)).far _ _ (by simp)).far _ _ (by simp)).low (by simp; omega)
  · exact ((hb01.setCell (by show w.heap.size ≤ w.heap.size + 1; omega) _).setCell (by show w.heap.size ≤ w.heap.size + 1; omega) _).setCell (by show w.heap.size ≤ w.heap.size + 1; omega) _

/-- What Shift answers. -/
def shB (m : Nat) (e i : Int) : Bool := rightB m e && decide (-65536 ≤ i ∧ i ≤ 65536)
def shE (s : Bool) (m : Nat) (e i : Int) : Int := if shB m e i = true then roomE (formD s m (e + i)) else 2
def shP (s : Bool) (m : Nat) (e i : Int) : Bool × Nat × Int := if shB m e i = true then roomP (formD s m (e + i)) else (false, 0, 0)
theorem sh_no {s : Bool} {m : Nat} {e i : Int} (h : shB m e i = false) : shE s m e i = 2 ∧ shP s m e i = (false, 0, 0) := by unfold shE shP; rw [if_neg (by rw [h]; decide), if_neg (by rw [h]; decide)]; exact ⟨rfl, rfl⟩
theorem sh_yes {s : Bool} {m : Nat} {e i : Int} (h : shB m e i = true) : shE s m e i = roomE (formD s m (e + i)) ∧ shP s m e i = roomP (formD s m (e + i)) := by unfold shE shP; rw [if_pos h, if_pos h]; exact ⟨rfl, rfl⟩
theorem pShift_calls (s : Bool) (a : Option Addr) (len cap : Nat) (xs : List Int) (e i : Int) (w : World) (h : IsW w a len cap xs) (hm : len ≤ 17592186044416) (hT : Tab w) :
    Calls Tryz.prog 119 #[dyV s a len cap e, .int .i64 i] w fun r w' => ∃ v', r = .returned (.tuple #[v', .int .i64 (shE s (val xs) e i)]) ∧ DyAt w.heap.size w' v' (shP s (val xs) e i) ∧ Below w.heap.size w w' := by
  by_cases hi : -65536 ≤ i ∧ i ≤ 65536
  · cases hr : rightB (val xs) e with
    | false =>
      obtain ⟨e1, e2⟩ := sh_no (s := s) (show shB (val xs) e i = false by unfold shB; rw [hr]; rfl)
      rw [e1, e2]
      refine (dshift_not s a len cap xs e i w h hm hi hr).mono ?_
      rintro r w' ⟨rfl, hb⟩
      exact ⟨_, rfl, dyAt_zero _ _, hb⟩
    | true =>
      obtain ⟨e1, e2⟩ := sh_yes (s := s) (show shB (val xs) e i = true by unfold shB; rw [hr, decide_eq_true hi]; rfl)
      rw [e1, e2, ← shift_form]
      exact dshift_yes s a len cap xs e i w h hm hT hi hr
  · obtain ⟨e1, e2⟩ := sh_no (s := s) (show shB (val xs) e i = false by unfold shB; rw [decide_eq_false hi, Bool.and_false])
    rw [e1, e2]
    refine (dshift_far s a len cap e i w (by omega)).mono ?_
    rintro r w' ⟨rfl, hb⟩
    exact ⟨_, rfl, dyAt_zero _ _, hb⟩

end Go.Proofs.YtoefhlapfnjbjaaGreatDoor

namespace Go.Proofs.YtoefhlapfnjbjaaGreatDoor
open Go.RowKit

attribute [local go_sem ↓] Go.wp_at_zero Go.wp_at_succ

end Go.Proofs.YtoefhlapfnjbjaaGreatDoor

namespace Go.Proofs.YtoefhlapfnjbjaaGreatDoor
open Go.RowKit

attribute [local go_sem ↓] Go.wp_at_zero Go.wp_at_succ

set_option maxRecDepth 100000 in
set_option maxHeartbeats 2000000 in
theorem qBits_calls (s : Bool) (a : Option Addr) (len cap : Nat) (xs : List Int) (e : Int) (w : World) (h : IsW w a len cap xs) (hm : len ≤ 17592186044000) (hb : blen (val xs) ≤ 1000000000) :
    Calls Tryz.prog 21 #[dyV s a len cap e] w fun r w' => r = .returned (.int .i64 ((blen (val xs) : Int) - (tz (val xs) : Int))) ∧ Below w.heap.size w w' := by
  have bw : Below w.heap.size w (w.alloc (.cells #[.bool s, .slice a len cap, .int .i64 e] 27)) := below_one _ _
  have HL : Hid _ := fun W g => nLen_calls a len cap xs W g (by omega)
  have HO : Hid _ := fun W g => nLow_calls a len cap xs W g (by omega)
  have H1 : Hid (IsW w a len cap xs) := h
  have hz := tz_le_blen (val xs)
  have hw1 : IntKind.i64.wrap ((blen (val xs) : Int) - (tz (val xs) : Int)) = (blen (val xs) : Int) - (tz (val xs) : Int) := by rw [IntKind.wrap_i64]; omega
  generalize (blen (val xs) : Int) = bl at *
  generalize (tz (val xs) : Int) = tl at *
  have k0 : (w.alloc (.cells #[.bool s, .slice a len cap, .int .i64 e] 27)).cell? ⟨w.heap.size, 0, none⟩ = some (.bool s) := by go_simp
  have k1 : (w.alloc (.cells #[.bool s, .slice a len cap, .int .i64 e] 27)).cell? ⟨w.heap.size, 1, none⟩ = some (.slice a len cap) := by go_simp
  have k2 : (w.alloc (.cells #[.bool s, .slice a len cap, .int .i64 e] 27)).cell? ⟨w.heap.size, 2, none⟩ = some (.int .i64 e) := by go_simp
  clear h hm hb hz
  go_enter Tryz.func21, Tryz.ntmps21
  go_upto_region 1 with fail
  generalize (w.alloc (.cells #[.bool s, .slice a len cap, .int .i64 e] 27)) = w0 at *
  have bd : Below w0.heap.size w0 w0.drew := (Below.refl _ _).drew
  refine wp_region_held (S := fun w' => w'.cell? ⟨w.heap.size, 0, none⟩ = some (.bool s) ∧ w'.cell? ⟨w.heap.size, 1, none⟩ = some (.slice a len cap) ∧ w'.cell? ⟨w.heap.size, 2, none⟩ = some (.int .i64 e)) (by kernel_rfl) ?_
  change wpAnyH _ _ _ _ _ _ _ _ (World.drew w0)
  replace k0 := kC bd k0
  replace k1 := kC bd k1
  replace k2 := kC bd k2
  replace bw := nT bw bd
  clear bd
  generalize World.drew w0 = wd2 at *
  refine wpAnyH_take (i := 0) (v := ?vt2_0) rfl (by kernel_rfl) (by kernel_rfl) (by kernel_rfl) (fun _ _ _ h => h) (Or.inl ⟨by rfl, ?yt2_0⟩) ⟨k0, k1, k2⟩ ?rt2_0
  case yt2_0 => (rintro ww ⟨q0, q1, q2⟩; go_simp; try with_reducible rfl)
  try simp only [Act.put]
  refine wpAnyH_take (i := 1) (v := ?vt2_1) rfl (by kernel_rfl) (by kernel_rfl) (by kernel_rfl) (fun _ _ _ h => h) (Or.inl ⟨by rfl, ?yt2_1⟩) ⟨k0, k1, k2⟩ ?rt2_1
  case yt2_1 => (rintro ww ⟨q0, q1, q2⟩; go_simp; try with_reducible rfl)
  try simp only [Act.put]
  refine wpAnyH_take (i := 3) (v := ?vt2_3) rfl (by kernel_rfl) (by kernel_rfl) (by kernel_rfl) (fun _ _ _ h => h) (Or.inl ⟨by rfl, ?yt2_3⟩) ⟨k0, k1, k2⟩ ?rt2_3
  case yt2_3 => (rintro ww ⟨q0, q1, q2⟩; go_simp; try with_reducible rfl)
  try simp only [Act.put]
  refine wpAnyH_take (i := 4) (v := ?vt2_4) rfl (by kernel_rfl) (by kernel_rfl) (by kernel_rfl) (fun _ _ _ h => h) (Or.inl ⟨by rfl, ?yt2_4⟩) ⟨k0, k1, k2⟩ ?rt2_4
  case yt2_4 => (rintro ww ⟨q0, q1, q2⟩; go_simp; try with_reducible rfl)
  try simp only [Act.put]
  refine wpAnyH_ready (rs := [2]) (by kernel_rfl) (by simp) ?_
  refine AllReadyH.cons rfl (fun K hK => ?_) AllReadyH.nil
  go_simp
  refine Calls.mono (HL.out _ (H1.out.keep bw)) ?_
  rintro r w1 ⟨rfl, bN⟩
  replace k0 := kC bN k0
  replace k1 := kC bN k1
  replace k2 := kC bN k2
  refine hK.out _ _ ⟨k0, k1, k2⟩ (fun _ => ?_)
  clear hK K
  replace bw := nT bw bN
  clear bN
  try simp only [Act.put, List.setIfInBounds_toArray, List.set_cons_zero, List.set_cons_succ]
  refine wpAnyH_ready (rs := [5]) (by kernel_rfl) (by simp) ?_
  refine AllReadyH.cons rfl (fun K hK => ?_) AllReadyH.nil
  go_simp
  refine Calls.mono (HO.out _ (H1.out.keep bw)) ?_
  rintro r w2 ⟨rfl, bN⟩
  replace k0 := kC bN k0
  replace k1 := kC bN k1
  replace k2 := kC bN k2
  refine hK.out _ _ ⟨k0, k1, k2⟩ (fun _ => ?_)
  clear hK K
  replace bw := nT bw bN
  clear bN
  try simp only [Act.put, List.setIfInBounds_toArray, List.set_cons_zero, List.set_cons_succ]
  refine wpAnyH_ready (rs := [6]) (by kernel_rfl) (by simp) ?_
  refine AllReadyH.cons rfl (fun K hK => ?_) AllReadyH.nil
  go_simp
  refine hK.out _ _ ⟨k0, k1, k2⟩ (fun _ => ?_)
  clear hK K
  try simp only [Act.put, List.setIfInBounds_toArray, List.set_cons_zero, List.set_cons_succ]
  refine wpAnyH_ready (rs := [7]) (by kernel_rfl) (by simp) ?_
  refine AllReadyH.cons rfl (fun K hK => ?_) AllReadyH.nil
  go_simp
  refine hK.out _ _ ⟨k0, k1, k2⟩ (fun _ => ?_)
  clear hK K
  try simp only [Act.put, List.setIfInBounds_toArray, List.set_cons_zero, List.set_cons_succ]
  refine wpAnyH_done (by kernel_rfl) ?_ _
  go_wp2_with fail
  go_ret
  exact ⟨rfl, bw⟩
end Go.Proofs.YtoefhlapfnjbjaaGreatDoor
