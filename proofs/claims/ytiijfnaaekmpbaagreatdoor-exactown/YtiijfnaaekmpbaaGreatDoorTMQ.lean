/- The program's Shift. The document's dyadic numbers, fourth part: Neg, Twice, Shift; the program's Neg, Abs, Shift in the same words. The document's dyadic numbers: the difference. The document's dyadic numbers: Sign, Top, Order, Cmp, Bits, Size, TopOf. The document's dyadic numbers: the product. The document's dyadic numbers: Add, Sub, Mul; the program's in the same words. The document's dyadic numbers: Order, Cmp, Size, TopOf; the program's Cmp, Size, Top in the same words. -/
import Derived.Test.YtiijfnaaekmpbaaGreatDoorALX
import Derived.Test.YtiijfnaaekmpbaaGreatDoorTMF
import Derived.Test.YtiijfnaaekmpbaaGreatDoorTMH
import Derived.Test.YtiijfnaaekmpbaaGreatDoorCR
import Derived.Test.YtiijfnaaekmpbaaGreatDoorRD13
import Derived.Test.YtiijfnaaekmpbaaGreatDoorFX
import Derived.Test.YtiijfnaaekmpbaaGreatDoorDCmp2
import Derived.Test.YtiijfnaaekmpbaaGreatDoorDTm1
import Derived.Test.YtiijfnaaekmpbaaGreatDoorNMX

namespace Go.Proofs.YtiijfnaaekmpbaaGreatDoor
open Go.RowKit
set_option maxHeartbeats 4000000
set_option maxRecDepth 100000
attribute [local go_sem ↓] Go.wp_at_zero Go.wp_at_succ
def shiftD (p : Bool × Nat × Int) (i : Int) : Bool × Nat × Int := (p.1, p.2.1, if p.2.1 = 0 then p.2.2 else p.2.2 + i)
theorem shift_form (s : Bool) (m : Nat) (e i : Int) : shiftD (formD s m e) i = formD s m (e + i) := by
 unfold shiftD
 by_cases h : m = 0
 ·rw [h, form_zero, form_zero]; rfl
 ·have h2 := (odd_part h).1
  rw [form_pos s h, form_pos s h, if_neg (show ¬ m / 2 ^ tz m = 0 from fun q => by rw [q] at h2; omega)]
  show (s, m / 2 ^ tz m, e + (tz m : Int) + i) = _
  rw [Int.add_right_comm]
def shfE (n : Nat) (e i : Int) : Int := if n = 0 then e else e + i
theorem shifted2_calls (s : Bool) (a : Option Addr) (n c : Nat) (e : Int) (g : Bool) (i : Int) (w : World) (he : -4611686018427387904 ≤ e ∧ e ≤ 4611686018427387904) (hi : -65536 ≤ i ∧ i ≤ 65536) :
  Calls Tryz.prog 130 #[numV s a n c e g, .int .i64 i] w fun r w' => r = .returned (numV s a n c (shfE n e i) g) ∧ Below w.heap.size w w' := shifted_calls s a n c e g i w he hi
theorem shift1_calls (b1 b2 : Nat) (s : Bool) (a : Option Addr) (len cap : Nat) (xs : List Int) (e : Int) (i : Int) (w : World) (h : IsW w a len cap xs) (hm : len ≤ 17592186044416) (hT : Tab w) (hr : rightB (val xs) e = true) (hi : -65536 ≤ i ∧ i ≤ 65536)
  (k0 : w.cell? ⟨b1, 0, none⟩ = some (.bool s)) (k1 : w.cell? ⟨b1, 1, none⟩ = some (.slice a len cap)) (k2 : w.cell? ⟨b1, 2, none⟩ = some (.int .i64 e))
  (l0 : w.cell? ⟨b2, 0, none⟩ = some (.int .i64 i)) :
  Calls Tryz.prog 129 #[.pointer (some ⟨b1, 0, none⟩), .pointer (some ⟨b2, 0, none⟩)] w fun r w' => ∃ v, r = .returned v ∧ NumR w.heap.size w' v (shiftD (formD s (val xs) e) i) ∧ Below w.heap.size w w' := by
 have HCGX : Hid (canG s (val xs) e = (formD s (val xs) e)) := canG_no (rightB_yes hr).1
 have HEBX : Hid _ := right_exp hr
 have HGX : Hid _ := form_fit s (val xs) e hr
 have HBX : Hid _ := form_bounds s (val xs) e hr
 have hl1 : b1 < w.heap.size := World.block_lt_of_cell? _ _ k0
 have hl2 : b2 < w.heap.size := World.block_lt_of_cell? _ _ l0
 have hn1 : b1 ≠ w.heap.size := Nat.ne_of_lt hl1
 have hn2 : b2 ≠ w.heap.size := Nat.ne_of_lt hl2
 clear hr
 go_enter Tryz.func129, Tryz.ntmps129
 go_wp2_with fail
 go_region_with (first
   | (go_at_call 61; refine calls_guard #[dyV s a len cap e] ?_ ?_; (focus rfl); refine (canonical_calls s a len cap xs e _ (h.keep (by repeat (first | exact hbwQ | exact Below.refl _ _ | apply Below.drew | refine Below.alloc ?_ (by simp; try omega) _))) hm (hT.kept (by repeat (first | exact hbwQ | exact Below.refl _ _ | apply Below.drew | refine Below.alloc ?_ (by simp; try omega) _)))).mono ?_; rintro r wX ⟨aX, nX, cX, eX, rfl, HEX, HNX, HZX, hnX, hOX, hbX⟩; have hbwX : Below w.heap.size w wX := nT (by repeat (first | exact hbwQ | exact Below.refl _ _ | apply Below.drew | refine Below.alloc ?_ (by simp; try omega) _)) hbX; have hbzX : Below (w.alloc (.cells #[.bool false, .slice none 0 0, .int .i64 0, .bool false] 90)).heap.size (w.alloc (.cells #[.bool false, .slice none 0 0, .int .i64 0, .bool false] 90)) wX := nT (by repeat (first | exact hbzQ | exact Below.refl _ _ | apply Below.drew | refine Below.alloc ?_ (by simp; try omega) _)) hbX; obtain rfl := HEX.out HEBX.out.1 HEBX.out.2; rw [HCGX.out] at hOX HNX ⊢; clear HEX; have hPX := hOX.low (B' := w.heap.size + 1) (by first | (have := hbzQ.size; simp at this ⊢; omega) | simp); have qX0 := kC hbwX k0; have qX1 := kC hbwX k1; have qX2 := kC hbwX k2; have qX3 := kC hbwX l0)
   | (go_at_call 130; refine (shifted2_calls (formD s (val xs) e).1 aX nX cX (formD s (val xs) e).2.2 false i _ ⟨by have := HBX.out; omega, by have := HBX.out; omega⟩ hi).mono ?_; rintro r wP ⟨rfl, hbP⟩; have hbwP := nT hbwX (show Below wX.heap.size wX wP from by first | exact hbP | exact (Below.refl _ _).drew.trans hbP); have hbzP := nT hbzX (show Below wX.heap.size wX wP from by first | exact hbP | exact (Below.refl _ _).drew.trans hbP); obtain ⟨m0, m1, m2, m3, f0, f1, f2, f3⟩ := zero_num (r := w.heap.size) hbzP rfl; have hOP := hPX.keep (show Below wX.heap.size wX wP from by first | exact hbP | exact (Below.refl _ _).drew.trans hbP)))
 all_goals
  have HX : Hid (shfE nX (formD s (val xs) e).2.2 i = (shiftD (formD s (val xs) e) i).2.2) := by
   rw [Hid, shfE, shiftD]
   have h0 : nX = 0 ↔ (formD s (val xs) e).2.1 = 0 := by rw [HNX.out, List.length_eq_zero_iff, words_nil]
   by_cases q : (formD s (val xs) e).2.1 = 0
   ·rw [if_pos (h0.2 q), if_pos q]
   ·rw [if_neg (fun z => q (h0.1 z)), if_neg q]
  rw [HX.out]
  go_wp2_with fail
  refine bodyPost_ret (v := numV (formD s (val xs) e).1 aX nX cX (shiftD (formD s (val xs) e) i).2.2 false) (by simp [results, Tryz.results129, go_sem, m0, m1, m2, m3]) rfl ⟨_, rfl, Or.inl ⟨HGX.out, aX, nX, cX, rfl, HNX, HZX, hnX, ((((hOP.far _ _ (by show w.heap.size < _; omega)).far _ _ (by show w.heap.size < _; omega)).far _ _ (by show w.heap.size < _; omega)).far _ _ (by show w.heap.size < _; omega)).low (by omega)⟩, ?_⟩
  exact (((hbwP.setCell (Nat.le_refl _) _).setCell (Nat.le_refl _) _).setCell (Nat.le_refl _) _).setCell (Nat.le_refl _) _
theorem dshift_far (s : Bool) (a : Option Addr) (len cap : Nat) (e : Int) (i : Int) (w : World) (hi : i < -65536 ∨ 65536 < i) :
  Calls Tryz.prog 102 #[dyV s a len cap e, .int .i64 i] w fun r w' => r = .returned (.tuple #[dyV false none 0 0 0, .int .i64 2]) ∧ Below w.heap.size w w' := by
 rcases hi with hi | hi
 ·go_enter Tryz.func102, Tryz.ntmps102
  go_wp2_with fail
  refine bodyPost_ret (v := .tuple #[dyV false none 0 0 0, .int .i64 2]) (by simp [results, Tryz.results102, go_sem]) rfl ⟨rfl, ?_⟩
  repeat (first | exact Below.refl _ _ | refine Below.alloc ?_ (by simp; try omega) _ | refine Below.setCell ?_ (by simp; try omega) _)
 ·have hn : ¬ i < -65536 := by omega
  go_enter Tryz.func102, Tryz.ntmps102
  go_wp2_with fail
  refine bodyPost_ret (v := .tuple #[dyV false none 0 0 0, .int .i64 2]) (by simp [results, Tryz.results102, go_sem]) rfl ⟨rfl, ?_⟩
  repeat (first | exact Below.refl _ _ | refine Below.alloc ?_ (by simp; try omega) _ | refine Below.setCell ?_ (by simp; try omega) _)
theorem dshift_not (s : Bool) (a : Option Addr) (len cap : Nat) (xs : List Int) (e : Int) (i : Int) (w : World) (h : IsW w a len cap xs) (hm : len ≤ 17592186044416) (hi : -65536 ≤ i ∧ i ≤ 65536) (hr : rightB (val xs) e = false) :
  Calls Tryz.prog 102 #[dyV s a len cap e, .int .i64 i] w fun r w' => r = .returned (.tuple #[dyV false none 0 0 0, .int .i64 2]) ∧ Below w.heap.size w w' := by
 have hmf : ∀ (fn : Fn) (first cap : Array Value) (w : World), (Instr.makeFunc fn first cap).run Tryz.prog w = .ok (.func fn first cap) w := fun _ _ _ _ => rfl
 have HRB : Hid (rightB (val xs) e = false) := hr
 obtain ⟨hi1, hi2⟩ := hi
 clear hr
 go_enter Tryz.func102, Tryz.ntmps102
 go_wp2_with fail
 have hb0 : Below w.heap.size w ((((w.alloc (.cells #[.bool s, .slice a len cap, .int .i64 e] 27)).alloc (.cells #[.int .i64 i] 3)).alloc (.cells #[.bool false, .slice none 0 0, .int .i64 0] 27)).alloc (.cells #[.bool s, .slice a len cap, .int .i64 e] 27)) := by repeat (first | exact Below.refl _ _ | refine Below.alloc ?_ (by simp; try omega) _)
 refine Calls.mono (made_not _ _ _ (fun W hW => HRB.out ▸ right1_calls (w.heap.size + 1 + 1 + 1) s a len cap xs e W (h.keep (nT hb0 hW)) hm (kC hW (by go_simp)) (kC hW (by go_simp)) (kC hW (by go_simp)))) ?_
 rintro r w2 ⟨rfl, hbM⟩
 have hb2 := nT hb0 hbM
 obtain ⟨m0, m1, m2, f0, f1, f2⟩ := zero_dy (r := w.heap.size + 1 + 1) (w := (w.alloc (.cells #[.bool s, .slice a len cap, .int .i64 e] 27)).alloc (.cells #[.int .i64 i] 3)) (W' := w2) (nT (below_one _ _) hbM) (by simp)
 go_wp2_with fail
 refine bodyPost_ret (v := .tuple #[dyV false none 0 0 0, .int .i64 2]) (by simp [results, Tryz.results102, go_sem, m0, m1, m2]) rfl ⟨rfl, ?_⟩
 exact ((hb2.setCell (le2 _) _).setCell (le2 _) _).setCell (le2 _) _
theorem dshift_yes (s : Bool) (a : Option Addr) (len cap : Nat) (xs : List Int) (e : Int) (i : Int) (w : World) (h : IsW w a len cap xs) (hm : len ≤ 17592186044416) (hT : Tab w) (hi : -65536 ≤ i ∧ i ≤ 65536) (hr : rightB (val xs) e = true) :
  Calls Tryz.prog 102 #[dyV s a len cap e, .int .i64 i] w fun r w' => ∃ v', r = .returned (.tuple #[v', .int .i64 (roomE (shiftD (formD s (val xs) e) i))]) ∧ DyAt w.heap.size w' v' (roomP (shiftD (formD s (val xs) e) i)) ∧ Below w.heap.size w w' := by
 have hmf : ∀ (fn : Fn) (first cap : Array Value) (w : World), (Instr.makeFunc fn first cap).run Tryz.prog w = .ok (.func fn first cap) w := fun _ _ _ _ => rfl
 have HRB : Hid (rightB (val xs) e = true) := hr
 have HP : Hid _ := hi
 obtain ⟨hi1, hi2⟩ := hi
 clear hr
 go_enter Tryz.func102, Tryz.ntmps102
 go_wp2_with fail
 have hb0 : Below w.heap.size w ((((w.alloc (.cells #[.bool s, .slice a len cap, .int .i64 e] 27)).alloc (.cells #[.int .i64 i] 3)).alloc (.cells #[.bool false, .slice none 0 0, .int .i64 0] 27)).alloc (.cells #[.bool s, .slice a len cap, .int .i64 e] 27)) := by repeat (first | exact Below.refl _ _ | refine Below.alloc ?_ (by simp; try omega) _)
 refine Calls.mono (made_Shift w.heap.size (w.heap.size + 1) 0 (shiftD (formD s (val xs) e) i) _ _ (fun W hW => HRB.out ▸ right1_calls (w.heap.size + 1 + 1 + 1) s a len cap xs e W (h.keep (nT hb0 hW)) hm (kC hW (by go_simp)) (kC hW (by go_simp)) (kC hW (by go_simp)))
  (fun W hW => Calls.mono (shift1_calls w.heap.size (w.heap.size + 1) s a len cap xs e i W (h.keep (nT hb0 hW)) hm (hT.kept (nT hb0 hW)) HRB.out HP.out (kC hW (by go_simp)) (kC hW (by go_simp)) (kC hW (by go_simp)) (kC hW (by go_simp))) (by
   rintro r w5 ⟨v, rfl, hN, hb5⟩
   exact ⟨v, rfl, hN.low (Nat.zero_le _), hb5⟩))) ?_
 rintro r w2 ⟨v', rfl, ⟨a2, n2, c2, rfl, HN2, hn2, hO2⟩, hbM⟩
 have hb2 := nT hb0 hbM
 obtain ⟨m0, m1, m2, f0, f1, f2⟩ := zero_dy (r := w.heap.size + 1 + 1) (w := (w.alloc (.cells #[.bool s, .slice a len cap, .int .i64 e] 27)).alloc (.cells #[.int .i64 i] 3)) (W' := w2) (nT (below_one _ _) hbM) (by simp)
 go_wp2_with fail
 refine bodyPost_ret (v := .tuple #[dyV (roomP (shiftD (formD s (val xs) e) i)).1 a2 n2 c2 (roomP (shiftD (formD s (val xs) e) i)).2.2, .int .i64 (roomE (shiftD (formD s (val xs) e) i))]) (by simp [results, Tryz.results102, go_sem, m0, m1, m2]) rfl ⟨_, rfl, ⟨a2, n2, c2, rfl, HN2, hn2, (((hO2.far _ _ (by show w.heap.size + 1 + 1 < _; simp)).far _ _ (by show w.heap.size + 1 + 1 < _; simp)).far _ _ (by show w.heap.size + 1 + 1 < _; simp)).low (by simp; omega)⟩, ?_⟩
 exact ((hb2.setCell (le2 _) _).setCell (le2 _) _).setCell (le2 _) _
end Go.Proofs.YtiijfnaaekmpbaaGreatDoor

namespace Go.Proofs.YtiijfnaaekmpbaaGreatDoor
open Go.RowKit
set_option maxHeartbeats 2000000
set_option maxRecDepth 100000
theorem qNeg_calls (s : Bool) (a : Option Addr) (len cap : Nat) (xs : List Int) (e : Int) (w : World) (h : IsW w a len cap xs) (hm : len ≤ 17592186044000) (he : -4611686018427387904 ≤ e ∧ e ≤ 4611686018427387904) :
  Calls Tryz.prog 119 #[dyV s a len cap e] w fun r w' => ∃ v, r = .returned v ∧ DyQ w.heap.size w' v (formD (!s) (val xs) e) ∧ Below w.heap.size w w' := by
 have hb0 : Below w.heap.size w ((w.alloc (.cells #[.bool s, .slice a len cap, .int .i64 e] 27)).alloc (.cells #[.bool false, .slice none 0 0, .int .i64 0] 27)) := nT (below_one _ _) (below_one _ _)
 have HF : Hid _ := qForm_calls (!s) a len cap xs e _ (h.keep hb0) hm (by omega)
 clear he
 generalize formD (!s) (val xs) e = p at *
 go_enter Tryz.func119, Tryz.ntmps119
 go_wp2_with fail
 refine Calls.mono HF.out ?_
 rintro r w1 ⟨_, rfl, ⟨a1, n1, c1, rfl, HN1, hO1⟩, hb1⟩
 obtain ⟨m0, m1, m2, f0, f1, f2⟩ := zero_dy (r := w.heap.size + 1) hb1 (by simp)
 have hb01 := nT hb0 hb1
 have hws : w.heap.size + 2 ≤ w1.heap.size := by have := hb1.size; simp at this; omega
 clear hb1 HF
 go_wp2_with fail
 refine bodyPost_ret (v := dyV p.1 a1 n1 c1 p.2.2) (by simp [results, Tryz.results119, go_sem, m0, m1, m2]) rfl ⟨_, rfl, ⟨a1, n1, c1, rfl, HN1, ?_⟩, ?_⟩
 ·exact (((hO1.far _ _ (by simp)).far _ _ (by simp)).far _ _ (by simp)).low (by simp; omega)
 ·exact ((hb01.setCell (le1 _) _).setCell (le1 _) _).setCell (le1 _) _
theorem qTwice_calls (s : Bool) (a : Option Addr) (len cap : Nat) (xs : List Int) (e : Int) (i : Int) (w : World) (h : IsW w a len cap xs) (hm : len ≤ 17592186044000) (he : (-2305843009213693952 ≤ e ∧ e ≤ 2305843009213693952) ∧ -2305843009213693952 ≤ i ∧ i ≤ 2305843009213693952) :
  Calls Tryz.prog 58 #[dyV s a len cap e, .int .i64 i] w fun r w' => ∃ v, r = .returned v ∧ DyQ w.heap.size w' v (formD s (val xs) (e + i)) ∧ Below w.heap.size w w' := by
 have hb0 : Below w.heap.size w ((w.alloc (.cells #[.bool s, .slice a len cap, .int .i64 e] 27)).alloc (.cells #[.bool false, .slice none 0 0, .int .i64 0] 27)) := nT (below_one _ _) (below_one _ _)
 have HF : Hid _ := qForm_calls s a len cap xs (e + i) _ (h.keep hb0) hm (by omega)
 obtain ⟨⟨he1, he2⟩, hi1, hi2⟩ := he
 generalize formD s (val xs) (e + i) = p at *
 go_enter Tryz.func58, Tryz.ntmps58
 go_wp2_with fail
 refine Calls.mono HF.out ?_
 rintro r w1 ⟨_, rfl, ⟨a1, n1, c1, rfl, HN1, hO1⟩, hb1⟩
 obtain ⟨m0, m1, m2, f0, f1, f2⟩ := zero_dy (r := w.heap.size + 1) hb1 (by simp)
 have hb01 := nT hb0 hb1
 have hws : w.heap.size + 2 ≤ w1.heap.size := by have := hb1.size; simp at this; omega
 clear hb1 HF
 go_wp2_with fail
 refine bodyPost_ret (v := dyV p.1 a1 n1 c1 p.2.2) (by simp [results, Tryz.results58, go_sem, m0, m1, m2]) rfl ⟨_, rfl, ⟨a1, n1, c1, rfl, HN1, ?_⟩, ?_⟩
 ·exact (((hO1.far _ _ (by simp)).far _ _ (by simp)).far _ _ (by simp)).low (by simp; omega)
 ·exact ((hb01.setCell (le1 _) _).setCell (le1 _) _).setCell (le1 _) _
def shB (m : Nat) (e i : Int) : Bool := rightB m e && decide (-65536 ≤ i ∧ i ≤ 65536)
def shE (s : Bool) (m : Nat) (e i : Int) : Int := if shB m e i = true then roomE (formD s m (e + i)) else 2
def shP (s : Bool) (m : Nat) (e i : Int) : Bool × Nat × Int := if shB m e i = true then roomP (formD s m (e + i)) else (false, 0, 0)
theorem sh_no {s : Bool} {m : Nat} {e i : Int} (h : shB m e i = false) : shE s m e i = 2 ∧ shP s m e i = (false, 0, 0) := by unfold shE shP; rw [if_neg (by rw [h]; decide), if_neg (by rw [h]; decide)]; exact ⟨rfl, rfl⟩
theorem sh_yes {s : Bool} {m : Nat} {e i : Int} (h : shB m e i = true) : shE s m e i = roomE (formD s m (e + i)) ∧ shP s m e i = roomP (formD s m (e + i)) := by unfold shE shP; rw [if_pos h, if_pos h]; exact ⟨rfl, rfl⟩
theorem pShift_calls (s : Bool) (a : Option Addr) (len cap : Nat) (xs : List Int) (e i : Int) (w : World) (h : IsW w a len cap xs) (hm : len ≤ 17592186044416) (hT : Tab w) :
  Calls Tryz.prog 102 #[dyV s a len cap e, .int .i64 i] w fun r w' => ∃ v', r = .returned (.tuple #[v', .int .i64 (shE s (val xs) e i)]) ∧ DyAt w.heap.size w' v' (shP s (val xs) e i) ∧ Below w.heap.size w w' := by
 by_cases hi : -65536 ≤ i ∧ i ≤ 65536
 ·cases hr : rightB (val xs) e with
  | false =>
   obtain ⟨e1, e2⟩ := sh_no (s := s) (show shB (val xs) e i = false by unfold shB; rw [hr]; rfl)
   rw [e1, e2]
   refine (dshift_not s a len cap xs e i w h hm hi hr).mono ?_
   rintro r w' ⟨rfl, hb⟩
   exact ⟨_, rfl, dyAt_zero _ _, hb⟩
  | true =>
   obtain ⟨e1, e2⟩ := sh_yes (s := s) (show shB (val xs) e i = true by unfold shB; rw [hr, decide_eq_true hi]; rfl)
   rw [e1, e2, ← shift_form]
   exact dshift_yes s a len cap xs e i w h hm hT hi hr
 ·obtain ⟨e1, e2⟩ := sh_no (s := s) (show shB (val xs) e i = false by unfold shB; rw [decide_eq_false hi, Bool.and_false])
  rw [e1, e2]
  refine (dshift_far s a len cap e i w (by omega)).mono ?_
  rintro r w' ⟨rfl, hb⟩
  exact ⟨_, rfl, dyAt_zero _ _, hb⟩
end Go.Proofs.YtiijfnaaekmpbaaGreatDoor

namespace Go.Proofs.YtiijfnaaekmpbaaGreatDoor
open Go.RowKit
theorem form_expc (s : Bool) (m : Nat) (e : Int) (hb : blen m ≤ 5000000) (he : -5000000 ≤ e ∧ e ≤ 5000000) : -10000000 ≤ (formD s m e).2.2 ∧ (formD s m e).2.2 ≤ 10000000 := by
 by_cases h0 : m = 0
 ·rw [h0, form_zero]; exact ⟨by decide, by decide⟩
 ·rw [form_pos s h0]
  have := tz_le_blen m
  show _ ≤ e + (tz m : Int) ∧ e + (tz m : Int) ≤ _
  omega
attribute [local go_sem ↓] Go.wp_at_zero Go.wp_at_succ
set_option maxRecDepth 100000 in
set_option maxHeartbeats 4000000 in
theorem qLess_calls (s : Bool) (a : Option Addr) (len cap : Nat) (xs : List Int) (e : Int) (t : Bool) (b : Option Addr) (len' cap' : Nat) (ys : List Int) (f : Int) (w : World) (h : IsW w a len cap xs) (hm : len ≤ 17592186044000) (h' : IsW w b len' cap' ys) (hm' : len' ≤ 17592186044000) (he : -5000000 ≤ e ∧ e ≤ 5000000) (hf : -5000000 ≤ f ∧ f ≤ 5000000) (hbx : blen (val xs) ≤ 5000000) (hby : blen (val ys) ≤ 5000000) :
  Calls Tryz.prog 94 #[dyV s a len cap e, dyV t b len' cap' f] w fun r w' => ∃ v', r = .returned v' ∧ DyQ w.heap.size w' v' (sumD (formD s (val xs) e) (formD (!t) (val ys) f)) ∧ Below w.heap.size w w' := by
 have HN : Hid _ := fun w' g => qNeg_calls t b len' cap' ys f w' g hm' (by omega)
 have hyb : blen (formD (!t) (val ys) f).2.1 ≤ 5000000 := Nat.le_trans (blen_mono (form_amount_le _ _ _)) hby
 have hye := form_expc (!t) (val ys) f hby hf
 have hcy := form_of_can (form_can (!t) (val ys) f)
 generalize formD (!t) (val ys) f = y at *
 have hyl : (wO y.2.1).length ≤ 100000 := (words_len2 _ _).2 (by omega)
 have HP : Hid _ := fun a' n' c' w' g (q : n' ≤ 100000) g' => qPlus_calls s a len cap xs e y.1 a' n' c' (wO y.2.1) y.2.2 w' g hm g' (by omega) (by omega) (by omega) (by omega) (by rw [val_words]; omega)
 rw [val_words, hcy] at HP
 have HYL : Hid _ := hyl
 generalize sumD (formD s (val xs) e) y = p at *
 have H1 : Hid (IsW w a len cap xs) := h
 have H2 : Hid (IsW w b len' cap' ys) := h'
 clear hm hm' he hf h h' hbx hby hyb hye hcy hyl
 have bw0 : Below w.heap.size w (((w.alloc (.cells #[.bool s, .slice a len cap, .int .i64 e] 27)).alloc (.cells #[.bool t, .slice b len' cap', .int .i64 f] 27)).alloc (.cells #[.bool false, .slice none 0 0, .int .i64 0] 27)) := by repeat (first | exact Below.refl _ _ | refine bl_alloc ?_ _)
 obtain ⟨k0, k1, k2, k3, k4, k5⟩ := fX2 w s a len cap e t b len' cap' f _ rfl
 obtain ⟨m0, m1, m2, f0, f1, f2⟩ := zero_dy (w := ((w.alloc (.cells #[.bool s, .slice a len cap, .int .i64 e] 27)).alloc (.cells #[.bool t, .slice b len' cap', .int .i64 f] 27))) (r := w.heap.size + 1 + 1) (W' := (((w.alloc (.cells #[.bool s, .slice a len cap, .int .i64 e] 27)).alloc (.cells #[.bool t, .slice b len' cap', .int .i64 f] 27)).alloc (.cells #[.bool false, .slice none 0 0, .int .i64 0] 27))) (Below.refl _ _) (by simp)
 have HS0 : Hid ((((w.alloc (.cells #[.bool s, .slice a len cap, .int .i64 e] 27)).alloc (.cells #[.bool t, .slice b len' cap', .int .i64 f] 27)).alloc (.cells #[.bool false, .slice none 0 0, .int .i64 0] 27)).heap.size = w.heap.size + 1 + 1 + 1) := by simp [Hid]
 go_enter Tryz.func94, Tryz.ntmps94
 go_upto_region 1 with fail
 generalize (((w.alloc (.cells #[.bool s, .slice a len cap, .int .i64 e] 27)).alloc (.cells #[.bool t, .slice b len' cap', .int .i64 f] 27)).alloc (.cells #[.bool false, .slice none 0 0, .int .i64 0] 27)) = w0 at *
 have bw : Below w0.heap.size w0 w0.drew := (Below.refl _ _).drew
 refine wp_region_held (S := fun w' => w'.cell? ⟨w.heap.size, 0, none⟩ = some (.bool s) ∧ w'.cell? ⟨w.heap.size, 1, none⟩ = some (.slice a len cap) ∧ w'.cell? ⟨w.heap.size, 2, none⟩ = some (.int .i64 e) ∧ w'.cell? ⟨w.heap.size + 1, 0, none⟩ = some (.bool t) ∧ w'.cell? ⟨w.heap.size + 1, 1, none⟩ = some (.slice b len' cap') ∧ w'.cell? ⟨w.heap.size + 1, 2, none⟩ = some (.int .i64 f)) (by kernel_rfl) ?_
 change wpAnyH _ _ _ _ _ _ _ _ (World.drew w0)
 revert m0 m1 m2 f0 f1 f2; refine zg3 bw ?_; intro m0 m1 m2 f0 f1 f2
 revert k0 k1 k2 k3 k4 k5; refine cc6 bw ?_; intro k0 k1 k2 k3 k4 k5
 generalize World.drew w0 = wd at *
 refine tk 0 (.agg #[.bool s, .slice a len cap, .int .i64 e]) rfl (by kernel_rfl) (fun _ _ _ h => h) (by rfl) ?y0 ⟨k0, k1, k2, k3, k4, k5⟩ ?r0
 case y0 => (rintro ww ⟨q0, q1, q2, q3, q4, q5⟩; go_simp)
 try simp only [Act.put]
 refine tk 1 (.agg #[.bool t, .slice b len' cap', .int .i64 f]) rfl (by kernel_rfl) (fun _ _ _ h => h) (by rfl) ?y1 ⟨k0, k1, k2, k3, k4, k5⟩ ?r1
 case y1 => (rintro ww ⟨q0, q1, q2, q3, q4, q5⟩; go_simp)
 try simp only [Act.put]
 refine rd1 2 (by kernel_rfl) rfl fun K hK => ?_
 go_simp
 refine Calls.mono (HN.out _ (H2.out.keep (nT bw0 bw))) ?_
 rintro r w1 ⟨_, rfl, ⟨a1, n1, c1, rfl, HN1, hO1⟩, b1⟩
 revert k0 k1 k2 k3 k4 k5; refine cc6 b1 ?_; intro k0 k1 k2 k3 k4 k5
 refine hK.out _ _ ⟨k0, k1, k2, k3, k4, k5⟩ (fun _ => ?_)
 clear hK K
 revert m0 m1 m2 f0 f1 f2; refine zg3 b1 ?_; intro m0 m1 m2 f0 f1 f2
 replace bw := nT bw b1
 have hn1 : n1 ≤ 100000 := by rw [HN1.out]; exact HYL.out
 have HI1 := hO1.1
 clear b1 hO1 HN1
 try simp only [Act.put, sA, sZ, sS]
 refine rd1 3 (by kernel_rfl) rfl fun K hK => ?_
 go_simp
 refine Calls.mono (HP.out _ _ _ _ (H1.out.keep (nT bw0 bw)) hn1 HI1) ?_
 rintro r w2 ⟨_, rfl, ⟨a2, n2, c2, rfl, HN2, hO2⟩, b2⟩
 revert k0 k1 k2 k3 k4 k5; refine cc6 b2 ?_; intro k0 k1 k2 k3 k4 k5
 refine hK.out _ _ ⟨k0, k1, k2, k3, k4, k5⟩ (fun _ => ?_)
 clear hK K
 revert m0 m1 m2 f0 f1 f2; refine zg3 b2 ?_; intro m0 m1 m2 f0 f1 f2
 have hO2' := hO2.low bw.size
 replace bw := nT bw b2
 have bwx := nT bw0 bw
 clear b2 hO2 HI1 hn1
 try simp only [Act.put, sA, sZ, sS]
 refine rd1 4 (by kernel_rfl) rfl fun K hK => ?_
 go_simp
 refine hK.out _ _ ⟨set3_cell k0 (by omega), set3_cell k1 (by omega), set3_cell k2 (by omega), set3_cell k3 (by omega), set3_cell k4 (by omega), set3_cell k5 (by omega)⟩ (fun _ => ?_)
 clear hK K
 try simp only [Act.put, sA, sZ, sS]
 refine wpAnyH_done (by kernel_rfl) ?_ _
 go_wp2_with fail
 refine bodyPost_ret (v := dyV p.1 a2 n2 c2 p.2.2) (by simp [results, Tryz.results94, go_sem, m0, m1, m2]) rfl ⟨_, rfl, ⟨a2, n2, c2, rfl, HN2, (((hO2'.far _ _ (by show w.heap.size + 1 + 1 < _; rw [HS0.out]; omega)).far _ _ (by show w.heap.size + 1 + 1 < _; rw [HS0.out]; omega)).far _ _ (by show w.heap.size + 1 + 1 < _; rw [HS0.out]; omega)).low (by rw [HS0.out]; omega)⟩, ((bwx.setCell (le2 _) _).setCell (le2 _) _).setCell (le2 _) _⟩
end Go.Proofs.YtiijfnaaekmpbaaGreatDoor

namespace Go.Proofs.YtiijfnaaekmpbaaGreatDoor
open Go.RowKit
set_option maxHeartbeats 2000000
set_option maxRecDepth 100000
attribute [local go_sem ↓] Go.wp_at_zero Go.wp_at_succ
def sgnQ (s : Bool) (m : Nat) : Int := if m = 0 then 0 else if s = true then -1 else 1
theorem sgnQ_form (s : Bool) (m : Nat) (e : Int) : sgnD (formD s m e) = sgnQ s m := by
 unfold sgnD sgnQ
 by_cases h0 : m = 0
 ·rw [h0, form_zero]; rfl
 ·have h1 := (odd_part h0).1
  rw [form_pos s h0, if_neg h0, if_neg (fun q => by have q' : m / 2 ^ tz m = 0 := q; rw [q'] at h1; exact absurd h1 (by decide))]
theorem blen_odd {m : Nat} (h0 : m ≠ 0) : blen m = tz m + blen (m / 2 ^ tz m) := by
 have h1 := (odd_part h0).1
 have h2 := (odd_part h0).2
 have h3 := blen_mul (m / 2 ^ tz m) (tz m) (fun q => by rw [q] at h1; exact absurd h1 (by decide))
 rw [h2] at h3
 exact h3
theorem qSign_calls (s : Bool) (a : Option Addr) (len cap : Nat) (xs : List Int) (e : Int) (w : World) (h : IsW w a len cap xs) (hm : len ≤ 17592186044000) :
  Calls Tryz.prog 92 #[dyV s a len cap e] w fun r w' => r = .returned (.int .i64 (sgnQ s (val xs))) ∧ Below w.heap.size w w' := by
 have bw : Below w.heap.size w (w.alloc (.cells #[.bool s, .slice a len cap, .int .i64 e] 27)) := below_one _ _
 have HZ : Hid _ := qZero_calls s a len cap xs e _ (h.keep bw) (by omega)
 unfold sgnQ
 obtain ⟨k0, k1, k2⟩ := fX6 w s a len cap e _ rfl
 by_cases h0 : val xs = 0
 ·rw [decide_eq_true h0] at HZ
  rw [if_pos h0]
  clear h0 hm h
  go_enter Tryz.func92, Tryz.ntmps92
  go_wp2_with fail
  refine Calls.mono HZ.out ?_
  rintro r w1 ⟨rfl, b1⟩
  replace bw := nT bw b1
  clear b1
  go_wp2_with fail
  go_ret
  exact ⟨rfl, bw⟩
 ·rw [decide_eq_false h0] at HZ
  rw [if_neg h0]
  clear h0 hm h
  cases s
  all_goals
   go_enter Tryz.func92, Tryz.ntmps92
   go_wp2_with fail
   refine Calls.mono HZ.out ?_
   rintro r w1 ⟨rfl, b1⟩
   replace bw := nT bw b1
   replace k0 := kC b1 k0
   clear b1
   go_wp2_with fail
   go_ret
   exact ⟨rfl, bw⟩
theorem qTop_calls (s : Bool) (a : Option Addr) (len cap : Nat) (xs : List Int) (e : Int) (w : World) (h : IsW w a len cap xs) (hm : len ≤ 17592186044000) (he : -4611686018427387904 ≤ e ∧ e ≤ 4611686018427387904) (hb : blen (val xs) ≤ 1000000000) :
  Calls Tryz.prog 93 #[dyV s a len cap e] w fun r w' => r = .returned (.int .i64 (e + (blen (val xs) : Int) - 1)) ∧ Below w.heap.size w w' := by
 have bw : Below w.heap.size w (w.alloc (.cells #[.bool s, .slice a len cap, .int .i64 e] 27)) := below_one _ _
 have HL : Hid _ := fun W g => nLen_calls a len cap xs W g (by omega)
 have H1 : Hid (IsW w a len cap xs) := h
 have hw1 : IntKind.i64.wrap (e + (blen (val xs) : Int)) = e + (blen (val xs) : Int) := by rw [IntKind.wrap_i64]; omega
 have hw2 : IntKind.i64.wrap (e + (blen (val xs) : Int) - 1) = e + (blen (val xs) : Int) - 1 := by rw [IntKind.wrap_i64]; omega
 generalize (blen (val xs) : Int) = bl at *
 obtain ⟨k0, k1, k2⟩ := fX6 w s a len cap e _ rfl
 clear h hm he hb
 go_enter Tryz.func93, Tryz.ntmps93
 go_upto_region 1 with fail
 generalize (w.alloc (.cells #[.bool s, .slice a len cap, .int .i64 e] 27)) = w0 at *
 have bd : Below w0.heap.size w0 w0.drew := (Below.refl _ _).drew
 refine wp_region_held (S := fun w' => w'.cell? ⟨w.heap.size, 0, none⟩ = some (.bool s) ∧ w'.cell? ⟨w.heap.size, 1, none⟩ = some (.slice a len cap) ∧ w'.cell? ⟨w.heap.size, 2, none⟩ = some (.int .i64 e)) (by kernel_rfl) ?_
 change wpAnyH _ _ _ _ _ _ _ _ (World.drew w0)
 revert k0 k1 k2; refine cc3 bd ?_; intro k0 k1 k2
 replace bw := nT bw bd
 clear bd
 generalize World.drew w0 = wd1 at *
 refine tk 0 (?vt1_0) rfl (by kernel_rfl) (fun _ _ _ h => h) (by rfl) ?yt1_0 ⟨k0, k1, k2⟩ ?rt1_0
 case yt1_0 => (rintro ww ⟨q0, q1, q2⟩; go_simp; try with_reducible rfl)
 try simp only [Act.put]
 refine tk 1 (?vt1_1) rfl (by kernel_rfl) (fun _ _ _ h => h) (by rfl) ?yt1_1 ⟨k0, k1, k2⟩ ?rt1_1
 case yt1_1 => (rintro ww ⟨q0, q1, q2⟩; go_simp; try with_reducible rfl)
 try simp only [Act.put]
 refine tk 2 (?vt1_2) rfl (by kernel_rfl) (fun _ _ _ h => h) (by rfl) ?yt1_2 ⟨k0, k1, k2⟩ ?rt1_2
 case yt1_2 => (rintro ww ⟨q0, q1, q2⟩; go_simp; try with_reducible rfl)
 try simp only [Act.put]
 refine tk 3 (?vt1_3) rfl (by kernel_rfl) (fun _ _ _ h => h) (by rfl) ?yt1_3 ⟨k0, k1, k2⟩ ?rt1_3
 case yt1_3 => (rintro ww ⟨q0, q1, q2⟩; go_simp; try with_reducible rfl)
 try simp only [Act.put]
 refine rd1 4 (by kernel_rfl) rfl fun K hK => ?_
 go_simp
 refine Calls.mono (HL.out _ (H1.out.keep bw)) ?_
 rintro r w1 ⟨rfl, bN⟩
 revert k0 k1 k2; refine cc3 bN ?_; intro k0 k1 k2
 refine hK.out _ _ ⟨k0, k1, k2⟩ (fun _ => ?_)
 clear hK K
 replace bw := nT bw bN
 clear bN
 try simp only [Act.put, sA, sZ, sS]
 refine rd1 5 (by kernel_rfl) rfl fun K hK => ?_
 go_simp
 refine hK.out _ _ ⟨k0, k1, k2⟩ (fun _ => ?_)
 clear hK K
 try simp only [Act.put, sA, sZ, sS]
 refine rd1 6 (by kernel_rfl) rfl fun K hK => ?_
 go_simp
 refine hK.out _ _ ⟨k0, k1, k2⟩ (fun _ => ?_)
 clear hK K
 try simp only [Act.put, sA, sZ, sS]
 refine rd1 7 (by kernel_rfl) rfl fun K hK => ?_
 go_simp
 refine hK.out _ _ ⟨k0, k1, k2⟩ (fun _ => ?_)
 clear hK K
 try simp only [Act.put, sA, sZ, sS]
 refine wpAnyH_done (by kernel_rfl) ?_ _
 go_wp2_with fail
 go_ret
 exact ⟨rfl, bw⟩
end Go.Proofs.YtiijfnaaekmpbaaGreatDoor

namespace Go.Proofs.YtiijfnaaekmpbaaGreatDoor
open Go.RowKit
attribute [local go_sem ↓] Go.wp_at_zero Go.wp_at_succ
end Go.Proofs.YtiijfnaaekmpbaaGreatDoor

namespace Go.Proofs.YtiijfnaaekmpbaaGreatDoor
open Go.RowKit
theorem form_turn (t : Bool) (m : Nat) (f : Int) : formD (!t) m f = negD (formD t m f) := by
 by_cases h0 : m = 0
 ·rw [h0, form_zero, form_zero]; rfl
 ·rw [form_pos _ h0, form_pos _ h0]
  have h1 := (odd_part h0).1
  have h2 : ¬ m / 2 ^ tz m = 0 := fun q => by rw [q] at h1; exact absurd h1 (by decide)
  unfold negD
  simp [h2]
theorem sumlen (x y : Bool × Nat × Int) (hx : blen x.2.1 ≤ 10000000) (hy : blen y.2.1 ≤ 10000000) (ex : -20000000 ≤ x.2.2 ∧ x.2.2 ≤ 20000000) (ey : -20000000 ≤ y.2.2 ∧ y.2.2 ≤ 20000000) : (wO (sumD x y).2.1).length ≤ 2000001 := by
 have kx : (wO x.2.1).length ≤ 200000 := (words_len2 _ _).2 (by omega)
 have ky : (wO y.2.1).length ≤ 200000 := (words_len2 _ _).2 (by omega)
 by_cases h1 : x.2.1 = 0
 ·have : sumD x y = y := by unfold sumD; rw [if_pos h1]
  rw [this]; omega
 ·by_cases h2 : y.2.1 = 0
  ·have : sumD x y = x := by unfold sumD; rw [if_neg h1, if_pos h2]
   rw [this]; omega
  ·obtain ⟨ee, hee⟩ : ∃ ee : Int, min x.2.2 y.2.2 = ee := ⟨_, rfl⟩
   obtain ⟨i, hi⟩ : ∃ i : Nat, x.2.2 - ee = (i : Int) := ⟨(x.2.2 - ee).toNat, by omega⟩
   obtain ⟨j, hj⟩ : ∃ j : Nat, y.2.2 - ee = (j : Int) := ⟨(y.2.2 - ee).toNat, by omega⟩
   have hib : i ≤ 50000000 := by omega
   have hjb : j ≤ 50000000 := by omega
   have hMb : blen (x.2.1 * 2 ^ i) ≤ 60000000 := by rw [blen_mul _ _ h1]; omega
   have hNb : blen (y.2.1 * 2 ^ j) ≤ 60000000 := by rw [blen_mul _ _ h2]; omega
   have hMl : (wO (x.2.1 * 2 ^ i)).length ≤ 1000000 := (words_len2 _ _).2 (by omega)
   have hNl : (wO (y.2.1 * 2 ^ j)).length ≤ 1000000 := (words_len2 _ _).2 (by omega)
   have key : (sumD x y).2.1 ≤ x.2.1 * 2 ^ i + y.2.1 * 2 ^ j := by
    rw [plus_q x y h1 h2 ee hee i hi j hj]
    split
    ·exact form_amount_le _ _ _
    ·split
     ·exact Nat.le_trans (form_amount_le _ _ _) (by omega)
     ·exact Nat.le_trans (form_amount_le _ _ _) (by omega)
   have h3 := words_len_mono key
   have h4 := sum_wordsQ (x.2.1 * 2 ^ i) (y.2.1 * 2 ^ j)
   omega
end Go.Proofs.YtiijfnaaekmpbaaGreatDoor

namespace Go.Proofs.YtiijfnaaekmpbaaGreatDoor
open Go.RowKit
set_option maxHeartbeats 2000000
set_option maxRecDepth 100000
attribute [local go_sem ↓] Go.wp_at_zero Go.wp_at_succ
theorem qorder_lt (s : Bool) (a : Option Addr) (len cap : Nat) (xs : List Int) (e : Int) (t : Bool) (b : Option Addr) (len' cap' : Nat) (ys : List Int) (f : Int) (w : World) (h : IsW w a len cap xs) (hm : len ≤ 17592186044000) (h' : IsW w b len' cap' ys) (hm' : len' ≤ 17592186044000) (hs : sgnQ s (val xs) < sgnQ t (val ys)) :
  Calls Tryz.prog 56 #[dyV s a len cap e, dyV t b len' cap' f] w fun r w' => r = .returned (.int .i64 (-1)) ∧ Below w.heap.size w w' := by
 have bw : Below w.heap.size w ((w.alloc (.cells #[.bool s, .slice a len cap, .int .i64 e] 27)).alloc (.cells #[.bool t, .slice b len' cap', .int .i64 f] 27)) := by repeat (first | exact Below.refl _ _ | refine bl_alloc ?_ _)
 have HS1 : Hid _ := fun W g => qSign_calls s a len cap xs e W g hm
 have HS2 : Hid _ := fun W g => qSign_calls t b len' cap' ys f W g hm'
 have H1 : Hid (IsW w a len cap xs) := h
 have H2 : Hid (IsW w b len' cap' ys) := h'
 generalize sgnQ s (val xs) = sg at *
 generalize sgnQ t (val ys) = tg at *
 obtain ⟨k0, k1, k2, k3, k4, k5⟩ := fX17 w s a len cap e t b len' cap' f _ rfl
 clear h h' hm hm'
 go_enter Tryz.func56, Tryz.ntmps56
 go_upto_region 1 with fail
 generalize ((w.alloc (.cells #[.bool s, .slice a len cap, .int .i64 e] 27)).alloc (.cells #[.bool t, .slice b len' cap', .int .i64 f] 27)) = w0 at *
 have bd : Below w0.heap.size w0 w0.drew := (Below.refl _ _).drew
 refine wp_region_held (S := fun w' => w'.cell? ⟨w.heap.size, 0, none⟩ = some (.bool s) ∧ w'.cell? ⟨w.heap.size, 1, none⟩ = some (.slice a len cap) ∧ w'.cell? ⟨w.heap.size, 2, none⟩ = some (.int .i64 e) ∧ w'.cell? ⟨w.heap.size + 1, 0, none⟩ = some (.bool t) ∧ w'.cell? ⟨w.heap.size + 1, 1, none⟩ = some (.slice b len' cap') ∧ w'.cell? ⟨w.heap.size + 1, 2, none⟩ = some (.int .i64 f)) (by kernel_rfl) ?_
 change wpAnyH _ _ _ _ _ _ _ _ (World.drew w0)
 revert k0 k1 k2 k3 k4 k5; refine cc6 bd ?_; intro k0 k1 k2 k3 k4 k5
 replace bw := nT bw bd
 clear bd
 generalize World.drew w0 = wd3 at *
 refine tk 0 (?vt3_0) rfl (by kernel_rfl) (fun _ _ _ h => h) (by rfl) ?yt3_0 ⟨k0, k1, k2, k3, k4, k5⟩ ?rt3_0
 case yt3_0 => (rintro ww ⟨q0, q1, q2, q3, q4, q5⟩; go_simp; try with_reducible rfl)
 try simp only [Act.put]
 refine tk 2 (?vt3_2) rfl (by kernel_rfl) (fun _ _ _ h => h) (by rfl) ?yt3_2 ⟨k0, k1, k2, k3, k4, k5⟩ ?rt3_2
 case yt3_2 => (rintro ww ⟨q0, q1, q2, q3, q4, q5⟩; go_simp; try with_reducible rfl)
 try simp only [Act.put]
 refine rd1 1 (by kernel_rfl) rfl fun K hK => ?_
 go_simp
 refine cM (HS1.out _ (H1.out.keep bw)) ?_
 rintro r w1 ⟨rfl, bN⟩
 revert k0 k1 k2 k3 k4 k5; refine cc6 bN ?_; intro k0 k1 k2 k3 k4 k5
 refine hK.out _ _ ⟨k0, k1, k2, k3, k4, k5⟩ (fun _ => ?_)
 clear hK K
 replace bw := nT bw bN
 clear bN
 try simp only [Act.put, sA, sZ, sS]
 refine rd1 3 (by kernel_rfl) rfl fun K hK => ?_
 go_simp
 refine cM (HS2.out _ (H2.out.keep bw)) ?_
 rintro r w2 ⟨rfl, bN⟩
 revert k0 k1 k2 k3 k4 k5; refine cc6 bN ?_; intro k0 k1 k2 k3 k4 k5
 refine hK.out _ _ ⟨k0, k1, k2, k3, k4, k5⟩ (fun _ => ?_)
 clear hK K
 replace bw := nT bw bN
 clear bN
 try simp only [Act.put, sA, sZ, sS]
 refine rd1 4 (by kernel_rfl) rfl fun K hK => ?_
 go_simp
 refine hK.out _ _ ⟨k0, k1, k2, k3, k4, k5⟩ (fun _ => ?_)
 clear hK K
 try simp only [Act.put, sA, sZ, sS]
 refine rd1 5 (by kernel_rfl) rfl fun K hK => ?_
 go_simp
 refine hK.out _ _ ⟨k0, k1, k2, k3, k4, k5⟩ (fun _ => ?_)
 clear hK K
 try simp only [Act.put, sA, sZ, sS]
 refine wpAnyH_done (by kernel_rfl) ?_ _
 go_wp2_with fail
 go_ret
 exact ⟨rfl, bw⟩
theorem qorder_gt (s : Bool) (a : Option Addr) (len cap : Nat) (xs : List Int) (e : Int) (t : Bool) (b : Option Addr) (len' cap' : Nat) (ys : List Int) (f : Int) (w : World) (h : IsW w a len cap xs) (hm : len ≤ 17592186044000) (h' : IsW w b len' cap' ys) (hm' : len' ≤ 17592186044000) (hs : sgnQ t (val ys) < sgnQ s (val xs)) :
  Calls Tryz.prog 56 #[dyV s a len cap e, dyV t b len' cap' f] w fun r w' => r = .returned (.int .i64 (1)) ∧ Below w.heap.size w w' := by
 have bw : Below w.heap.size w ((w.alloc (.cells #[.bool s, .slice a len cap, .int .i64 e] 27)).alloc (.cells #[.bool t, .slice b len' cap', .int .i64 f] 27)) := by repeat (first | exact Below.refl _ _ | refine bl_alloc ?_ _)
 have HS1 : Hid _ := fun W g => qSign_calls s a len cap xs e W g hm
 have HS2 : Hid _ := fun W g => qSign_calls t b len' cap' ys f W g hm'
 have H1 : Hid (IsW w a len cap xs) := h
 have H2 : Hid (IsW w b len' cap' ys) := h'
 generalize sgnQ s (val xs) = sg at *
 generalize sgnQ t (val ys) = tg at *
 have hns : ¬ sg < tg := by omega
 obtain ⟨k0, k1, k2, k3, k4, k5⟩ := fX17 w s a len cap e t b len' cap' f _ rfl
 clear h h' hm hm'
 go_enter Tryz.func56, Tryz.ntmps56
 go_upto_region 1 with fail
 generalize ((w.alloc (.cells #[.bool s, .slice a len cap, .int .i64 e] 27)).alloc (.cells #[.bool t, .slice b len' cap', .int .i64 f] 27)) = w0 at *
 have bd : Below w0.heap.size w0 w0.drew := (Below.refl _ _).drew
 refine wp_region_held (S := fun w' => w'.cell? ⟨w.heap.size, 0, none⟩ = some (.bool s) ∧ w'.cell? ⟨w.heap.size, 1, none⟩ = some (.slice a len cap) ∧ w'.cell? ⟨w.heap.size, 2, none⟩ = some (.int .i64 e) ∧ w'.cell? ⟨w.heap.size + 1, 0, none⟩ = some (.bool t) ∧ w'.cell? ⟨w.heap.size + 1, 1, none⟩ = some (.slice b len' cap') ∧ w'.cell? ⟨w.heap.size + 1, 2, none⟩ = some (.int .i64 f)) (by kernel_rfl) ?_
 change wpAnyH _ _ _ _ _ _ _ _ (World.drew w0)
 revert k0 k1 k2 k3 k4 k5; refine cc6 bd ?_; intro k0 k1 k2 k3 k4 k5
 replace bw := nT bw bd
 clear bd
 generalize World.drew w0 = wd4 at *
 refine tk 0 (?vt4_0) rfl (by kernel_rfl) (fun _ _ _ h => h) (by rfl) ?yt4_0 ⟨k0, k1, k2, k3, k4, k5⟩ ?rt4_0
 case yt4_0 => (rintro ww ⟨q0, q1, q2, q3, q4, q5⟩; go_simp; try with_reducible rfl)
 try simp only [Act.put]
 refine tk 2 (?vt4_2) rfl (by kernel_rfl) (fun _ _ _ h => h) (by rfl) ?yt4_2 ⟨k0, k1, k2, k3, k4, k5⟩ ?rt4_2
 case yt4_2 => (rintro ww ⟨q0, q1, q2, q3, q4, q5⟩; go_simp; try with_reducible rfl)
 try simp only [Act.put]
 refine rd1 1 (by kernel_rfl) rfl fun K hK => ?_
 go_simp
 refine cM (HS1.out _ (H1.out.keep bw)) ?_
 rintro r w1 ⟨rfl, bN⟩
 revert k0 k1 k2 k3 k4 k5; refine cc6 bN ?_; intro k0 k1 k2 k3 k4 k5
 refine hK.out _ _ ⟨k0, k1, k2, k3, k4, k5⟩ (fun _ => ?_)
 clear hK K
 replace bw := nT bw bN
 clear bN
 try simp only [Act.put, sA, sZ, sS]
 refine rd1 3 (by kernel_rfl) rfl fun K hK => ?_
 go_simp
 refine cM (HS2.out _ (H2.out.keep bw)) ?_
 rintro r w2 ⟨rfl, bN⟩
 revert k0 k1 k2 k3 k4 k5; refine cc6 bN ?_; intro k0 k1 k2 k3 k4 k5
 refine hK.out _ _ ⟨k0, k1, k2, k3, k4, k5⟩ (fun _ => ?_)
 clear hK K
 replace bw := nT bw bN
 clear bN
 try simp only [Act.put, sA, sZ, sS]
 refine rd1 4 (by kernel_rfl) rfl fun K hK => ?_
 go_simp
 refine hK.out _ _ ⟨k0, k1, k2, k3, k4, k5⟩ (fun _ => ?_)
 clear hK K
 try simp only [Act.put, sA, sZ, sS]
 refine rd1 5 (by kernel_rfl) rfl fun K hK => ?_
 go_simp
 refine hK.out _ _ ⟨k0, k1, k2, k3, k4, k5⟩ (fun _ => ?_)
 clear hK K
 try simp only [Act.put, sA, sZ, sS]
 refine wpAnyH_done (by kernel_rfl) ?_ _
 go_wp2_with fail
 go_ret
 exact ⟨rfl, bw⟩
theorem qorder_zero (s : Bool) (a : Option Addr) (len cap : Nat) (xs : List Int) (e : Int) (t : Bool) (b : Option Addr) (len' cap' : Nat) (ys : List Int) (f : Int) (w : World) (h : IsW w a len cap xs) (hm : len ≤ 17592186044000) (h' : IsW w b len' cap' ys) (hm' : len' ≤ 17592186044000) (hs : sgnQ s (val xs) = 0) (ht : sgnQ t (val ys) = 0) :
  Calls Tryz.prog 56 #[dyV s a len cap e, dyV t b len' cap' f] w fun r w' => r = .returned (.int .i64 (0)) ∧ Below w.heap.size w w' := by
 have bw : Below w.heap.size w ((w.alloc (.cells #[.bool s, .slice a len cap, .int .i64 e] 27)).alloc (.cells #[.bool t, .slice b len' cap', .int .i64 f] 27)) := by repeat (first | exact Below.refl _ _ | refine bl_alloc ?_ _)
 have HS1 : Hid _ := fun W g => qSign_calls s a len cap xs e W g hm
 have HS2 : Hid _ := fun W g => qSign_calls t b len' cap' ys f W g hm'
 have H1 : Hid (IsW w a len cap xs) := h
 have H2 : Hid (IsW w b len' cap' ys) := h'
 rw [hs] at HS1
 rw [ht] at HS2
 clear hs ht
 obtain ⟨k0, k1, k2, k3, k4, k5⟩ := fX17 w s a len cap e t b len' cap' f _ rfl
 clear h h' hm hm'
 go_enter Tryz.func56, Tryz.ntmps56
 go_upto_region 1 with fail
 generalize ((w.alloc (.cells #[.bool s, .slice a len cap, .int .i64 e] 27)).alloc (.cells #[.bool t, .slice b len' cap', .int .i64 f] 27)) = w0 at *
 have bd : Below w0.heap.size w0 w0.drew := (Below.refl _ _).drew
 refine wp_region_held (S := fun w' => w'.cell? ⟨w.heap.size, 0, none⟩ = some (.bool s) ∧ w'.cell? ⟨w.heap.size, 1, none⟩ = some (.slice a len cap) ∧ w'.cell? ⟨w.heap.size, 2, none⟩ = some (.int .i64 e) ∧ w'.cell? ⟨w.heap.size + 1, 0, none⟩ = some (.bool t) ∧ w'.cell? ⟨w.heap.size + 1, 1, none⟩ = some (.slice b len' cap') ∧ w'.cell? ⟨w.heap.size + 1, 2, none⟩ = some (.int .i64 f)) (by kernel_rfl) ?_
 change wpAnyH _ _ _ _ _ _ _ _ (World.drew w0)
 revert k0 k1 k2 k3 k4 k5; refine cc6 bd ?_; intro k0 k1 k2 k3 k4 k5
 replace bw := nT bw bd
 clear bd
 generalize World.drew w0 = wd5 at *
 refine tk 0 (?vt5_0) rfl (by kernel_rfl) (fun _ _ _ h => h) (by rfl) ?yt5_0 ⟨k0, k1, k2, k3, k4, k5⟩ ?rt5_0
 case yt5_0 => (rintro ww ⟨q0, q1, q2, q3, q4, q5⟩; go_simp; try with_reducible rfl)
 try simp only [Act.put]
 refine tk 2 (?vt5_2) rfl (by kernel_rfl) (fun _ _ _ h => h) (by rfl) ?yt5_2 ⟨k0, k1, k2, k3, k4, k5⟩ ?rt5_2
 case yt5_2 => (rintro ww ⟨q0, q1, q2, q3, q4, q5⟩; go_simp; try with_reducible rfl)
 try simp only [Act.put]
 refine rd1 1 (by kernel_rfl) rfl fun K hK => ?_
 go_simp
 refine cM (HS1.out _ (H1.out.keep bw)) ?_
 rintro r w1 ⟨rfl, bN⟩
 revert k0 k1 k2 k3 k4 k5; refine cc6 bN ?_; intro k0 k1 k2 k3 k4 k5
 refine hK.out _ _ ⟨k0, k1, k2, k3, k4, k5⟩ (fun _ => ?_)
 clear hK K
 replace bw := nT bw bN
 clear bN
 try simp only [Act.put, sA, sZ, sS]
 refine rd1 3 (by kernel_rfl) rfl fun K hK => ?_
 go_simp
 refine cM (HS2.out _ (H2.out.keep bw)) ?_
 rintro r w2 ⟨rfl, bN⟩
 revert k0 k1 k2 k3 k4 k5; refine cc6 bN ?_; intro k0 k1 k2 k3 k4 k5
 refine hK.out _ _ ⟨k0, k1, k2, k3, k4, k5⟩ (fun _ => ?_)
 clear hK K
 replace bw := nT bw bN
 clear bN
 try simp only [Act.put, sA, sZ, sS]
 refine rd1 4 (by kernel_rfl) rfl fun K hK => ?_
 go_simp
 refine hK.out _ _ ⟨k0, k1, k2, k3, k4, k5⟩ (fun _ => ?_)
 clear hK K
 try simp only [Act.put, sA, sZ, sS]
 refine rd1 5 (by kernel_rfl) rfl fun K hK => ?_
 go_simp
 refine hK.out _ _ ⟨k0, k1, k2, k3, k4, k5⟩ (fun _ => ?_)
 clear hK K
 try simp only [Act.put, sA, sZ, sS]
 refine wpAnyH_done (by kernel_rfl) ?_ _
 go_wp2_with fail
 go_ret
 exact ⟨rfl, bw⟩
theorem qorder_top (s : Bool) (a : Option Addr) (len cap : Nat) (xs : List Int) (e : Int) (t : Bool) (b : Option Addr) (len' cap' : Nat) (ys : List Int) (f : Int) (w : World) (h : IsW w a len cap xs) (hm : len ≤ 17592186044000) (h' : IsW w b len' cap' ys) (hm' : len' ≤ 17592186044000) (he : -5000000 ≤ e ∧ e ≤ 5000000) (hf : -5000000 ≤ f ∧ f ≤ 5000000) (hbx : blen (val xs) ≤ 5000000) (hby : blen (val ys) ≤ 5000000) (sg : Int) (hs : sgnQ s (val xs) = sg) (ht : sgnQ t (val ys) = sg) (h0 : sg ≠ 0) (_hr : -1 ≤ sg ∧ sg ≤ 1) (hg : f + (blen (val ys) : Int) - 1 < e + (blen (val xs) : Int) - 1) :
  Calls Tryz.prog 56 #[dyV s a len cap e, dyV t b len' cap' f] w fun r w' => r = .returned (.int .i64 (sg)) ∧ Below w.heap.size w w' := by
 have bw : Below w.heap.size w ((w.alloc (.cells #[.bool s, .slice a len cap, .int .i64 e] 27)).alloc (.cells #[.bool t, .slice b len' cap', .int .i64 f] 27)) := by repeat (first | exact Below.refl _ _ | refine bl_alloc ?_ _)
 have HS1 : Hid _ := fun W g => qSign_calls s a len cap xs e W g hm
 have HS2 : Hid _ := fun W g => qSign_calls t b len' cap' ys f W g hm'
 have H1 : Hid (IsW w a len cap xs) := h
 have H2 : Hid (IsW w b len' cap' ys) := h'
 rw [hs] at HS1
 rw [ht] at HS2
 have hz : (sg == 0) = false := by simp [h0]
 have HT1 : Hid _ := fun W g => qTop_calls s a len cap xs e W g hm (by omega) (by omega)
 have HT2 : Hid _ := fun W g => qTop_calls t b len' cap' ys f W g hm' (by omega) (by omega)
 clear hs ht h0 hbx hby he hf
 generalize e + (blen (val xs) : Int) - 1 = t1 at *
 generalize f + (blen (val ys) : Int) - 1 = t2 at *
 have hne : (t1 == t2) = false := by simp; omega
 obtain ⟨k0, k1, k2, k3, k4, k5⟩ := fX17 w s a len cap e t b len' cap' f _ rfl
 clear h h' hm hm'
 go_enter Tryz.func56, Tryz.ntmps56
 go_upto_region 1 with fail
 generalize ((w.alloc (.cells #[.bool s, .slice a len cap, .int .i64 e] 27)).alloc (.cells #[.bool t, .slice b len' cap', .int .i64 f] 27)) = w0 at *
 have bd : Below w0.heap.size w0 w0.drew := (Below.refl _ _).drew
 refine wp_region_held (S := fun w' => w'.cell? ⟨w.heap.size, 0, none⟩ = some (.bool s) ∧ w'.cell? ⟨w.heap.size, 1, none⟩ = some (.slice a len cap) ∧ w'.cell? ⟨w.heap.size, 2, none⟩ = some (.int .i64 e) ∧ w'.cell? ⟨w.heap.size + 1, 0, none⟩ = some (.bool t) ∧ w'.cell? ⟨w.heap.size + 1, 1, none⟩ = some (.slice b len' cap') ∧ w'.cell? ⟨w.heap.size + 1, 2, none⟩ = some (.int .i64 f)) (by kernel_rfl) ?_
 change wpAnyH _ _ _ _ _ _ _ _ (World.drew w0)
 revert k0 k1 k2 k3 k4 k5; refine cc6 bd ?_; intro k0 k1 k2 k3 k4 k5
 replace bw := nT bw bd
 clear bd
 generalize World.drew w0 = wd7 at *
 refine tk 0 (?vt7_0) rfl (by kernel_rfl) (fun _ _ _ h => h) (by rfl) ?yt7_0 ⟨k0, k1, k2, k3, k4, k5⟩ ?rt7_0
 case yt7_0 => (rintro ww ⟨q0, q1, q2, q3, q4, q5⟩; go_simp; try with_reducible rfl)
 try simp only [Act.put]
 refine tk 2 (?vt7_2) rfl (by kernel_rfl) (fun _ _ _ h => h) (by rfl) ?yt7_2 ⟨k0, k1, k2, k3, k4, k5⟩ ?rt7_2
 case yt7_2 => (rintro ww ⟨q0, q1, q2, q3, q4, q5⟩; go_simp; try with_reducible rfl)
 try simp only [Act.put]
 refine rd1 1 (by kernel_rfl) rfl fun K hK => ?_
 go_simp
 refine cM (HS1.out _ (H1.out.keep bw)) ?_
 rintro r w1 ⟨rfl, bN⟩
 revert k0 k1 k2 k3 k4 k5; refine cc6 bN ?_; intro k0 k1 k2 k3 k4 k5
 refine hK.out _ _ ⟨k0, k1, k2, k3, k4, k5⟩ (fun _ => ?_)
 clear hK K
 replace bw := nT bw bN
 clear bN
 try simp only [Act.put, sA, sZ, sS]
 refine rd1 3 (by kernel_rfl) rfl fun K hK => ?_
 go_simp
 refine cM (HS2.out _ (H2.out.keep bw)) ?_
 rintro r w2 ⟨rfl, bN⟩
 revert k0 k1 k2 k3 k4 k5; refine cc6 bN ?_; intro k0 k1 k2 k3 k4 k5
 refine hK.out _ _ ⟨k0, k1, k2, k3, k4, k5⟩ (fun _ => ?_)
 clear hK K
 replace bw := nT bw bN
 clear bN
 try simp only [Act.put, sA, sZ, sS]
 refine rd1 4 (by kernel_rfl) rfl fun K hK => ?_
 go_simp
 refine hK.out _ _ ⟨k0, k1, k2, k3, k4, k5⟩ (fun _ => ?_)
 clear hK K
 try simp only [Act.put, sA, sZ, sS]
 refine rd1 5 (by kernel_rfl) rfl fun K hK => ?_
 go_simp
 refine hK.out _ _ ⟨k0, k1, k2, k3, k4, k5⟩ (fun _ => ?_)
 clear hK K
 try simp only [Act.put, sA, sZ, sS]
 refine wpAnyH_done (by kernel_rfl) ?_ _
 go_wp2_with fail
 have bd : Below w2.heap.size w2 w2.drew := (Below.refl _ _).drew
 refine wp_region_held (S := fun w' => w'.cell? ⟨w.heap.size, 0, none⟩ = some (.bool s) ∧ w'.cell? ⟨w.heap.size, 1, none⟩ = some (.slice a len cap) ∧ w'.cell? ⟨w.heap.size, 2, none⟩ = some (.int .i64 e) ∧ w'.cell? ⟨w.heap.size + 1, 0, none⟩ = some (.bool t) ∧ w'.cell? ⟨w.heap.size + 1, 1, none⟩ = some (.slice b len' cap') ∧ w'.cell? ⟨w.heap.size + 1, 2, none⟩ = some (.int .i64 f)) (by kernel_rfl) ?_
 change wpAnyH _ _ _ _ _ _ _ _ (World.drew w2)
 revert k0 k1 k2 k3 k4 k5; refine cc6 bd ?_; intro k0 k1 k2 k3 k4 k5
 replace bw := nT bw bd
 clear bd
 generalize World.drew w2 = wd6 at *
 refine tk 0 (?vt6_0) rfl (by kernel_rfl) (fun _ _ _ h => h) (by rfl) ?yt6_0 ⟨k0, k1, k2, k3, k4, k5⟩ ?rt6_0
 case yt6_0 => (rintro ww ⟨q0, q1, q2, q3, q4, q5⟩; go_simp; try with_reducible rfl)
 try simp only [Act.put]
 refine tk 2 (?vt6_2) rfl (by kernel_rfl) (fun _ _ _ h => h) (by rfl) ?yt6_2 ⟨k0, k1, k2, k3, k4, k5⟩ ?rt6_2
 case yt6_2 => (rintro ww ⟨q0, q1, q2, q3, q4, q5⟩; go_simp; try with_reducible rfl)
 try simp only [Act.put]
 refine rd1 1 (by kernel_rfl) rfl fun K hK => ?_
 go_simp
 refine cM (HT1.out _ (H1.out.keep bw)) ?_
 rintro r w3 ⟨rfl, bN⟩
 revert k0 k1 k2 k3 k4 k5; refine cc6 bN ?_; intro k0 k1 k2 k3 k4 k5
 refine hK.out _ _ ⟨k0, k1, k2, k3, k4, k5⟩ (fun _ => ?_)
 clear hK K
 replace bw := nT bw bN
 clear bN
 try simp only [Act.put, sA, sZ, sS]
 refine rd1 3 (by kernel_rfl) rfl fun K hK => ?_
 go_simp
 refine cM (HT2.out _ (H2.out.keep bw)) ?_
 rintro r w4 ⟨rfl, bN⟩
 revert k0 k1 k2 k3 k4 k5; refine cc6 bN ?_; intro k0 k1 k2 k3 k4 k5
 refine hK.out _ _ ⟨k0, k1, k2, k3, k4, k5⟩ (fun _ => ?_)
 clear hK K
 replace bw := nT bw bN
 clear bN
 try simp only [Act.put, sA, sZ, sS]
 refine rd1 4 (by kernel_rfl) rfl fun K hK => ?_
 go_simp
 refine hK.out _ _ ⟨k0, k1, k2, k3, k4, k5⟩ (fun _ => ?_)
 clear hK K
 try simp only [Act.put, sA, sZ, sS]
 refine rd1 5 (by kernel_rfl) rfl fun K hK => ?_
 go_simp
 refine hK.out _ _ ⟨k0, k1, k2, k3, k4, k5⟩ (fun _ => ?_)
 clear hK K
 try simp only [Act.put, sA, sZ, sS]
 refine wpAnyH_done (by kernel_rfl) ?_ _
 go_wp2_with fail
 go_ret
 exact ⟨rfl, bw⟩
theorem qorder_low (s : Bool) (a : Option Addr) (len cap : Nat) (xs : List Int) (e : Int) (t : Bool) (b : Option Addr) (len' cap' : Nat) (ys : List Int) (f : Int) (w : World) (h : IsW w a len cap xs) (hm : len ≤ 17592186044000) (h' : IsW w b len' cap' ys) (hm' : len' ≤ 17592186044000) (he : -5000000 ≤ e ∧ e ≤ 5000000) (hf : -5000000 ≤ f ∧ f ≤ 5000000) (hbx : blen (val xs) ≤ 5000000) (hby : blen (val ys) ≤ 5000000) (sg : Int) (hs : sgnQ s (val xs) = sg) (ht : sgnQ t (val ys) = sg) (h0 : sg ≠ 0) (hr : -1 ≤ sg ∧ sg ≤ 1) (hg : e + (blen (val xs) : Int) - 1 < f + (blen (val ys) : Int) - 1) :
  Calls Tryz.prog 56 #[dyV s a len cap e, dyV t b len' cap' f] w fun r w' => r = .returned (.int .i64 (-sg)) ∧ Below w.heap.size w w' := by
 have bw : Below w.heap.size w ((w.alloc (.cells #[.bool s, .slice a len cap, .int .i64 e] 27)).alloc (.cells #[.bool t, .slice b len' cap', .int .i64 f] 27)) := by repeat (first | exact Below.refl _ _ | refine bl_alloc ?_ _)
 have HS1 : Hid _ := fun W g => qSign_calls s a len cap xs e W g hm
 have HS2 : Hid _ := fun W g => qSign_calls t b len' cap' ys f W g hm'
 have H1 : Hid (IsW w a len cap xs) := h
 have H2 : Hid (IsW w b len' cap' ys) := h'
 rw [hs] at HS1
 rw [ht] at HS2
 have hz : (sg == 0) = false := by simp [h0]
 have HT1 : Hid _ := fun W g => qTop_calls s a len cap xs e W g hm (by omega) (by omega)
 have HT2 : Hid _ := fun W g => qTop_calls t b len' cap' ys f W g hm' (by omega) (by omega)
 clear hs ht h0 hbx hby he hf
 generalize e + (blen (val xs) : Int) - 1 = t1 at *
 generalize f + (blen (val ys) : Int) - 1 = t2 at *
 have hne : (t1 == t2) = false := by simp; omega
 have hng : ¬ t2 < t1 := by omega
 have hwn : IntKind.i64.wrap (-sg) = -sg := by rw [IntKind.wrap_i64]; omega
 obtain ⟨k0, k1, k2, k3, k4, k5⟩ := fX17 w s a len cap e t b len' cap' f _ rfl
 clear h h' hm hm'
 go_enter Tryz.func56, Tryz.ntmps56
 go_upto_region 1 with fail
 generalize ((w.alloc (.cells #[.bool s, .slice a len cap, .int .i64 e] 27)).alloc (.cells #[.bool t, .slice b len' cap', .int .i64 f] 27)) = w0 at *
 have bd : Below w0.heap.size w0 w0.drew := (Below.refl _ _).drew
 refine wp_region_held (S := fun w' => w'.cell? ⟨w.heap.size, 0, none⟩ = some (.bool s) ∧ w'.cell? ⟨w.heap.size, 1, none⟩ = some (.slice a len cap) ∧ w'.cell? ⟨w.heap.size, 2, none⟩ = some (.int .i64 e) ∧ w'.cell? ⟨w.heap.size + 1, 0, none⟩ = some (.bool t) ∧ w'.cell? ⟨w.heap.size + 1, 1, none⟩ = some (.slice b len' cap') ∧ w'.cell? ⟨w.heap.size + 1, 2, none⟩ = some (.int .i64 f)) (by kernel_rfl) ?_
 change wpAnyH _ _ _ _ _ _ _ _ (World.drew w0)
 revert k0 k1 k2 k3 k4 k5; refine cc6 bd ?_; intro k0 k1 k2 k3 k4 k5
 replace bw := nT bw bd
 clear bd
 generalize World.drew w0 = wd8 at *
 refine tk 0 (?vt8_0) rfl (by kernel_rfl) (fun _ _ _ h => h) (by rfl) ?yt8_0 ⟨k0, k1, k2, k3, k4, k5⟩ ?rt8_0
 case yt8_0 => (rintro ww ⟨q0, q1, q2, q3, q4, q5⟩; go_simp; try with_reducible rfl)
 try simp only [Act.put]
 refine tk 2 (?vt8_2) rfl (by kernel_rfl) (fun _ _ _ h => h) (by rfl) ?yt8_2 ⟨k0, k1, k2, k3, k4, k5⟩ ?rt8_2
 case yt8_2 => (rintro ww ⟨q0, q1, q2, q3, q4, q5⟩; go_simp; try with_reducible rfl)
 try simp only [Act.put]
 refine rd1 1 (by kernel_rfl) rfl fun K hK => ?_
 go_simp
 refine cM (HS1.out _ (H1.out.keep bw)) ?_
 rintro r w1 ⟨rfl, bN⟩
 revert k0 k1 k2 k3 k4 k5; refine cc6 bN ?_; intro k0 k1 k2 k3 k4 k5
 refine hK.out _ _ ⟨k0, k1, k2, k3, k4, k5⟩ (fun _ => ?_)
 clear hK K
 replace bw := nT bw bN
 clear bN
 try simp only [Act.put, sA, sZ, sS]
 refine rd1 3 (by kernel_rfl) rfl fun K hK => ?_
 go_simp
 refine cM (HS2.out _ (H2.out.keep bw)) ?_
 rintro r w2 ⟨rfl, bN⟩
 revert k0 k1 k2 k3 k4 k5; refine cc6 bN ?_; intro k0 k1 k2 k3 k4 k5
 refine hK.out _ _ ⟨k0, k1, k2, k3, k4, k5⟩ (fun _ => ?_)
 clear hK K
 replace bw := nT bw bN
 clear bN
 try simp only [Act.put, sA, sZ, sS]
 refine rd1 4 (by kernel_rfl) rfl fun K hK => ?_
 go_simp
 refine hK.out _ _ ⟨k0, k1, k2, k3, k4, k5⟩ (fun _ => ?_)
 clear hK K
 try simp only [Act.put, sA, sZ, sS]
 refine rd1 5 (by kernel_rfl) rfl fun K hK => ?_
 go_simp
 refine hK.out _ _ ⟨k0, k1, k2, k3, k4, k5⟩ (fun _ => ?_)
 clear hK K
 try simp only [Act.put, sA, sZ, sS]
 refine wpAnyH_done (by kernel_rfl) ?_ _
 go_wp2_with fail
 have bd : Below w2.heap.size w2 w2.drew := (Below.refl _ _).drew
 refine wp_region_held (S := fun w' => w'.cell? ⟨w.heap.size, 0, none⟩ = some (.bool s) ∧ w'.cell? ⟨w.heap.size, 1, none⟩ = some (.slice a len cap) ∧ w'.cell? ⟨w.heap.size, 2, none⟩ = some (.int .i64 e) ∧ w'.cell? ⟨w.heap.size + 1, 0, none⟩ = some (.bool t) ∧ w'.cell? ⟨w.heap.size + 1, 1, none⟩ = some (.slice b len' cap') ∧ w'.cell? ⟨w.heap.size + 1, 2, none⟩ = some (.int .i64 f)) (by kernel_rfl) ?_
 change wpAnyH _ _ _ _ _ _ _ _ (World.drew w2)
 revert k0 k1 k2 k3 k4 k5; refine cc6 bd ?_; intro k0 k1 k2 k3 k4 k5
 replace bw := nT bw bd
 clear bd
 generalize World.drew w2 = wd6 at *
 refine tk 0 (?vt6_0) rfl (by kernel_rfl) (fun _ _ _ h => h) (by rfl) ?yt6_0 ⟨k0, k1, k2, k3, k4, k5⟩ ?rt6_0
 case yt6_0 => (rintro ww ⟨q0, q1, q2, q3, q4, q5⟩; go_simp; try with_reducible rfl)
 try simp only [Act.put]
 refine tk 2 (?vt6_2) rfl (by kernel_rfl) (fun _ _ _ h => h) (by rfl) ?yt6_2 ⟨k0, k1, k2, k3, k4, k5⟩ ?rt6_2
 case yt6_2 => (rintro ww ⟨q0, q1, q2, q3, q4, q5⟩; go_simp; try with_reducible rfl)
 try simp only [Act.put]
 refine rd1 1 (by kernel_rfl) rfl fun K hK => ?_
 go_simp
 refine cM (HT1.out _ (H1.out.keep bw)) ?_
 rintro r w3 ⟨rfl, bN⟩
 revert k0 k1 k2 k3 k4 k5; refine cc6 bN ?_; intro k0 k1 k2 k3 k4 k5
 refine hK.out _ _ ⟨k0, k1, k2, k3, k4, k5⟩ (fun _ => ?_)
 clear hK K
 replace bw := nT bw bN
 clear bN
 try simp only [Act.put, sA, sZ, sS]
 refine rd1 3 (by kernel_rfl) rfl fun K hK => ?_
 go_simp
 refine cM (HT2.out _ (H2.out.keep bw)) ?_
 rintro r w4 ⟨rfl, bN⟩
 revert k0 k1 k2 k3 k4 k5; refine cc6 bN ?_; intro k0 k1 k2 k3 k4 k5
 refine hK.out _ _ ⟨k0, k1, k2, k3, k4, k5⟩ (fun _ => ?_)
 clear hK K
 replace bw := nT bw bN
 clear bN
 try simp only [Act.put, sA, sZ, sS]
 refine rd1 4 (by kernel_rfl) rfl fun K hK => ?_
 go_simp
 refine hK.out _ _ ⟨k0, k1, k2, k3, k4, k5⟩ (fun _ => ?_)
 clear hK K
 try simp only [Act.put, sA, sZ, sS]
 refine rd1 5 (by kernel_rfl) rfl fun K hK => ?_
 go_simp
 refine hK.out _ _ ⟨k0, k1, k2, k3, k4, k5⟩ (fun _ => ?_)
 clear hK K
 try simp only [Act.put, sA, sZ, sS]
 refine wpAnyH_done (by kernel_rfl) ?_ _
 go_wp2_with fail
 go_ret
 exact ⟨rfl, bw⟩
theorem qorder_less (s : Bool) (a : Option Addr) (len cap : Nat) (xs : List Int) (e : Int) (t : Bool) (b : Option Addr) (len' cap' : Nat) (ys : List Int) (f : Int) (w : World) (h : IsW w a len cap xs) (hm : len ≤ 17592186044000) (h' : IsW w b len' cap' ys) (hm' : len' ≤ 17592186044000) (he : -5000000 ≤ e ∧ e ≤ 5000000) (hf : -5000000 ≤ f ∧ f ≤ 5000000) (hbx : blen (val xs) ≤ 5000000) (hby : blen (val ys) ≤ 5000000) (sg : Int) (hs : sgnQ s (val xs) = sg) (ht : sgnQ t (val ys) = sg) (h0 : sg ≠ 0) (_hr : -1 ≤ sg ∧ sg ≤ 1) (hg : e + (blen (val xs) : Int) - 1 = f + (blen (val ys) : Int) - 1) :
  Calls Tryz.prog 56 #[dyV s a len cap e, dyV t b len' cap' f] w fun r w' => r = .returned (.int .i64 (sgnD (sumD (formD s (val xs) e) (negD (formD t (val ys) f))))) ∧ Below w.heap.size w w' := by
 have bw : Below w.heap.size w ((w.alloc (.cells #[.bool s, .slice a len cap, .int .i64 e] 27)).alloc (.cells #[.bool t, .slice b len' cap', .int .i64 f] 27)) := by repeat (first | exact Below.refl _ _ | refine bl_alloc ?_ _)
 have HS1 : Hid _ := fun W g => qSign_calls s a len cap xs e W g hm
 have HS2 : Hid _ := fun W g => qSign_calls t b len' cap' ys f W g hm'
 have H1 : Hid (IsW w a len cap xs) := h
 have H2 : Hid (IsW w b len' cap' ys) := h'
 rw [hs] at HS1
 rw [ht] at HS2
 have hz : (sg == 0) = false := by simp [h0]
 have HT1 : Hid _ := fun W g => qTop_calls s a len cap xs e W g hm (by omega) (by omega)
 have HT2 : Hid _ := fun W g => qTop_calls t b len' cap' ys f W g hm' (by omega) (by omega)
 have HLE : Hid _ := fun W g g' => qLess_calls s a len cap xs e t b len' cap' ys f W g hm g' hm' he hf hbx hby
 rw [form_turn] at HLE
 have HLN : Hid ((wO (sumD (formD s (val xs) e) (negD (formD t (val ys) f))).2.1).length ≤ 2000001) := by
  have h1 : blen (formD s (val xs) e).2.1 ≤ 5000000 := Nat.le_trans (blen_mono (form_amount_le _ _ _)) hbx
  have h2 : blen (formD t (val ys) f).2.1 ≤ 5000000 := Nat.le_trans (blen_mono (form_amount_le _ _ _)) hby
  have h3 := form_expc s (val xs) e hbx he
  have h4 := form_expc t (val ys) f hby hf
  exact sumlen _ _ (by omega) (by show blen (formD t (val ys) f).2.1 ≤ _; omega) (by omega) (by show _ ≤ (formD t (val ys) f).2.2 ∧ (formD t (val ys) f).2.2 ≤ _; omega)
 generalize sumD (formD s (val xs) e) (negD (formD t (val ys) f)) = p at *
 have HSP : Hid _ := fun a' n' c' W g (q : n' ≤ 2000001) => qSign_calls p.1 a' n' c' (wO p.2.1) p.2.2 W g (by omega)
 rw [val_words] at HSP
 rw [hg] at HT1
 clear hs ht h0 hg hbx hby he hf
 generalize f + (blen (val ys) : Int) - 1 = t2 at *
 obtain ⟨k0, k1, k2, k3, k4, k5⟩ := fX17 w s a len cap e t b len' cap' f _ rfl
 clear h h' hm hm'
 go_enter Tryz.func56, Tryz.ntmps56
 go_upto_region 1 with fail
 generalize ((w.alloc (.cells #[.bool s, .slice a len cap, .int .i64 e] 27)).alloc (.cells #[.bool t, .slice b len' cap', .int .i64 f] 27)) = w0 at *
 have bd : Below w0.heap.size w0 w0.drew := (Below.refl _ _).drew
 refine wp_region_held (S := fun w' => w'.cell? ⟨w.heap.size, 0, none⟩ = some (.bool s) ∧ w'.cell? ⟨w.heap.size, 1, none⟩ = some (.slice a len cap) ∧ w'.cell? ⟨w.heap.size, 2, none⟩ = some (.int .i64 e) ∧ w'.cell? ⟨w.heap.size + 1, 0, none⟩ = some (.bool t) ∧ w'.cell? ⟨w.heap.size + 1, 1, none⟩ = some (.slice b len' cap') ∧ w'.cell? ⟨w.heap.size + 1, 2, none⟩ = some (.int .i64 f)) (by kernel_rfl) ?_
 change wpAnyH _ _ _ _ _ _ _ _ (World.drew w0)
 revert k0 k1 k2 k3 k4 k5; refine cc6 bd ?_; intro k0 k1 k2 k3 k4 k5
 replace bw := nT bw bd
 clear bd
 generalize World.drew w0 = wd9 at *
 refine tk 0 (?vt9_0) rfl (by kernel_rfl) (fun _ _ _ h => h) (by rfl) ?yt9_0 ⟨k0, k1, k2, k3, k4, k5⟩ ?rt9_0
 case yt9_0 => (rintro ww ⟨q0, q1, q2, q3, q4, q5⟩; go_simp; try with_reducible rfl)
 try simp only [Act.put]
 refine tk 2 (?vt9_2) rfl (by kernel_rfl) (fun _ _ _ h => h) (by rfl) ?yt9_2 ⟨k0, k1, k2, k3, k4, k5⟩ ?rt9_2
 case yt9_2 => (rintro ww ⟨q0, q1, q2, q3, q4, q5⟩; go_simp; try with_reducible rfl)
 try simp only [Act.put]
 refine rd1 1 (by kernel_rfl) rfl fun K hK => ?_
 go_simp
 refine cM (HS1.out _ (H1.out.keep bw)) ?_
 rintro r w1 ⟨rfl, bN⟩
 revert k0 k1 k2 k3 k4 k5; refine cc6 bN ?_; intro k0 k1 k2 k3 k4 k5
 refine hK.out _ _ ⟨k0, k1, k2, k3, k4, k5⟩ (fun _ => ?_)
 clear hK K
 replace bw := nT bw bN
 clear bN
 try simp only [Act.put, sA, sZ, sS]
 refine rd1 3 (by kernel_rfl) rfl fun K hK => ?_
 go_simp
 refine cM (HS2.out _ (H2.out.keep bw)) ?_
 rintro r w2 ⟨rfl, bN⟩
 revert k0 k1 k2 k3 k4 k5; refine cc6 bN ?_; intro k0 k1 k2 k3 k4 k5
 refine hK.out _ _ ⟨k0, k1, k2, k3, k4, k5⟩ (fun _ => ?_)
 clear hK K
 replace bw := nT bw bN
 clear bN
 try simp only [Act.put, sA, sZ, sS]
 refine rd1 4 (by kernel_rfl) rfl fun K hK => ?_
 go_simp
 refine hK.out _ _ ⟨k0, k1, k2, k3, k4, k5⟩ (fun _ => ?_)
 clear hK K
 try simp only [Act.put, sA, sZ, sS]
 refine rd1 5 (by kernel_rfl) rfl fun K hK => ?_
 go_simp
 refine hK.out _ _ ⟨k0, k1, k2, k3, k4, k5⟩ (fun _ => ?_)
 clear hK K
 try simp only [Act.put, sA, sZ, sS]
 refine wpAnyH_done (by kernel_rfl) ?_ _
 go_wp2_with fail
 have bd : Below w2.heap.size w2 w2.drew := (Below.refl _ _).drew
 refine wp_region_held (S := fun w' => w'.cell? ⟨w.heap.size, 0, none⟩ = some (.bool s) ∧ w'.cell? ⟨w.heap.size, 1, none⟩ = some (.slice a len cap) ∧ w'.cell? ⟨w.heap.size, 2, none⟩ = some (.int .i64 e) ∧ w'.cell? ⟨w.heap.size + 1, 0, none⟩ = some (.bool t) ∧ w'.cell? ⟨w.heap.size + 1, 1, none⟩ = some (.slice b len' cap') ∧ w'.cell? ⟨w.heap.size + 1, 2, none⟩ = some (.int .i64 f)) (by kernel_rfl) ?_
 change wpAnyH _ _ _ _ _ _ _ _ (World.drew w2)
 revert k0 k1 k2 k3 k4 k5; refine cc6 bd ?_; intro k0 k1 k2 k3 k4 k5
 replace bw := nT bw bd
 clear bd
 generalize World.drew w2 = wd6 at *
 refine tk 0 (?vt6_0) rfl (by kernel_rfl) (fun _ _ _ h => h) (by rfl) ?yt6_0 ⟨k0, k1, k2, k3, k4, k5⟩ ?rt6_0
 case yt6_0 => (rintro ww ⟨q0, q1, q2, q3, q4, q5⟩; go_simp; try with_reducible rfl)
 try simp only [Act.put]
 refine tk 2 (?vt6_2) rfl (by kernel_rfl) (fun _ _ _ h => h) (by rfl) ?yt6_2 ⟨k0, k1, k2, k3, k4, k5⟩ ?rt6_2
 case yt6_2 => (rintro ww ⟨q0, q1, q2, q3, q4, q5⟩; go_simp; try with_reducible rfl)
 try simp only [Act.put]
 refine rd1 1 (by kernel_rfl) rfl fun K hK => ?_
 go_simp
 refine cM (HT1.out _ (H1.out.keep bw)) ?_
 rintro r w3 ⟨rfl, bN⟩
 revert k0 k1 k2 k3 k4 k5; refine cc6 bN ?_; intro k0 k1 k2 k3 k4 k5
 refine hK.out _ _ ⟨k0, k1, k2, k3, k4, k5⟩ (fun _ => ?_)
 clear hK K
 replace bw := nT bw bN
 clear bN
 try simp only [Act.put, sA, sZ, sS]
 refine rd1 3 (by kernel_rfl) rfl fun K hK => ?_
 go_simp
 refine cM (HT2.out _ (H2.out.keep bw)) ?_
 rintro r w4 ⟨rfl, bN⟩
 revert k0 k1 k2 k3 k4 k5; refine cc6 bN ?_; intro k0 k1 k2 k3 k4 k5
 refine hK.out _ _ ⟨k0, k1, k2, k3, k4, k5⟩ (fun _ => ?_)
 clear hK K
 replace bw := nT bw bN
 clear bN
 try simp only [Act.put, sA, sZ, sS]
 refine rd1 4 (by kernel_rfl) rfl fun K hK => ?_
 go_simp
 refine hK.out _ _ ⟨k0, k1, k2, k3, k4, k5⟩ (fun _ => ?_)
 clear hK K
 try simp only [Act.put, sA, sZ, sS]
 refine rd1 5 (by kernel_rfl) rfl fun K hK => ?_
 go_simp
 refine hK.out _ _ ⟨k0, k1, k2, k3, k4, k5⟩ (fun _ => ?_)
 clear hK K
 try simp only [Act.put, sA, sZ, sS]
 refine wpAnyH_done (by kernel_rfl) ?_ _
 go_wp2_with fail
 refine cM (HLE.out _ (H1.out.keep bw) (H2.out.keep bw)) ?_
 rintro r w5 ⟨_, rfl, ⟨a5, n5, c5, rfl, HN5, hO5⟩, bN⟩
 replace bw := nT bw bN
 have hn5 : n5 ≤ 2000001 := by rw [HN5.out]; exact HLN.out
 clear bN k0 k1 k2 k3 k4 k5
 go_wp2_with fail
 refine cM (HSP.out _ _ _ _ hO5.1 hn5) ?_
 rintro r w6 ⟨rfl, bN⟩
 replace bw := nT bw bN
 clear bN
 go_wp2_with fail
 go_ret
 exact ⟨rfl, bw⟩
theorem sgnQ_range (s : Bool) (m : Nat) : -1 ≤ sgnQ s m ∧ sgnQ s m ≤ 1 := by
 unfold sgnQ; split
 ·omega
 ·split <;> omega
theorem top_form (s : Bool) {m : Nat} (e : Int) (h0 : m ≠ 0) : (formD s m e).2.2 + (blen (formD s m e).2.1 : Int) - 1 = e + (blen m : Int) - 1 := by
 have := blen_odd h0
 rw [form_pos s h0]
 show e + (tz m : Int) + (blen (m / 2 ^ tz m) : Int) - 1 = _
 omega
theorem sgnD_nz {p : Bool × Nat × Int} (h : p.2.1 ≠ 0) : sgnD p = if p.1 = true then -1 else 1 := by unfold sgnD; rw [if_neg h]
theorem cmpN_turn (a b : Nat) : -(cmpN a b) = cmpN b a := by
 unfold cmpN
 rcases Nat.lt_trichotomy a b with h | h | h
 ·rw [if_pos h, if_neg (show ¬ b < a by omega), if_pos h]; rfl
 ·subst h; rw [if_neg (Nat.lt_irrefl _), if_neg (Nat.lt_irrefl _)]; rfl
 ·rw [if_neg (show ¬ a < b by omega), if_pos h, if_pos h]
theorem cmp_less (x y : Bool × Nat × Int) (hx : x.2.1 ≠ 0) (hy : y.2.1 ≠ 0) (hs : sgnD x = sgnD y) (ht : x.2.2 + (blen x.2.1 : Int) - 1 = y.2.2 + (blen y.2.1 : Int) - 1) : sgnD (sumD x (negD y)) = cmpD x y := by
 have hss : x.1 = y.1 := by
  rw [sgnD_nz hx, sgnD_nz hy] at hs
  cases h1 : x.1 <;> cases h2 : y.1 <;> rw [h1, h2] at hs <;> first | rfl | exact absurd hs (by decide)
 have hn1 : (negD y).1 = !y.1 := by unfold negD; rw [decide_eq_false hy]; simp
 obtain ⟨ee, hee⟩ : ∃ ee : Int, min x.2.2 (negD y).2.2 = ee := ⟨_, rfl⟩
 have hee' : min x.2.2 y.2.2 = ee := hee
 obtain ⟨i, hi⟩ : ∃ i : Nat, x.2.2 - ee = (i : Int) := ⟨(x.2.2 - ee).toNat, by omega⟩
 obtain ⟨j, hj⟩ : ∃ j : Nat, (negD y).2.2 - ee = (j : Int) := ⟨((negD y).2.2 - ee).toNat, by show y.2.2 - ee = _; have : (negD y).2.2 = y.2.2 := rfl; rw [this]; omega⟩
 have hj' : y.2.2 - ee = (j : Int) := hj
 have key : amtD x.2.1 x.2.2 y.2.1 y.2.2 = cmpN (x.2.1 * 2 ^ i) (y.2.1 * 2 ^ j) := by
  unfold amtD
  rw [if_neg (by omega)]
  by_cases hl : x.2.2 < y.2.2
  ·rw [if_pos hl, show (y.2.2 - x.2.2).toNat = j by omega, show i = 0 by omega, Nat.pow_zero, Nat.mul_one]
   exact cmpN_turn _ _
  ·rw [if_neg hl, show (x.2.2 - y.2.2).toNat = i by omega, show j = 0 by omega, Nat.pow_zero, Nat.mul_one]
 unfold cmpD
 rw [if_neg (by simpa using hs), if_neg hx, key, plus_q x (negD y) hx hy ee hee i hi j hj, hn1]
 rw [if_neg (by rw [hss]; cases y.1 <;> decide)]
 show sgnD (if y.2.1 * 2 ^ j ≤ x.2.1 * 2 ^ i then formD x.1 (x.2.1 * 2 ^ i - y.2.1 * 2 ^ j) ee else formD (!y.1) (y.2.1 * 2 ^ j - x.2.1 * 2 ^ i) ee) = _
 rw [sgnD_nz hx]
 generalize x.2.1 * 2 ^ i = M
 generalize y.2.1 * 2 ^ j = N
 by_cases hc : N ≤ M
 ·rw [if_pos hc, sgnQ_form]
  unfold sgnQ cmpN
  rw [if_neg (show ¬ M < N by omega)]
  by_cases h0 : M - N = 0
  ·rw [if_pos h0, if_neg (show ¬ N < M by omega)]; simp
  ·rw [if_neg h0, if_pos (show N < M by omega)]; simp
 ·rw [if_neg hc, sgnQ_form]
  unfold sgnQ cmpN
  rw [if_pos (show M < N by omega), if_neg (show ¬ N - M = 0 by omega), ← hss]
  cases x.1 <;> decide
theorem qOrder_calls (s : Bool) (a : Option Addr) (len cap : Nat) (xs : List Int) (e : Int) (t : Bool) (b : Option Addr) (len' cap' : Nat) (ys : List Int) (f : Int) (w : World) (h : IsW w a len cap xs) (hm : len ≤ 17592186044000) (h' : IsW w b len' cap' ys) (hm' : len' ≤ 17592186044000) (he : -5000000 ≤ e ∧ e ≤ 5000000) (hf : -5000000 ≤ f ∧ f ≤ 5000000) (hbx : blen (val xs) ≤ 5000000) (hby : blen (val ys) ≤ 5000000) :
  Calls Tryz.prog 56 #[dyV s a len cap e, dyV t b len' cap' f] w fun r w' => r = .returned (.int .i64 (cmpD (formD s (val xs) e) (formD t (val ys) f))) ∧ Below w.heap.size w w' := by
 have e1 := sgnQ_form s (val xs) e
 have e2 := sgnQ_form t (val ys) f
 by_cases hs : sgnQ s (val xs) = sgnQ t (val ys)
 ·by_cases h0 : val xs = 0
  ·have z1 : sgnQ s (val xs) = 0 := by unfold sgnQ; rw [if_pos h0]
   have hc : cmpD (formD s (val xs) e) (formD t (val ys) f) = 0 := by
    unfold cmpD
    rw [e1, e2, if_neg (by simpa using hs), if_pos (by rw [h0, form_zero])]
   rw [hc]
   exact qorder_zero s a len cap xs e t b len' cap' ys f w h hm h' hm' z1 (hs ▸ z1)
  ·have hz : sgnQ s (val xs) ≠ 0 := by unfold sgnQ; rw [if_neg h0]; split <;> decide
   have h0' : val ys ≠ 0 := fun q => hz (by rw [hs]; unfold sgnQ; rw [if_pos q])
   have m1 : (formD s (val xs) e).2.1 ≠ 0 := by rw [form_pos s h0]; intro q; have := (odd_part h0).1; have q' : val xs / 2 ^ tz (val xs) = 0 := q; rw [q'] at this; exact absurd this (by decide)
   have m2 : (formD t (val ys) f).2.1 ≠ 0 := by rw [form_pos t h0']; intro q; have := (odd_part h0').1; have q' : val ys / 2 ^ tz (val ys) = 0 := q; rw [q'] at this; exact absurd this (by decide)
   have t1 := top_form s e h0
   have t2 := top_form t f h0'
   rcases Int.lt_trichotomy (e + (blen (val xs) : Int) - 1) (f + (blen (val ys) : Int) - 1) with q | q | q
   ·have hc : cmpD (formD s (val xs) e) (formD t (val ys) f) = -sgnQ s (val xs) := by
     unfold cmpD amtD Lib.compareInt
     rw [e1, e2, if_neg (by simpa using hs), if_neg m1, t1, t2, if_pos (by omega), if_pos (by omega)]
     omega
    rw [hc]
    exact qorder_low s a len cap xs e t b len' cap' ys f w h hm h' hm' he hf hbx hby _ rfl hs.symm hz (sgnQ_range _ _) q
   ·rw [← cmp_less (formD s (val xs) e) (formD t (val ys) f) m1 m2 (by rw [e1, e2]; exact hs) (by rw [t1, t2]; exact q)]
    exact qorder_less s a len cap xs e t b len' cap' ys f w h hm h' hm' he hf hbx hby _ rfl hs.symm hz (sgnQ_range _ _) q
   ·have hc : cmpD (formD s (val xs) e) (formD t (val ys) f) = sgnQ s (val xs) := by
     unfold cmpD amtD Lib.compareInt
     rw [e1, e2, if_neg (by simpa using hs), if_neg m1, t1, t2, if_pos (by omega), if_neg (by omega), if_pos (by omega)]
     omega
    rw [hc]
    exact qorder_top s a len cap xs e t b len' cap' ys f w h hm h' hm' he hf hbx hby _ rfl hs.symm hz (sgnQ_range _ _) q
 ·have hc : cmpD (formD s (val xs) e) (formD t (val ys) f) = Lib.compareInt (sgnQ s (val xs)) (sgnQ t (val ys)) := by
   unfold cmpD
   rw [e1, e2, if_pos hs]
  rw [hc]
  unfold Lib.compareInt
  by_cases q : sgnQ s (val xs) < sgnQ t (val ys)
  ·rw [if_pos q]
   exact qorder_lt s a len cap xs e t b len' cap' ys f w h hm h' hm' q
  ·rw [if_neg q, if_pos (by omega)]
   exact qorder_gt s a len cap xs e t b len' cap' ys f w h hm h' hm' (by omega)
end Go.Proofs.YtiijfnaaekmpbaaGreatDoor
