/- The program's Shift. The document's dyadic numbers, fourth part: Neg, Twice, Shift; the program's Neg, Abs, Shift in the same words. The document's dyadic numbers: the difference. The document's dyadic numbers: Sign, Top, Order, Cmp, Bits, Size, TopOf. -/
import Derived.Test.YtahpdcbmekgkfaaGreatDoorAL
import Derived.Test.YtahpdcbmekgkfaaGreatDoorTMF
import Derived.Test.YtahpdcbmekgkfaaGreatDoorTMH
import Derived.Test.YtahpdcbmekgkfaaGreatDoorCR2
import Derived.Test.YtahpdcbmekgkfaaGreatDoorCR
import Derived.Test.YtahpdcbmekgkfaaGreatDoorRD13
import Derived.Test.YtahpdcbmekgkfaaGreatDoorFX
import Derived.Test.YtahpdcbmekgkfaaGreatDoorDCmp2

namespace Go.Proofs.YtahpdcbmekgkfaaGreatDoor
open Go.RowKit
set_option maxHeartbeats 4000000
set_option maxRecDepth 100000
attribute [local go_sem ↓] Go.wp_at_zero Go.wp_at_succ
def shiftD (p : Bool × Nat × Int) (i : Int) : Bool × Nat × Int := (p.1, p.2.1, if p.2.1 = 0 then p.2.2 else p.2.2 + i)
theorem shift_form (s : Bool) (m : Nat) (e i : Int) : shiftD (formD s m e) i = formD s m (e + i) := by
 unfold shiftD
 by_cases h : m = 0
 ·rw [h, form_zero, form_zero]; rfl
 ·have h2 := (odd_part h).1
  rw [form_pos s h, form_pos s h, if_neg (show ¬ m / 2 ^ tz m = 0 from fun q => by rw [q] at h2; omega)]
  show (s, m / 2 ^ tz m, e + (tz m : Int) + i) = _
  rw [Int.add_right_comm]
def shfE (n : Nat) (e i : Int) : Int := if n = 0 then e else e + i
theorem shifted2_calls (s : Bool) (a : Option Addr) (n c : Nat) (e : Int) (g : Bool) (i : Int) (w : World) (he : -4611686018427387904 ≤ e ∧ e ≤ 4611686018427387904) (hi : -65536 ≤ i ∧ i ≤ 65536) :
  Calls Tryz.prog 129 #[numV s a n c e g, .int .i64 i] w fun r w' => r = .returned (numV s a n c (shfE n e i) g) ∧ Below w.heap.size w w' := shifted_calls s a n c e g i w he hi
theorem shift1_calls (b1 b2 : Nat) (s : Bool) (a : Option Addr) (len cap : Nat) (xs : List Int) (e : Int) (i : Int) (w : World) (h : IsW w a len cap xs) (hm : len ≤ 17592186044416) (hT : Tab w) (hr : rightB (val xs) e = true) (hi : -65536 ≤ i ∧ i ≤ 65536)
  (k0 : w.cell? ⟨b1, 0, none⟩ = some (.bool s)) (k1 : w.cell? ⟨b1, 1, none⟩ = some (.slice a len cap)) (k2 : w.cell? ⟨b1, 2, none⟩ = some (.int .i64 e))
  (l0 : w.cell? ⟨b2, 0, none⟩ = some (.int .i64 i)) :
  Calls Tryz.prog 128 #[.pointer (some ⟨b1, 0, none⟩), .pointer (some ⟨b2, 0, none⟩)] w fun r w' => ∃ v, r = .returned v ∧ NumR w.heap.size w' v (shiftD (formD s (val xs) e) i) ∧ Below w.heap.size w w' := by
 have HCGX : Hid (canG s (val xs) e = (formD s (val xs) e)) := canG_no (rightB_yes hr).1
 have HEBX : Hid _ := right_exp hr
 have HGX : Hid _ := form_fit s (val xs) e hr
 have HBX : Hid _ := form_bounds s (val xs) e hr
 have hl1 : b1 < w.heap.size := World.block_lt_of_cell? _ _ k0
 have hl2 : b2 < w.heap.size := World.block_lt_of_cell? _ _ l0
 have hn1 : b1 ≠ w.heap.size := Nat.ne_of_lt hl1
 have hn2 : b2 ≠ w.heap.size := Nat.ne_of_lt hl2
 clear hr
 go_enter Tryz.func128, Tryz.ntmps128
 go_wp2_with fail
 go_region_with (first
   | (go_at_call 123; refine calls_guard #[dyV s a len cap e] ?_ ?_; (focus rfl); refine (canonical_calls s a len cap xs e _ (h.keep (by repeat (first | exact hbwQ | exact Below.refl _ _ | apply Below.drew | refine Below.alloc ?_ (by simp; try omega) _))) hm (hT.kept (by repeat (first | exact hbwQ | exact Below.refl _ _ | apply Below.drew | refine Below.alloc ?_ (by simp; try omega) _)))).mono ?_; rintro r wX ⟨aX, nX, cX, eX, rfl, HEX, HNX, HZX, hnX, hOX, hbX⟩; have hbwX : Below w.heap.size w wX := nT (by repeat (first | exact hbwQ | exact Below.refl _ _ | apply Below.drew | refine Below.alloc ?_ (by simp; try omega) _)) hbX; have hbzX : Below (w.alloc (.cells #[.bool false, .slice none 0 0, .int .i64 0, .bool false] 109)).heap.size (w.alloc (.cells #[.bool false, .slice none 0 0, .int .i64 0, .bool false] 109)) wX := nT (by repeat (first | exact hbzQ | exact Below.refl _ _ | apply Below.drew | refine Below.alloc ?_ (by simp; try omega) _)) hbX; obtain rfl := HEX.out HEBX.out.1 HEBX.out.2; rw [HCGX.out] at hOX HNX ⊢; clear HEX; have hPX := hOX.low (B' := w.heap.size + 1) (by first | (have := hbzQ.size; simp at this ⊢; omega) | simp); have qX0 := kC hbwX k0; have qX1 := kC hbwX k1; have qX2 := kC hbwX k2; have qX3 := kC hbwX l0)
   | (go_at_call 129; refine (shifted2_calls (formD s (val xs) e).1 aX nX cX (formD s (val xs) e).2.2 false i _ ⟨by have := HBX.out; omega, by have := HBX.out; omega⟩ hi).mono ?_; rintro r wP ⟨rfl, hbP⟩; have hbwP := nT hbwX (show Below wX.heap.size wX wP from by first | exact hbP | exact (Below.refl _ _).drew.trans hbP); have hbzP := nT hbzX (show Below wX.heap.size wX wP from by first | exact hbP | exact (Below.refl _ _).drew.trans hbP); obtain ⟨m0, m1, m2, m3, f0, f1, f2, f3⟩ := zero_num (r := w.heap.size) hbzP rfl; have hOP := hPX.keep (show Below wX.heap.size wX wP from by first | exact hbP | exact (Below.refl _ _).drew.trans hbP)))
 all_goals
  have HX : Hid (shfE nX (formD s (val xs) e).2.2 i = (shiftD (formD s (val xs) e) i).2.2) := by
   rw [Hid, shfE, shiftD]
   have h0 : nX = 0 ↔ (formD s (val xs) e).2.1 = 0 := by rw [HNX.out, List.length_eq_zero_iff, words_nil]
   by_cases q : (formD s (val xs) e).2.1 = 0
   ·rw [if_pos (h0.2 q), if_pos q]
   ·rw [if_neg (fun z => q (h0.1 z)), if_neg q]
  rw [HX.out]
  go_wp2_with fail
  refine bodyPost_ret (v := numV (formD s (val xs) e).1 aX nX cX (shiftD (formD s (val xs) e) i).2.2 false) (by simp [results, Tryz.results128, go_sem, m0, m1, m2, m3]) rfl ⟨_, rfl, Or.inl ⟨HGX.out, aX, nX, cX, rfl, HNX, HZX, hnX, ((((hOP.far _ _ (by show w.heap.size < _; omega)).far _ _ (by show w.heap.size < _; omega)).far _ _ (by show w.heap.size < _; omega)).far _ _ (by show w.heap.size < _; omega)).low (by omega)⟩, ?_⟩
  exact (((hbwP.setCell (Nat.le_refl _) _).setCell (Nat.le_refl _) _).setCell (Nat.le_refl _) _).setCell (Nat.le_refl _) _
theorem dshift_far (s : Bool) (a : Option Addr) (len cap : Nat) (e : Int) (i : Int) (w : World) (hi : i < -65536 ∨ 65536 < i) :
  Calls Tryz.prog 96 #[dyV s a len cap e, .int .i64 i] w fun r w' => r = .returned (.tuple #[dyV false none 0 0 0, .int .i64 2]) ∧ Below w.heap.size w w' := by
 rcases hi with hi | hi
 ·go_enter Tryz.func96, Tryz.ntmps96
  go_wp2_with fail
  refine bodyPost_ret (v := .tuple #[dyV false none 0 0 0, .int .i64 2]) (by simp [results, Tryz.results96, go_sem]) rfl ⟨rfl, ?_⟩
  repeat (first | exact Below.refl _ _ | refine Below.alloc ?_ (by simp; try omega) _ | refine Below.setCell ?_ (by simp; try omega) _)
 ·have hn : ¬ i < -65536 := by omega
  go_enter Tryz.func96, Tryz.ntmps96
  go_wp2_with fail
  refine bodyPost_ret (v := .tuple #[dyV false none 0 0 0, .int .i64 2]) (by simp [results, Tryz.results96, go_sem]) rfl ⟨rfl, ?_⟩
  repeat (first | exact Below.refl _ _ | refine Below.alloc ?_ (by simp; try omega) _ | refine Below.setCell ?_ (by simp; try omega) _)
theorem dshift_yes (s : Bool) (a : Option Addr) (len cap : Nat) (xs : List Int) (e : Int) (i : Int) (w : World) (h : IsW w a len cap xs) (hm : len ≤ 17592186044416) (hT : Tab w) (hi : -65536 ≤ i ∧ i ≤ 65536) (hr : rightB (val xs) e = true) :
  Calls Tryz.prog 96 #[dyV s a len cap e, .int .i64 i] w fun r w' => ∃ v', r = .returned (.tuple #[v', .int .i64 (roomE (shiftD (formD s (val xs) e) i))]) ∧ DyAt w.heap.size w' v' (roomP (shiftD (formD s (val xs) e) i)) ∧ Below w.heap.size w w' := by
 have hmf : ∀ (fn : Fn) (first cap : Array Value) (w : World), (Instr.makeFunc fn first cap).run Tryz.prog w = .ok (.func fn first cap) w := fun _ _ _ _ => rfl
 have HRB : Hid (rightB (val xs) e = true) := hr
 have HP : Hid _ := hi
 obtain ⟨hi1, hi2⟩ := hi
 clear hr
 go_enter Tryz.func96, Tryz.ntmps96
 go_wp2_with fail
 have hb0 : Below w.heap.size w ((((w.alloc (.cells #[.bool s, .slice a len cap, .int .i64 e] 25)).alloc (.cells #[.int .i64 i] 3)).alloc (.cells #[.bool false, .slice none 0 0, .int .i64 0] 25)).alloc (.cells #[.bool s, .slice a len cap, .int .i64 e] 25)) := by repeat (first | exact Below.refl _ _ | refine Below.alloc ?_ (by simp; try omega) _)
 refine Calls.mono (made_Shift w.heap.size (w.heap.size + 1) 0 (shiftD (formD s (val xs) e) i) _ _ (fun W hW => HRB.out ▸ right1_calls (w.heap.size + 1 + 1 + 1) s a len cap xs e W (h.keep (nT hb0 hW)) hm (kC hW (by go_simp)) (kC hW (by go_simp)) (kC hW (by go_simp)))
  (fun W hW => Calls.mono (shift1_calls w.heap.size (w.heap.size + 1) s a len cap xs e i W (h.keep (nT hb0 hW)) hm (hT.kept (nT hb0 hW)) HRB.out HP.out (kC hW (by go_simp)) (kC hW (by go_simp)) (kC hW (by go_simp)) (kC hW (by go_simp))) (by
   rintro r w5 ⟨v, rfl, hN, hb5⟩
   exact ⟨v, rfl, hN.low (Nat.zero_le _), hb5⟩))) ?_
 rintro r w2 ⟨v', rfl, ⟨a2, n2, c2, rfl, HN2, hn2, hO2⟩, hbM⟩
 have hb2 := nT hb0 hbM
 obtain ⟨m0, m1, m2, f0, f1, f2⟩ := zero_dy (r := w.heap.size + 1 + 1) (w := (w.alloc (.cells #[.bool s, .slice a len cap, .int .i64 e] 25)).alloc (.cells #[.int .i64 i] 3)) (W' := w2) (nT (below_one _ _) hbM) (by simp)
 go_wp2_with fail
 refine bodyPost_ret (v := .tuple #[dyV (roomP (shiftD (formD s (val xs) e) i)).1 a2 n2 c2 (roomP (shiftD (formD s (val xs) e) i)).2.2, .int .i64 (roomE (shiftD (formD s (val xs) e) i))]) (by simp [results, Tryz.results96, go_sem, m0, m1, m2]) rfl ⟨_, rfl, ⟨a2, n2, c2, rfl, HN2, hn2, (((hO2.far _ _ (by show w.heap.size + 1 + 1 < _; simp)).far _ _ (by show w.heap.size + 1 + 1 < _; simp)).far _ _ (by show w.heap.size + 1 + 1 < _; simp)).low (by simp; omega)⟩, ?_⟩
 exact ((hb2.setCell (le2 _) _).setCell (le2 _) _).setCell (le2 _) _
end Go.Proofs.YtahpdcbmekgkfaaGreatDoor

namespace Go.Proofs.YtahpdcbmekgkfaaGreatDoor
open Go.RowKit
set_option maxHeartbeats 2000000
set_option maxRecDepth 100000
theorem qNeg_calls (s : Bool) (a : Option Addr) (len cap : Nat) (xs : List Int) (e : Int) (w : World) (h : IsW w a len cap xs) (hm : len ≤ 17592186044000) (he : -4611686018427387904 ≤ e ∧ e ≤ 4611686018427387904) :
  Calls Tryz.prog 74 #[dyV s a len cap e] w fun r w' => ∃ v, r = .returned v ∧ DyQ w.heap.size w' v (formD (!s) (val xs) e) ∧ Below w.heap.size w w' := by
 have hb0 : Below w.heap.size w ((w.alloc (.cells #[.bool s, .slice a len cap, .int .i64 e] 25)).alloc (.cells #[.bool false, .slice none 0 0, .int .i64 0] 25)) := nT (below_one _ _) (below_one _ _)
 have HF : Hid _ := qForm_calls (!s) a len cap xs e _ (h.keep hb0) hm (by omega)
 clear he
 generalize formD (!s) (val xs) e = p at *
 go_enter Tryz.func74, Tryz.ntmps74
 go_wp2_with fail
 refine Calls.mono HF.out ?_
 rintro r w1 ⟨_, rfl, ⟨a1, n1, c1, rfl, HN1, hO1⟩, hb1⟩
 obtain ⟨m0, m1, m2, f0, f1, f2⟩ := zero_dy (r := w.heap.size + 1) hb1 (by simp)
 have hb01 := nT hb0 hb1
 have hws : w.heap.size + 2 ≤ w1.heap.size := by have := hb1.size; simp at this; omega
 clear hb1 HF
 go_wp2_with fail
 refine bodyPost_ret (v := dyV p.1 a1 n1 c1 p.2.2) (by simp [results, Tryz.results74, go_sem, m0, m1, m2]) rfl ⟨_, rfl, ⟨a1, n1, c1, rfl, HN1, ?_⟩, ?_⟩
 ·exact (((hO1.far _ _ (by simp)).far _ _ (by simp)).far _ _ (by simp)).low (by simp; omega)
 ·exact ((hb01.setCell (le1 _) _).setCell (le1 _) _).setCell (le1 _) _
theorem qTwice_calls (s : Bool) (a : Option Addr) (len cap : Nat) (xs : List Int) (e : Int) (i : Int) (w : World) (h : IsW w a len cap xs) (hm : len ≤ 17592186044000) (he : (-2305843009213693952 ≤ e ∧ e ≤ 2305843009213693952) ∧ -2305843009213693952 ≤ i ∧ i ≤ 2305843009213693952) :
  Calls Tryz.prog 57 #[dyV s a len cap e, .int .i64 i] w fun r w' => ∃ v, r = .returned v ∧ DyQ w.heap.size w' v (formD s (val xs) (e + i)) ∧ Below w.heap.size w w' := by
 have hb0 : Below w.heap.size w ((w.alloc (.cells #[.bool s, .slice a len cap, .int .i64 e] 25)).alloc (.cells #[.bool false, .slice none 0 0, .int .i64 0] 25)) := nT (below_one _ _) (below_one _ _)
 have HF : Hid _ := qForm_calls s a len cap xs (e + i) _ (h.keep hb0) hm (by omega)
 obtain ⟨⟨he1, he2⟩, hi1, hi2⟩ := he
 generalize formD s (val xs) (e + i) = p at *
 go_enter Tryz.func57, Tryz.ntmps57
 go_wp2_with fail
 refine Calls.mono HF.out ?_
 rintro r w1 ⟨_, rfl, ⟨a1, n1, c1, rfl, HN1, hO1⟩, hb1⟩
 obtain ⟨m0, m1, m2, f0, f1, f2⟩ := zero_dy (r := w.heap.size + 1) hb1 (by simp)
 have hb01 := nT hb0 hb1
 have hws : w.heap.size + 2 ≤ w1.heap.size := by have := hb1.size; simp at this; omega
 clear hb1 HF
 go_wp2_with fail
 refine bodyPost_ret (v := dyV p.1 a1 n1 c1 p.2.2) (by simp [results, Tryz.results57, go_sem, m0, m1, m2]) rfl ⟨_, rfl, ⟨a1, n1, c1, rfl, HN1, ?_⟩, ?_⟩
 ·exact (((hO1.far _ _ (by simp)).far _ _ (by simp)).far _ _ (by simp)).low (by simp; omega)
 ·exact ((hb01.setCell (le1 _) _).setCell (le1 _) _).setCell (le1 _) _
def shB (m : Nat) (e i : Int) : Bool := rightB m e && decide (-65536 ≤ i ∧ i ≤ 65536)
def shE (s : Bool) (m : Nat) (e i : Int) : Int := if shB m e i = true then roomE (formD s m (e + i)) else 2
def shP (s : Bool) (m : Nat) (e i : Int) : Bool × Nat × Int := if shB m e i = true then roomP (formD s m (e + i)) else (false, 0, 0)
end Go.Proofs.YtahpdcbmekgkfaaGreatDoor

namespace Go.Proofs.YtahpdcbmekgkfaaGreatDoor
open Go.RowKit
theorem form_expc (s : Bool) (m : Nat) (e : Int) (hb : blen m ≤ 5000000) (he : -5000000 ≤ e ∧ e ≤ 5000000) : -10000000 ≤ (formD s m e).2.2 ∧ (formD s m e).2.2 ≤ 10000000 := by
 by_cases h0 : m = 0
 ·rw [h0, form_zero]; exact ⟨by decide, by decide⟩
 ·rw [form_pos s h0]
  have := tz_le_blen m
  show _ ≤ e + (tz m : Int) ∧ e + (tz m : Int) ≤ _
  omega
attribute [local go_sem ↓] Go.wp_at_zero Go.wp_at_succ
set_option maxRecDepth 100000 in
set_option maxHeartbeats 4000000 in
theorem qLess_calls (s : Bool) (a : Option Addr) (len cap : Nat) (xs : List Int) (e : Int) (t : Bool) (b : Option Addr) (len' cap' : Nat) (ys : List Int) (f : Int) (w : World) (h : IsW w a len cap xs) (hm : len ≤ 17592186044000) (h' : IsW w b len' cap' ys) (hm' : len' ≤ 17592186044000) (he : -5000000 ≤ e ∧ e ≤ 5000000) (hf : -5000000 ≤ f ∧ f ≤ 5000000) (hbx : blen (val xs) ≤ 5000000) (hby : blen (val ys) ≤ 5000000) :
  Calls Tryz.prog 25 #[dyV s a len cap e, dyV t b len' cap' f] w fun r w' => ∃ v', r = .returned v' ∧ DyQ w.heap.size w' v' (sumD (formD s (val xs) e) (formD (!t) (val ys) f)) ∧ Below w.heap.size w w' := by
 have HN : Hid _ := fun w' g => qNeg_calls t b len' cap' ys f w' g hm' (by omega)
 have hyb : blen (formD (!t) (val ys) f).2.1 ≤ 5000000 := Nat.le_trans (blen_mono (form_amount_le _ _ _)) hby
 have hye := form_expc (!t) (val ys) f hby hf
 have hcy := form_of_can (form_can (!t) (val ys) f)
 generalize formD (!t) (val ys) f = y at *
 have hyl : (wO y.2.1).length ≤ 100000 := (words_len2 _ _).2 (by omega)
 have HP : Hid _ := fun a' n' c' w' g (q : n' ≤ 100000) g' => qPlus_calls s a len cap xs e y.1 a' n' c' (wO y.2.1) y.2.2 w' g hm g' (by omega) (by omega) (by omega) (by omega) (by rw [val_words]; omega)
 rw [val_words, hcy] at HP
 have HYL : Hid _ := hyl
 generalize sumD (formD s (val xs) e) y = p at *
 have H1 : Hid (IsW w a len cap xs) := h
 have H2 : Hid (IsW w b len' cap' ys) := h'
 clear hm hm' he hf h h' hbx hby hyb hye hcy hyl
 have bw0 : Below w.heap.size w (((w.alloc (.cells #[.bool s, .slice a len cap, .int .i64 e] 25)).alloc (.cells #[.bool t, .slice b len' cap', .int .i64 f] 25)).alloc (.cells #[.bool false, .slice none 0 0, .int .i64 0] 25)) := by repeat (first | exact Below.refl _ _ | refine bl_alloc ?_ _)
 obtain ⟨k0, k1, k2, k3, k4, k5⟩ := fX8 w s a len cap e t b len' cap' f _ rfl
 obtain ⟨m0, m1, m2, f0, f1, f2⟩ := zero_dy (w := ((w.alloc (.cells #[.bool s, .slice a len cap, .int .i64 e] 25)).alloc (.cells #[.bool t, .slice b len' cap', .int .i64 f] 25))) (r := w.heap.size + 1 + 1) (W' := (((w.alloc (.cells #[.bool s, .slice a len cap, .int .i64 e] 25)).alloc (.cells #[.bool t, .slice b len' cap', .int .i64 f] 25)).alloc (.cells #[.bool false, .slice none 0 0, .int .i64 0] 25))) (Below.refl _ _) (by simp)
 have HS0 : Hid ((((w.alloc (.cells #[.bool s, .slice a len cap, .int .i64 e] 25)).alloc (.cells #[.bool t, .slice b len' cap', .int .i64 f] 25)).alloc (.cells #[.bool false, .slice none 0 0, .int .i64 0] 25)).heap.size = w.heap.size + 1 + 1 + 1) := by simp [Hid]
 go_enter Tryz.func25, Tryz.ntmps25
 go_upto_region 1 with fail
 generalize (((w.alloc (.cells #[.bool s, .slice a len cap, .int .i64 e] 25)).alloc (.cells #[.bool t, .slice b len' cap', .int .i64 f] 25)).alloc (.cells #[.bool false, .slice none 0 0, .int .i64 0] 25)) = w0 at *
 have bw : Below w0.heap.size w0 w0.drew := (Below.refl _ _).drew
 refine wp_region_held (S := fun w' => w'.cell? ⟨w.heap.size, 0, none⟩ = some (.bool s) ∧ w'.cell? ⟨w.heap.size, 1, none⟩ = some (.slice a len cap) ∧ w'.cell? ⟨w.heap.size, 2, none⟩ = some (.int .i64 e) ∧ w'.cell? ⟨w.heap.size + 1, 0, none⟩ = some (.bool t) ∧ w'.cell? ⟨w.heap.size + 1, 1, none⟩ = some (.slice b len' cap') ∧ w'.cell? ⟨w.heap.size + 1, 2, none⟩ = some (.int .i64 f)) (by kernel_rfl) ?_
 change wpAnyH _ _ _ _ _ _ _ _ (World.drew w0)
 revert m0 m1 m2 f0 f1 f2; refine zg3 bw ?_; intro m0 m1 m2 f0 f1 f2
 revert k0 k1 k2 k3 k4 k5; refine cc6 bw ?_; intro k0 k1 k2 k3 k4 k5
 generalize World.drew w0 = wd at *
 refine tk 0 (.agg #[.bool s, .slice a len cap, .int .i64 e]) rfl (by kernel_rfl) (fun _ _ _ h => h) (by rfl) ?y0 ⟨k0, k1, k2, k3, k4, k5⟩ ?r0
 case y0 => (rintro ww ⟨q0, q1, q2, q3, q4, q5⟩; go_simp)
 try simp only [Act.put]
 refine tk 1 (.agg #[.bool t, .slice b len' cap', .int .i64 f]) rfl (by kernel_rfl) (fun _ _ _ h => h) (by rfl) ?y1 ⟨k0, k1, k2, k3, k4, k5⟩ ?r1
 case y1 => (rintro ww ⟨q0, q1, q2, q3, q4, q5⟩; go_simp)
 try simp only [Act.put]
 refine rd1 2 (by kernel_rfl) rfl fun K hK => ?_
 go_simp
 refine Calls.mono (HN.out _ (H2.out.keep (nT bw0 bw))) ?_
 rintro r w1 ⟨_, rfl, ⟨a1, n1, c1, rfl, HN1, hO1⟩, b1⟩
 revert k0 k1 k2 k3 k4 k5; refine cc6 b1 ?_; intro k0 k1 k2 k3 k4 k5
 refine hK.out _ _ ⟨k0, k1, k2, k3, k4, k5⟩ (fun _ => ?_)
 clear hK K
 revert m0 m1 m2 f0 f1 f2; refine zg3 b1 ?_; intro m0 m1 m2 f0 f1 f2
 replace bw := nT bw b1
 have hn1 : n1 ≤ 100000 := by rw [HN1.out]; exact HYL.out
 have HI1 := hO1.1
 clear b1 hO1 HN1
 try simp only [Act.put, sA, sZ, sS]
 refine rd1 3 (by kernel_rfl) rfl fun K hK => ?_
 go_simp
 refine Calls.mono (HP.out _ _ _ _ (H1.out.keep (nT bw0 bw)) hn1 HI1) ?_
 rintro r w2 ⟨_, rfl, ⟨a2, n2, c2, rfl, HN2, hO2⟩, b2⟩
 revert k0 k1 k2 k3 k4 k5; refine cc6 b2 ?_; intro k0 k1 k2 k3 k4 k5
 refine hK.out _ _ ⟨k0, k1, k2, k3, k4, k5⟩ (fun _ => ?_)
 clear hK K
 revert m0 m1 m2 f0 f1 f2; refine zg3 b2 ?_; intro m0 m1 m2 f0 f1 f2
 have hO2' := hO2.low bw.size
 replace bw := nT bw b2
 have bwx := nT bw0 bw
 clear b2 hO2 HI1 hn1
 try simp only [Act.put, sA, sZ, sS]
 refine rd1 4 (by kernel_rfl) rfl fun K hK => ?_
 go_simp
 refine hK.out _ _ ⟨set3_cell k0 (by omega), set3_cell k1 (by omega), set3_cell k2 (by omega), set3_cell k3 (by omega), set3_cell k4 (by omega), set3_cell k5 (by omega)⟩ (fun _ => ?_)
 clear hK K
 try simp only [Act.put, sA, sZ, sS]
 refine wpAnyH_done (by kernel_rfl) ?_ _
 go_wp2_with fail
 refine bodyPost_ret (v := dyV p.1 a2 n2 c2 p.2.2) (by simp [results, Tryz.results25, go_sem, m0, m1, m2]) rfl ⟨_, rfl, ⟨a2, n2, c2, rfl, HN2, (((hO2'.far _ _ (by show w.heap.size + 1 + 1 < _; rw [HS0.out]; omega)).far _ _ (by show w.heap.size + 1 + 1 < _; rw [HS0.out]; omega)).far _ _ (by show w.heap.size + 1 + 1 < _; rw [HS0.out]; omega)).low (by rw [HS0.out]; omega)⟩, ((bwx.setCell (le2 _) _).setCell (le2 _) _).setCell (le2 _) _⟩
end Go.Proofs.YtahpdcbmekgkfaaGreatDoor

namespace Go.Proofs.YtahpdcbmekgkfaaGreatDoor
open Go.RowKit
set_option maxHeartbeats 2000000
set_option maxRecDepth 100000
attribute [local go_sem ↓] Go.wp_at_zero Go.wp_at_succ
def sgnQ (s : Bool) (m : Nat) : Int := if m = 0 then 0 else if s = true then -1 else 1
theorem sgnQ_form (s : Bool) (m : Nat) (e : Int) : sgnD (formD s m e) = sgnQ s m := by
 unfold sgnD sgnQ
 by_cases h0 : m = 0
 ·rw [h0, form_zero]; rfl
 ·have h1 := (odd_part h0).1
  rw [form_pos s h0, if_neg h0, if_neg (fun q => by have q' : m / 2 ^ tz m = 0 := q; rw [q'] at h1; exact absurd h1 (by decide))]
theorem blen_odd {m : Nat} (h0 : m ≠ 0) : blen m = tz m + blen (m / 2 ^ tz m) := by
 have h1 := (odd_part h0).1
 have h2 := (odd_part h0).2
 have h3 := blen_mul (m / 2 ^ tz m) (tz m) (fun q => by rw [q] at h1; exact absurd h1 (by decide))
 rw [h2] at h3
 exact h3
theorem qSign_calls (s : Bool) (a : Option Addr) (len cap : Nat) (xs : List Int) (e : Int) (w : World) (h : IsW w a len cap xs) (hm : len ≤ 17592186044000) :
  Calls Tryz.prog 27 #[dyV s a len cap e] w fun r w' => r = .returned (.int .i64 (sgnQ s (val xs))) ∧ Below w.heap.size w w' := by
 have bw : Below w.heap.size w (w.alloc (.cells #[.bool s, .slice a len cap, .int .i64 e] 25)) := below_one _ _
 have HZ : Hid _ := qZero_calls s a len cap xs e _ (h.keep bw) (by omega)
 unfold sgnQ
 obtain ⟨k0, k1, k2⟩ := fX9 w s a len cap e _ rfl
 by_cases h0 : val xs = 0
 ·rw [decide_eq_true h0] at HZ
  rw [if_pos h0]
  clear h0 hm h
  go_enter Tryz.func27, Tryz.ntmps27
  go_wp2_with fail
  refine Calls.mono HZ.out ?_
  rintro r w1 ⟨rfl, b1⟩
  replace bw := nT bw b1
  clear b1
  go_wp2_with fail
  go_ret
  exact ⟨rfl, bw⟩
 ·rw [decide_eq_false h0] at HZ
  rw [if_neg h0]
  clear h0 hm h
  cases s
  all_goals
   go_enter Tryz.func27, Tryz.ntmps27
   go_wp2_with fail
   refine Calls.mono HZ.out ?_
   rintro r w1 ⟨rfl, b1⟩
   replace bw := nT bw b1
   replace k0 := kC b1 k0
   clear b1
   go_wp2_with fail
   go_ret
   exact ⟨rfl, bw⟩
theorem qTop_calls (s : Bool) (a : Option Addr) (len cap : Nat) (xs : List Int) (e : Int) (w : World) (h : IsW w a len cap xs) (hm : len ≤ 17592186044000) (he : -4611686018427387904 ≤ e ∧ e ≤ 4611686018427387904) (hb : blen (val xs) ≤ 1000000000) :
  Calls Tryz.prog 76 #[dyV s a len cap e] w fun r w' => r = .returned (.int .i64 (e + (blen (val xs) : Int) - 1)) ∧ Below w.heap.size w w' := by
 have bw : Below w.heap.size w (w.alloc (.cells #[.bool s, .slice a len cap, .int .i64 e] 25)) := below_one _ _
 have HL : Hid _ := fun W g => nLen_calls a len cap xs W g (by omega)
 have H1 : Hid (IsW w a len cap xs) := h
 have hw1 : IntKind.i64.wrap (e + (blen (val xs) : Int)) = e + (blen (val xs) : Int) := by rw [IntKind.wrap_i64]; omega
 have hw2 : IntKind.i64.wrap (e + (blen (val xs) : Int) - 1) = e + (blen (val xs) : Int) - 1 := by rw [IntKind.wrap_i64]; omega
 generalize (blen (val xs) : Int) = bl at *
 obtain ⟨k0, k1, k2⟩ := fX9 w s a len cap e _ rfl
 clear h hm he hb
 go_enter Tryz.func76, Tryz.ntmps76
 go_upto_region 1 with fail
 generalize (w.alloc (.cells #[.bool s, .slice a len cap, .int .i64 e] 25)) = w0 at *
 have bd : Below w0.heap.size w0 w0.drew := (Below.refl _ _).drew
 refine wp_region_held (S := fun w' => w'.cell? ⟨w.heap.size, 0, none⟩ = some (.bool s) ∧ w'.cell? ⟨w.heap.size, 1, none⟩ = some (.slice a len cap) ∧ w'.cell? ⟨w.heap.size, 2, none⟩ = some (.int .i64 e)) (by kernel_rfl) ?_
 change wpAnyH _ _ _ _ _ _ _ _ (World.drew w0)
 revert k0 k1 k2; refine cc3 bd ?_; intro k0 k1 k2
 replace bw := nT bw bd
 clear bd
 generalize World.drew w0 = wd1 at *
 refine tk 0 (?vt1_0) rfl (by kernel_rfl) (fun _ _ _ h => h) (by rfl) ?yt1_0 ⟨k0, k1, k2⟩ ?rt1_0
 case yt1_0 => (rintro ww ⟨q0, q1, q2⟩; go_simp; try with_reducible rfl)
 try simp only [Act.put]
 refine tk 1 (?vt1_1) rfl (by kernel_rfl) (fun _ _ _ h => h) (by rfl) ?yt1_1 ⟨k0, k1, k2⟩ ?rt1_1
 case yt1_1 => (rintro ww ⟨q0, q1, q2⟩; go_simp; try with_reducible rfl)
 try simp only [Act.put]
 refine tk 2 (?vt1_2) rfl (by kernel_rfl) (fun _ _ _ h => h) (by rfl) ?yt1_2 ⟨k0, k1, k2⟩ ?rt1_2
 case yt1_2 => (rintro ww ⟨q0, q1, q2⟩; go_simp; try with_reducible rfl)
 try simp only [Act.put]
 refine tk 3 (?vt1_3) rfl (by kernel_rfl) (fun _ _ _ h => h) (by rfl) ?yt1_3 ⟨k0, k1, k2⟩ ?rt1_3
 case yt1_3 => (rintro ww ⟨q0, q1, q2⟩; go_simp; try with_reducible rfl)
 try simp only [Act.put]
 refine rd1 4 (by kernel_rfl) rfl fun K hK => ?_
 go_simp
 refine Calls.mono (HL.out _ (H1.out.keep bw)) ?_
 rintro r w1 ⟨rfl, bN⟩
 revert k0 k1 k2; refine cc3 bN ?_; intro k0 k1 k2
 refine hK.out _ _ ⟨k0, k1, k2⟩ (fun _ => ?_)
 clear hK K
 replace bw := nT bw bN
 clear bN
 try simp only [Act.put, sA, sZ, sS]
 refine rd1 5 (by kernel_rfl) rfl fun K hK => ?_
 go_simp
 refine hK.out _ _ ⟨k0, k1, k2⟩ (fun _ => ?_)
 clear hK K
 try simp only [Act.put, sA, sZ, sS]
 refine rd1 6 (by kernel_rfl) rfl fun K hK => ?_
 go_simp
 refine hK.out _ _ ⟨k0, k1, k2⟩ (fun _ => ?_)
 clear hK K
 try simp only [Act.put, sA, sZ, sS]
 refine rd1 7 (by kernel_rfl) rfl fun K hK => ?_
 go_simp
 refine hK.out _ _ ⟨k0, k1, k2⟩ (fun _ => ?_)
 clear hK K
 try simp only [Act.put, sA, sZ, sS]
 refine wpAnyH_done (by kernel_rfl) ?_ _
 go_wp2_with fail
 go_ret
 exact ⟨rfl, bw⟩
end Go.Proofs.YtahpdcbmekgkfaaGreatDoor
