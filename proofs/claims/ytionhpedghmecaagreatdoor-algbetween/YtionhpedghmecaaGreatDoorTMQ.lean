/- The program's Shift. The document's dyadic numbers, fourth part: Neg, Twice, Shift; the program's Neg, Abs, Shift in the same words. The document's dyadic numbers: the difference. The document's dyadic numbers: Sign, Top, Order, Cmp, Bits, Size, TopOf. -/
import Derived.Test.YtionhpedghmecaaGreatDoorTMF
import Derived.Test.YtionhpedghmecaaGreatDoorTMH
import Derived.Test.YtionhpedghmecaaGreatDoorRD13
import Derived.Test.YtionhpedghmecaaGreatDoorFX
import Derived.Test.YtionhpedghmecaaGreatDoorDCmp2

namespace Go.Proofs.YtionhpedghmecaaGreatDoor
open Go.RowKit
attribute [local go_sem ↓] Go.wp_at_zero Go.wp_at_succ
def shiftD (p : Bool × Nat × Int) (i : Int) : Bool × Nat × Int := (p.1, p.2.1, if p.2.1 = 0 then p.2.2 else p.2.2 + i)
theorem shift_form (s : Bool) (m : Nat) (e i : Int) : shiftD (formD s m e) i = formD s m (e + i) := by
 unfold shiftD
 by_cases h : m = 0
 ·rw [h, form_zero, form_zero]; rfl
 ·have h2 := (odd_part h).1
  rw [form_pos s h, form_pos s h, if_neg (show ¬ m / 2 ^ tz m = 0 from fun q => by rw [q] at h2; omega)]
  show (s, m / 2 ^ tz m, e + (tz m : Int) + i) = _
  rw [Int.add_right_comm]
def shfE (n : Nat) (e i : Int) : Int := if n = 0 then e else e + i
theorem shifted2_calls (s : Bool) (a : Option Addr) (n c : Nat) (e : Int) (g : Bool) (i : Int) (w : World) (he : -4611686018427387904 ≤ e ∧ e ≤ 4611686018427387904) (hi : -65536 ≤ i ∧ i ≤ 65536) :
  Calls Tryz.prog 95 #[numV s a n c e g, .int .i64 i] w fun r w' => r = .returned (numV s a n c (shfE n e i) g) ∧ Below w.heap.size w w' := shifted_calls s a n c e g i w he hi
set_option maxRecDepth 100000 in
set_option maxHeartbeats 4000000 in
theorem shift1_calls (b1 b2 : Nat) (s : Bool) (a : Option Addr) (len cap : Nat) (xs : List Int) (e : Int) (i : Int) (w : World) (h : IsW w a len cap xs) (hm : len ≤ 17592186044416) (hT : Tab w) (hr : rightB (val xs) e = true) (hi : -65536 ≤ i ∧ i ≤ 65536)
  (k0 : w.cell? ⟨b1, 0, none⟩ = some (.bool s)) (k1 : w.cell? ⟨b1, 1, none⟩ = some (.slice a len cap)) (k2 : w.cell? ⟨b1, 2, none⟩ = some (.int .i64 e))
  (l0 : w.cell? ⟨b2, 0, none⟩ = some (.int .i64 i)) :
  Calls Tryz.prog 94 #[.pointer (some ⟨b1, 0, none⟩), .pointer (some ⟨b2, 0, none⟩)] w fun r w' => ∃ v, r = .returned v ∧ NumR w.heap.size w' v (shiftD (formD s (val xs) e) i) ∧ Below w.heap.size w w' := by
 have HCGX : Hid (canG s (val xs) e = (formD s (val xs) e)) := canG_no (rightB_yes hr).1
 have HEBX : Hid _ := right_exp hr
 have HGX : Hid _ := form_fit s (val xs) e hr
 have HBX : Hid _ := form_bounds s (val xs) e hr
 have hl1 : b1 < w.heap.size := World.block_lt_of_cell? _ _ k0
 have hl2 : b2 < w.heap.size := World.block_lt_of_cell? _ _ l0
 have hn1 : b1 ≠ w.heap.size := Nat.ne_of_lt hl1
 have hn2 : b2 ≠ w.heap.size := Nat.ne_of_lt hl2
 clear hr
 go_enter Tryz.func94, Tryz.ntmps94
 go_wp2_with fail
 go_region_with (first
   | (go_at_call 42; refine calls_guard #[dyV s a len cap e] ?_ ?_; (focus rfl); refine (canonical_calls s a len cap xs e _ (h.keep (by repeat (first | exact hbwQ | exact Below.refl _ _ | apply Below.drew | refine Below.alloc ?_ (by simp; try omega) _))) hm (hT.kept (by repeat (first | exact hbwQ | exact Below.refl _ _ | apply Below.drew | refine Below.alloc ?_ (by simp; try omega) _)))).mono ?_; rintro r wX ⟨aX, nX, cX, eX, rfl, HEX, HNX, HZX, hnX, hOX, hbX⟩; have hbwX : Below w.heap.size w wX := nT (by repeat (first | exact hbwQ | exact Below.refl _ _ | apply Below.drew | refine Below.alloc ?_ (by simp; try omega) _)) hbX; have hbzX : Below (w.alloc (.cells #[.bool false, .slice none 0 0, .int .i64 0, .bool false] 72)).heap.size (w.alloc (.cells #[.bool false, .slice none 0 0, .int .i64 0, .bool false] 72)) wX := nT (by repeat (first | exact hbzQ | exact Below.refl _ _ | apply Below.drew | refine Below.alloc ?_ (by simp; try omega) _)) hbX; obtain rfl := HEX.out HEBX.out.1 HEBX.out.2; rw [HCGX.out] at hOX HNX ⊢; clear HEX; have hPX := hOX.low (B' := w.heap.size + 1) (by first | (have := hbzQ.size; simp at this ⊢; omega) | simp); have qX0 := kC hbwX k0; have qX1 := kC hbwX k1; have qX2 := kC hbwX k2; have qX3 := kC hbwX l0)
   | (go_at_call 95; refine (shifted2_calls (formD s (val xs) e).1 aX nX cX (formD s (val xs) e).2.2 false i _ ⟨by have := HBX.out; omega, by have := HBX.out; omega⟩ hi).mono ?_; rintro r wP ⟨rfl, hbP⟩; have hbwP := nT hbwX (show Below wX.heap.size wX wP from by first | exact hbP | exact (Below.refl _ _).drew.trans hbP); have hbzP := nT hbzX (show Below wX.heap.size wX wP from by first | exact hbP | exact (Below.refl _ _).drew.trans hbP); obtain ⟨m0, m1, m2, m3, f0, f1, f2, f3⟩ := zero_num (r := w.heap.size) hbzP rfl; have hOP := hPX.keep (show Below wX.heap.size wX wP from by first | exact hbP | exact (Below.refl _ _).drew.trans hbP)))
 all_goals
  have HX : Hid (shfE nX (formD s (val xs) e).2.2 i = (shiftD (formD s (val xs) e) i).2.2) := by
   rw [Hid, shfE, shiftD]
   have h0 : nX = 0 ↔ (formD s (val xs) e).2.1 = 0 := by rw [HNX.out, List.length_eq_zero_iff, words_nil]
   by_cases q : (formD s (val xs) e).2.1 = 0
   ·rw [if_pos (h0.2 q), if_pos q]
   ·rw [if_neg (fun z => q (h0.1 z)), if_neg q]
  rw [HX.out]
  go_wp2_with fail
  refine bodyPost_ret (v := numV (formD s (val xs) e).1 aX nX cX (shiftD (formD s (val xs) e) i).2.2 false) (by simp [results, Tryz.results94, go_sem, m0, m1, m2, m3]) rfl ⟨_, rfl, Or.inl ⟨HGX.out, aX, nX, cX, rfl, HNX, HZX, hnX, ((((hOP.far _ _ (by show w.heap.size < _; omega)).far _ _ (by show w.heap.size < _; omega)).far _ _ (by show w.heap.size < _; omega)).far _ _ (by show w.heap.size < _; omega)).low (by omega)⟩, ?_⟩
  exact (((hbwP.setCell (Nat.le_refl _) _).setCell (Nat.le_refl _) _).setCell (Nat.le_refl _) _).setCell (Nat.le_refl _) _
set_option maxRecDepth 100000 in
set_option maxHeartbeats 4000000 in
theorem dshift_yes (s : Bool) (a : Option Addr) (len cap : Nat) (xs : List Int) (e : Int) (i : Int) (w : World) (h : IsW w a len cap xs) (hm : len ≤ 17592186044416) (hT : Tab w) (hi : -65536 ≤ i ∧ i ≤ 65536) (hr : rightB (val xs) e = true) :
  Calls Tryz.prog 55 #[dyV s a len cap e, .int .i64 i] w fun r w' => ∃ v', r = .returned (.tuple #[v', .int .i64 (roomE (shiftD (formD s (val xs) e) i))]) ∧ DyAt w.heap.size w' v' (roomP (shiftD (formD s (val xs) e) i)) ∧ Below w.heap.size w w' := by
 have hmf : ∀ (fn : Fn) (first cap : Array Value) (w : World), (Instr.makeFunc fn first cap).run Tryz.prog w = .ok (.func fn first cap) w := fun _ _ _ _ => rfl
 have HRB : Hid (rightB (val xs) e = true) := hr
 have HP : Hid _ := hi
 obtain ⟨hi1, hi2⟩ := hi
 clear hr
 go_enter Tryz.func55, Tryz.ntmps55
 go_wp2_with fail
 have hb0 : Below w.heap.size w ((((w.alloc (.cells #[.bool s, .slice a len cap, .int .i64 e] 27)).alloc (.cells #[.int .i64 i] 3)).alloc (.cells #[.bool false, .slice none 0 0, .int .i64 0] 27)).alloc (.cells #[.bool s, .slice a len cap, .int .i64 e] 27)) := by repeat (first | exact Below.refl _ _ | refine Below.alloc ?_ (by simp; try omega) _)
 refine Calls.mono (made_Shift w.heap.size (w.heap.size + 1) 0 (shiftD (formD s (val xs) e) i) _ _ (fun W hW => HRB.out ▸ right1_calls (w.heap.size + 1 + 1 + 1) s a len cap xs e W (h.keep (nT hb0 hW)) hm (kC hW (by go_simp)) (kC hW (by go_simp)) (kC hW (by go_simp)))
  (fun W hW => Calls.mono (shift1_calls w.heap.size (w.heap.size + 1) s a len cap xs e i W (h.keep (nT hb0 hW)) hm (hT.kept (nT hb0 hW)) HRB.out HP.out (kC hW (by go_simp)) (kC hW (by go_simp)) (kC hW (by go_simp)) (kC hW (by go_simp))) (by
   rintro r w5 ⟨v, rfl, hN, hb5⟩
   exact ⟨v, rfl, hN.low (Nat.zero_le _), hb5⟩))) ?_
 rintro r w2 ⟨v', rfl, ⟨a2, n2, c2, rfl, HN2, hn2, hO2⟩, hbM⟩
 have hb2 := nT hb0 hbM
 obtain ⟨m0, m1, m2, f0, f1, f2⟩ := zero_dy (r := w.heap.size + 1 + 1) (w := (w.alloc (.cells #[.bool s, .slice a len cap, .int .i64 e] 27)).alloc (.cells #[.int .i64 i] 3)) (W' := w2) (nT (below_one _ _) hbM) (by simp)
 go_wp2_with fail
 refine bodyPost_ret (v := .tuple #[dyV (roomP (shiftD (formD s (val xs) e) i)).1 a2 n2 c2 (roomP (shiftD (formD s (val xs) e) i)).2.2, .int .i64 (roomE (shiftD (formD s (val xs) e) i))]) (by simp [results, Tryz.results55, go_sem, m0, m1, m2]) rfl ⟨_, rfl, ⟨a2, n2, c2, rfl, HN2, hn2, (((hO2.far _ _ (by show w.heap.size + 1 + 1 < _; simp)).far _ _ (by show w.heap.size + 1 + 1 < _; simp)).far _ _ (by show w.heap.size + 1 + 1 < _; simp)).low (by simp; omega)⟩, ?_⟩
 exact ((hb2.setCell (by show w.heap.size ≤ w.heap.size + 1 + 1; omega) _).setCell (by show w.heap.size ≤ w.heap.size + 1 + 1; omega) _).setCell (by show w.heap.size ≤ w.heap.size + 1 + 1; omega) _
end Go.Proofs.YtionhpedghmecaaGreatDoor

namespace Go.Proofs.YtionhpedghmecaaGreatDoor
open Go.RowKit
set_option maxRecDepth 100000 in
set_option maxHeartbeats 2000000 in
theorem qNeg_calls (s : Bool) (a : Option Addr) (len cap : Nat) (xs : List Int) (e : Int) (w : World) (h : IsW w a len cap xs) (hm : len ≤ 17592186044000) (he : -4611686018427387904 ≤ e ∧ e ≤ 4611686018427387904) :
  Calls Tryz.prog 59 #[dyV s a len cap e] w fun r w' => ∃ v, r = .returned v ∧ DyQ w.heap.size w' v (formD (!s) (val xs) e) ∧ Below w.heap.size w w' := by
 have hb0 : Below w.heap.size w ((w.alloc (.cells #[.bool s, .slice a len cap, .int .i64 e] 27)).alloc (.cells #[.bool false, .slice none 0 0, .int .i64 0] 27)) := nT (below_one _ _) (below_one _ _)
 have HF : Hid _ := qForm_calls (!s) a len cap xs e _ (h.keep hb0) hm (by omega)
 clear he
 generalize formD (!s) (val xs) e = p at *
 go_enter Tryz.func59, Tryz.ntmps59
 go_wp2_with fail
 refine Calls.mono HF.out ?_
 rintro r w1 ⟨_, rfl, ⟨a1, n1, c1, rfl, HN1, hO1⟩, hb1⟩
 obtain ⟨m0, m1, m2, f0, f1, f2⟩ := zero_dy (r := w.heap.size + 1) hb1 (by simp)
 have hb01 := nT hb0 hb1
 have hws : w.heap.size + 2 ≤ w1.heap.size := by have := hb1.size; simp at this; omega
 clear hb1 HF
 go_wp2_with fail
 refine bodyPost_ret (v := dyV p.1 a1 n1 c1 p.2.2) (by simp [results, Tryz.results59, go_sem, m0, m1, m2]) rfl ⟨_, rfl, ⟨a1, n1, c1, rfl, HN1, ?_⟩, ?_⟩
 ·exact (((hO1.far _ _ (by simp)).far _ _ (by simp)).far _ _ (by simp)).low (by simp; omega)
 ·exact ((hb01.setCell (by show w.heap.size ≤ w.heap.size + 1; omega) _).setCell (by show w.heap.size ≤ w.heap.size + 1; omega) _).setCell (by show w.heap.size ≤ w.heap.size + 1; omega) _
end Go.Proofs.YtionhpedghmecaaGreatDoor

namespace Go.Proofs.YtionhpedghmecaaGreatDoor
open Go.RowKit
theorem form_expc (s : Bool) (m : Nat) (e : Int) (hb : blen m ≤ 5000000) (he : -5000000 ≤ e ∧ e ≤ 5000000) : -10000000 ≤ (formD s m e).2.2 ∧ (formD s m e).2.2 ≤ 10000000 := by
 by_cases h0 : m = 0
 ·rw [h0, form_zero]; exact ⟨by decide, by decide⟩
 ·rw [form_pos s h0]
  have := tz_le_blen m
  show _ ≤ e + (tz m : Int) ∧ e + (tz m : Int) ≤ _
  omega
attribute [local go_sem ↓] Go.wp_at_zero Go.wp_at_succ
set_option maxRecDepth 100000 in
set_option maxHeartbeats 4000000 in
theorem qLess_calls (s : Bool) (a : Option Addr) (len cap : Nat) (xs : List Int) (e : Int) (t : Bool) (b : Option Addr) (len' cap' : Nat) (ys : List Int) (f : Int) (w : World) (h : IsW w a len cap xs) (hm : len ≤ 17592186044000) (h' : IsW w b len' cap' ys) (hm' : len' ≤ 17592186044000) (he : -5000000 ≤ e ∧ e ≤ 5000000) (hf : -5000000 ≤ f ∧ f ≤ 5000000) (hbx : blen (val xs) ≤ 5000000) (hby : blen (val ys) ≤ 5000000) :
  Calls Tryz.prog 31 #[dyV s a len cap e, dyV t b len' cap' f] w fun r w' => ∃ v', r = .returned v' ∧ DyQ w.heap.size w' v' (sumD (formD s (val xs) e) (formD (!t) (val ys) f)) ∧ Below w.heap.size w w' := by
 have HN : Hid _ := fun w' g => qNeg_calls t b len' cap' ys f w' g hm' (by omega)
 have hyb : blen (formD (!t) (val ys) f).2.1 ≤ 5000000 := Nat.le_trans (blen_mono (form_amount_le _ _ _)) hby
 have hye := form_expc (!t) (val ys) f hby hf
 have hcy := form_of_can (form_can (!t) (val ys) f)
 generalize formD (!t) (val ys) f = y at *
 have hyl : (wordsOf y.2.1).length ≤ 100000 := (words_len2 _ _).2 (by omega)
 have HP : Hid _ := fun a' n' c' w' g (q : n' ≤ 100000) g' => qPlus_calls s a len cap xs e y.1 a' n' c' (wordsOf y.2.1) y.2.2 w' g hm g' (by omega) (by omega) (by omega) (by omega) (by rw [val_words]; omega)
 rw [val_words, hcy] at HP
 have HYL : Hid _ := hyl
 generalize sumD (formD s (val xs) e) y = p at *
 have H1 : Hid (IsW w a len cap xs) := h
 have H2 : Hid (IsW w b len' cap' ys) := h'
 clear hm hm' he hf h h' hbx hby hyb hye hcy hyl
 have bw0 : Below w.heap.size w (((w.alloc (.cells #[.bool s, .slice a len cap, .int .i64 e] 27)).alloc (.cells #[.bool t, .slice b len' cap', .int .i64 f] 27)).alloc (.cells #[.bool false, .slice none 0 0, .int .i64 0] 27)) := by repeat (first | exact Below.refl _ _ | refine bl_alloc ?_ _)
 obtain ⟨k0, k1, k2, k3, k4, k5⟩ := fX2 w s a len cap e t b len' cap' f
 obtain ⟨m0, m1, m2, f0, f1, f2⟩ := zero_dy (w := ((w.alloc (.cells #[.bool s, .slice a len cap, .int .i64 e] 27)).alloc (.cells #[.bool t, .slice b len' cap', .int .i64 f] 27))) (r := w.heap.size + 1 + 1) (W' := (((w.alloc (.cells #[.bool s, .slice a len cap, .int .i64 e] 27)).alloc (.cells #[.bool t, .slice b len' cap', .int .i64 f] 27)).alloc (.cells #[.bool false, .slice none 0 0, .int .i64 0] 27))) (Below.refl _ _) (by simp)
 have HS0 : Hid ((((w.alloc (.cells #[.bool s, .slice a len cap, .int .i64 e] 27)).alloc (.cells #[.bool t, .slice b len' cap', .int .i64 f] 27)).alloc (.cells #[.bool false, .slice none 0 0, .int .i64 0] 27)).heap.size = w.heap.size + 1 + 1 + 1) := by simp [Hid]
 go_enter Tryz.func31, Tryz.ntmps31
 go_upto_region 1 with fail
 generalize (((w.alloc (.cells #[.bool s, .slice a len cap, .int .i64 e] 27)).alloc (.cells #[.bool t, .slice b len' cap', .int .i64 f] 27)).alloc (.cells #[.bool false, .slice none 0 0, .int .i64 0] 27)) = w0 at *
 have bw : Below w0.heap.size w0 w0.drew := (Below.refl _ _).drew
 refine wp_region_held (S := fun w' => w'.cell? ⟨w.heap.size, 0, none⟩ = some (.bool s) ∧ w'.cell? ⟨w.heap.size, 1, none⟩ = some (.slice a len cap) ∧ w'.cell? ⟨w.heap.size, 2, none⟩ = some (.int .i64 e) ∧ w'.cell? ⟨w.heap.size + 1, 0, none⟩ = some (.bool t) ∧ w'.cell? ⟨w.heap.size + 1, 1, none⟩ = some (.slice b len' cap') ∧ w'.cell? ⟨w.heap.size + 1, 2, none⟩ = some (.int .i64 f)) (by kernel_rfl) ?_
 change wpAnyH _ _ _ _ _ _ _ _ (World.drew w0)
 replace k0 := kC bw k0
 replace k1 := kC bw k1
 replace k2 := kC bw k2
 replace k3 := kC bw k3
 replace k4 := kC bw k4
 replace k5 := kC bw k5
 replace f0 := kF bw m0 f0
 replace f1 := kF bw m1 f1
 replace f2 := kF bw m2 f2
 replace m0 := kC bw m0
 replace m1 := kC bw m1
 replace m2 := kC bw m2
 generalize World.drew w0 = wd at *
 refine wpAnyH_take (i := 0) (v := .agg #[.bool s, .slice a len cap, .int .i64 e]) rfl (by kernel_rfl) (by kernel_rfl) (by kernel_rfl) (fun _ _ _ h => h) (Or.inl ⟨by rfl, ?y0⟩) ⟨k0, k1, k2, k3, k4, k5⟩ ?r0
 case y0 => (rintro ww ⟨q0, q1, q2, q3, q4, q5⟩; go_simp)
 try simp only [Act.put]
 refine wpAnyH_take (i := 1) (v := .agg #[.bool t, .slice b len' cap', .int .i64 f]) rfl (by kernel_rfl) (by kernel_rfl) (by kernel_rfl) (fun _ _ _ h => h) (Or.inl ⟨by rfl, ?y1⟩) ⟨k0, k1, k2, k3, k4, k5⟩ ?r1
 case y1 => (rintro ww ⟨q0, q1, q2, q3, q4, q5⟩; go_simp)
 try simp only [Act.put]
 refine wpAnyH_ready (rs := [2]) (by kernel_rfl) (by simp) ?_
 refine AllReadyH.cons rfl (fun K hK => ?_) AllReadyH.nil
 go_simp
 refine Calls.mono (HN.out _ (H2.out.keep (nT bw0 bw))) ?_
 rintro r w1 ⟨_, rfl, ⟨a1, n1, c1, rfl, HN1, hO1⟩, b1⟩
 replace k0 := kC b1 k0
 replace k1 := kC b1 k1
 replace k2 := kC b1 k2
 replace k3 := kC b1 k3
 replace k4 := kC b1 k4
 replace k5 := kC b1 k5
 refine hK.out _ _ ⟨k0, k1, k2, k3, k4, k5⟩ (fun _ => ?_)
 clear hK K
 replace f0 := kF b1 m0 f0
 replace f1 := kF b1 m1 f1
 replace f2 := kF b1 m2 f2
 replace m0 := kC b1 m0
 replace m1 := kC b1 m1
 replace m2 := kC b1 m2
 replace bw := nT bw b1
 have hn1 : n1 ≤ 100000 := by rw [HN1.out]; exact HYL.out
 have HI1 := hO1.1
 clear b1 hO1 HN1
 try simp only [Act.put, List.setIfInBounds_toArray, List.set_cons_zero, List.set_cons_succ]
 refine wpAnyH_ready (rs := [3]) (by kernel_rfl) (by simp) ?_
 refine AllReadyH.cons rfl (fun K hK => ?_) AllReadyH.nil
 go_simp
 refine Calls.mono (HP.out _ _ _ _ (H1.out.keep (nT bw0 bw)) hn1 HI1) ?_
 rintro r w2 ⟨_, rfl, ⟨a2, n2, c2, rfl, HN2, hO2⟩, b2⟩
 replace k0 := kC b2 k0
 replace k1 := kC b2 k1
 replace k2 := kC b2 k2
 replace k3 := kC b2 k3
 replace k4 := kC b2 k4
 replace k5 := kC b2 k5
 refine hK.out _ _ ⟨k0, k1, k2, k3, k4, k5⟩ (fun _ => ?_)
 clear hK K
 replace f0 := kF b2 m0 f0
 replace f1 := kF b2 m1 f1
 replace f2 := kF b2 m2 f2
 replace m0 := kC b2 m0
 replace m1 := kC b2 m1
 replace m2 := kC b2 m2
 have hO2' := hO2.low bw.size
 replace bw := nT bw b2
 have bwx := nT bw0 bw
 clear b2 hO2 HI1 hn1
 try simp only [Act.put, List.setIfInBounds_toArray, List.set_cons_zero, List.set_cons_succ]
 refine wpAnyH_ready (rs := [4]) (by kernel_rfl) (by simp) ?_
 refine AllReadyH.cons rfl (fun K hK => ?_) AllReadyH.nil
 go_simp
 refine hK.out _ _ ⟨set3_cell k0 (by omega), set3_cell k1 (by omega), set3_cell k2 (by omega), set3_cell k3 (by omega), set3_cell k4 (by omega), set3_cell k5 (by omega)⟩ (fun _ => ?_)
 clear hK K
 try simp only [Act.put, List.setIfInBounds_toArray, List.set_cons_zero, List.set_cons_succ]
 refine wpAnyH_done (by kernel_rfl) ?_ _
 go_wp2_with fail
 refine bodyPost_ret (v := dyV p.1 a2 n2 c2 p.2.2) (by simp [results, Tryz.results31, go_sem, m0, m1, m2]) rfl ⟨_, rfl, ⟨a2, n2, c2, rfl, HN2, (((hO2'.far _ _ (by show w.heap.size + 1 + 1 < _; rw [HS0.out]; omega)).far _ _ (by show w.heap.size + 1 + 1 < _; rw [HS0.out]; omega)).far _ _ (by show w.heap.size + 1 + 1 < _; rw [HS0.out]; omega)).low (by rw [HS0.out]; omega)⟩, ((bwx.setCell (by show w.heap.size ≤ w.heap.size + 1 + 1; omega) _).setCell (by show w.heap.size ≤ w.heap.size + 1 + 1; omega) _).setCell (by show w.heap.size ≤ w.heap.size + 1 + 1; omega) _⟩
end Go.Proofs.YtionhpedghmecaaGreatDoor

namespace Go.Proofs.YtionhpedghmecaaGreatDoor
open Go.RowKit
attribute [local go_sem ↓] Go.wp_at_zero Go.wp_at_succ
def sgnQ (s : Bool) (m : Nat) : Int := if m = 0 then 0 else if s = true then -1 else 1
theorem sgnQ_form (s : Bool) (m : Nat) (e : Int) : sgnD (formD s m e) = sgnQ s m := by
 unfold sgnD sgnQ
 by_cases h0 : m = 0
 ·rw [h0, form_zero]; rfl
 ·have h1 := (odd_part h0).1
  rw [form_pos s h0, if_neg h0, if_neg (fun q => by have q' : m / 2 ^ tz m = 0 := q; rw [q'] at h1; exact absurd h1 (by decide))]
theorem blen_odd {m : Nat} (h0 : m ≠ 0) : blen m = tz m + blen (m / 2 ^ tz m) := by
 have h1 := (odd_part h0).1
 have h2 := (odd_part h0).2
 have h3 := blen_mul (m / 2 ^ tz m) (tz m) (fun q => by rw [q] at h1; exact absurd h1 (by decide))
 rw [h2] at h3
 exact h3
set_option maxRecDepth 100000 in
set_option maxHeartbeats 2000000 in
theorem qSign_calls (s : Bool) (a : Option Addr) (len cap : Nat) (xs : List Int) (e : Int) (w : World) (h : IsW w a len cap xs) (hm : len ≤ 17592186044000) :
  Calls Tryz.prog 29 #[dyV s a len cap e] w fun r w' => r = .returned (.int .i64 (sgnQ s (val xs))) ∧ Below w.heap.size w w' := by
 have bw : Below w.heap.size w (w.alloc (.cells #[.bool s, .slice a len cap, .int .i64 e] 27)) := below_one _ _
 have HZ : Hid _ := qZero_calls s a len cap xs e _ (h.keep bw) (by omega)
 unfold sgnQ
 obtain ⟨k0, k1, k2⟩ := fX3 w s a len cap e
 by_cases h0 : val xs = 0
 ·rw [decide_eq_true h0] at HZ
  rw [if_pos h0]
  clear h0 hm h
  go_enter Tryz.func29, Tryz.ntmps29
  go_wp2_with fail
  refine Calls.mono HZ.out ?_
  rintro r w1 ⟨rfl, b1⟩
  replace bw := nT bw b1
  clear b1
  go_wp2_with fail
  go_ret
  exact ⟨rfl, bw⟩
 ·rw [decide_eq_false h0] at HZ
  rw [if_neg h0]
  clear h0 hm h
  cases s
  all_goals
   go_enter Tryz.func29, Tryz.ntmps29
   go_wp2_with fail
   refine Calls.mono HZ.out ?_
   rintro r w1 ⟨rfl, b1⟩
   replace bw := nT bw b1
   replace k0 := kC b1 k0
   clear b1
   go_wp2_with fail
   go_ret
   exact ⟨rfl, bw⟩
set_option maxRecDepth 100000 in
set_option maxHeartbeats 2000000 in
theorem qTop_calls (s : Bool) (a : Option Addr) (len cap : Nat) (xs : List Int) (e : Int) (w : World) (h : IsW w a len cap xs) (hm : len ≤ 17592186044000) (he : -4611686018427387904 ≤ e ∧ e ≤ 4611686018427387904) (hb : blen (val xs) ≤ 1000000000) :
  Calls Tryz.prog 30 #[dyV s a len cap e] w fun r w' => r = .returned (.int .i64 (e + (blen (val xs) : Int) - 1)) ∧ Below w.heap.size w w' := by
 have bw : Below w.heap.size w (w.alloc (.cells #[.bool s, .slice a len cap, .int .i64 e] 27)) := below_one _ _
 have HL : Hid _ := fun W g => nLen_calls a len cap xs W g (by omega)
 have H1 : Hid (IsW w a len cap xs) := h
 have hw1 : IntKind.i64.wrap (e + (blen (val xs) : Int)) = e + (blen (val xs) : Int) := by rw [IntKind.wrap_i64]; omega
 have hw2 : IntKind.i64.wrap (e + (blen (val xs) : Int) - 1) = e + (blen (val xs) : Int) - 1 := by rw [IntKind.wrap_i64]; omega
 generalize (blen (val xs) : Int) = bl at *
 obtain ⟨k0, k1, k2⟩ := fX3 w s a len cap e
 clear h hm he hb
 go_enter Tryz.func30, Tryz.ntmps30
 go_upto_region 1 with fail
 generalize (w.alloc (.cells #[.bool s, .slice a len cap, .int .i64 e] 27)) = w0 at *
 have bd : Below w0.heap.size w0 w0.drew := (Below.refl _ _).drew
 refine wp_region_held (S := fun w' => w'.cell? ⟨w.heap.size, 0, none⟩ = some (.bool s) ∧ w'.cell? ⟨w.heap.size, 1, none⟩ = some (.slice a len cap) ∧ w'.cell? ⟨w.heap.size, 2, none⟩ = some (.int .i64 e)) (by kernel_rfl) ?_
 change wpAnyH _ _ _ _ _ _ _ _ (World.drew w0)
 replace k0 := kC bd k0
 replace k1 := kC bd k1
 replace k2 := kC bd k2
 replace bw := nT bw bd
 clear bd
 generalize World.drew w0 = wd1 at *
 refine wpAnyH_take (i := 0) (v := ?vt1_0) rfl (by kernel_rfl) (by kernel_rfl) (by kernel_rfl) (fun _ _ _ h => h) (Or.inl ⟨by rfl, ?yt1_0⟩) ⟨k0, k1, k2⟩ ?rt1_0
 case yt1_0 => (rintro ww ⟨q0, q1, q2⟩; go_simp; try with_reducible rfl)
 try simp only [Act.put]
 refine wpAnyH_take (i := 1) (v := ?vt1_1) rfl (by kernel_rfl) (by kernel_rfl) (by kernel_rfl) (fun _ _ _ h => h) (Or.inl ⟨by rfl, ?yt1_1⟩) ⟨k0, k1, k2⟩ ?rt1_1
 case yt1_1 => (rintro ww ⟨q0, q1, q2⟩; go_simp; try with_reducible rfl)
 try simp only [Act.put]
 refine wpAnyH_take (i := 2) (v := ?vt1_2) rfl (by kernel_rfl) (by kernel_rfl) (by kernel_rfl) (fun _ _ _ h => h) (Or.inl ⟨by rfl, ?yt1_2⟩) ⟨k0, k1, k2⟩ ?rt1_2
 case yt1_2 => (rintro ww ⟨q0, q1, q2⟩; go_simp; try with_reducible rfl)
 try simp only [Act.put]
 refine wpAnyH_take (i := 3) (v := ?vt1_3) rfl (by kernel_rfl) (by kernel_rfl) (by kernel_rfl) (fun _ _ _ h => h) (Or.inl ⟨by rfl, ?yt1_3⟩) ⟨k0, k1, k2⟩ ?rt1_3
 case yt1_3 => (rintro ww ⟨q0, q1, q2⟩; go_simp; try with_reducible rfl)
 try simp only [Act.put]
 refine wpAnyH_ready (rs := [4]) (by kernel_rfl) (by simp) ?_
 refine AllReadyH.cons rfl (fun K hK => ?_) AllReadyH.nil
 go_simp
 refine Calls.mono (HL.out _ (H1.out.keep bw)) ?_
 rintro r w1 ⟨rfl, bN⟩
 replace k0 := kC bN k0
 replace k1 := kC bN k1
 replace k2 := kC bN k2
 refine hK.out _ _ ⟨k0, k1, k2⟩ (fun _ => ?_)
 clear hK K
 replace bw := nT bw bN
 clear bN
 try simp only [Act.put, List.setIfInBounds_toArray, List.set_cons_zero, List.set_cons_succ]
 refine wpAnyH_ready (rs := [5]) (by kernel_rfl) (by simp) ?_
 refine AllReadyH.cons rfl (fun K hK => ?_) AllReadyH.nil
 go_simp
 refine hK.out _ _ ⟨k0, k1, k2⟩ (fun _ => ?_)
 clear hK K
 try simp only [Act.put, List.setIfInBounds_toArray, List.set_cons_zero, List.set_cons_succ]
 refine wpAnyH_ready (rs := [6]) (by kernel_rfl) (by simp) ?_
 refine AllReadyH.cons rfl (fun K hK => ?_) AllReadyH.nil
 go_simp
 refine hK.out _ _ ⟨k0, k1, k2⟩ (fun _ => ?_)
 clear hK K
 try simp only [Act.put, List.setIfInBounds_toArray, List.set_cons_zero, List.set_cons_succ]
 refine wpAnyH_ready (rs := [7]) (by kernel_rfl) (by simp) ?_
 refine AllReadyH.cons rfl (fun K hK => ?_) AllReadyH.nil
 go_simp
 refine hK.out _ _ ⟨k0, k1, k2⟩ (fun _ => ?_)
 clear hK K
 try simp only [Act.put, List.setIfInBounds_toArray, List.set_cons_zero, List.set_cons_succ]
 refine wpAnyH_done (by kernel_rfl) ?_ _
 go_wp2_with fail
 go_ret
 exact ⟨rfl, bw⟩
end Go.Proofs.YtionhpedghmecaaGreatDoor
