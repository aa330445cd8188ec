/- The document's dyadic numbers, fourth part: Neg, Twice, Shift; the program's Neg, Abs, Shift in the same words. The document's dyadic numbers: the difference. The document's dyadic numbers: Sign, Top, Order, Cmp, Bits, Size, TopOf. -/
import Derived.Test.YtahpdcbmekgkfaaGreatDoorAL
import Derived.Test.YtahpdcbmekgkfaaGreatDoorTMH
import Derived.Test.YtahpdcbmekgkfaaGreatDoorTMF
import Derived.Test.YtahpdcbmekgkfaaGreatDoorCR2
import Derived.Test.YtahpdcbmekgkfaaGreatDoorCR
import Derived.Test.YtahpdcbmekgkfaaGreatDoorRD13
import Derived.Test.YtahpdcbmekgkfaaGreatDoorFX
import Derived.Test.YtahpdcbmekgkfaaGreatDoorDCmp2

namespace Go.Proofs.YtahpdcbmekgkfaaGreatDoor
open Go.RowKit
set_option maxRecDepth 100000 in
set_option maxHeartbeats 2000000 in
theorem qNeg_calls (s : Bool) (a : Option Addr) (len cap : Nat) (xs : List Int) (e : Int) (w : World) (h : IsW w a len cap xs) (hm : len ≤ 17592186044000) (he : -4611686018427387904 ≤ e ∧ e ≤ 4611686018427387904) :
  Calls Tryz.prog 74 #[dyV s a len cap e] w fun r w' => ∃ v, r = .returned v ∧ DyQ w.heap.size w' v (formD (!s) (val xs) e) ∧ Below w.heap.size w w' := by
 have hb0 : Below w.heap.size w ((w.alloc (.cells #[.bool s, .slice a len cap, .int .i64 e] 25)).alloc (.cells #[.bool false, .slice none 0 0, .int .i64 0] 25)) := nT (below_one _ _) (below_one _ _)
 have HF : Hid _ := qForm_calls (!s) a len cap xs e _ (h.keep hb0) hm (by omega)
 clear he
 generalize formD (!s) (val xs) e = p at *
 go_enter Tryz.func74, Tryz.ntmps74
 go_wp2_with fail
 refine Calls.mono HF.out ?_
 rintro r w1 ⟨_, rfl, ⟨a1, n1, c1, rfl, HN1, hO1⟩, hb1⟩
 obtain ⟨m0, m1, m2, f0, f1, f2⟩ := zero_dy (r := w.heap.size + 1) hb1 (by simp)
 have hb01 := nT hb0 hb1
 have hws : w.heap.size + 2 ≤ w1.heap.size := by have := hb1.size; simp at this; omega
 clear hb1 HF
 go_wp2_with fail
 refine bodyPost_ret (v := dyV p.1 a1 n1 c1 p.2.2) (by simp [results, Tryz.results74, go_sem, m0, m1, m2]) rfl ⟨_, rfl, ⟨a1, n1, c1, rfl, HN1, ?_⟩, ?_⟩
 ·exact (((hO1.far _ _ (by simp)).far _ _ (by simp)).far _ _ (by simp)).low (by simp; omega)
 ·exact ((hb01.setCell (le1 _) _).setCell (le1 _) _).setCell (le1 _) _
end Go.Proofs.YtahpdcbmekgkfaaGreatDoor

namespace Go.Proofs.YtahpdcbmekgkfaaGreatDoor
open Go.RowKit
theorem form_expc (s : Bool) (m : Nat) (e : Int) (hb : blen m ≤ 5000000) (he : -5000000 ≤ e ∧ e ≤ 5000000) : -10000000 ≤ (formD s m e).2.2 ∧ (formD s m e).2.2 ≤ 10000000 := by
 by_cases h0 : m = 0
 ·rw [h0, form_zero]; exact ⟨by decide, by decide⟩
 ·rw [form_pos s h0]
  have := tz_le_blen m
  show _ ≤ e + (tz m : Int) ∧ e + (tz m : Int) ≤ _
  omega
attribute [local go_sem ↓] Go.wp_at_zero Go.wp_at_succ
set_option maxRecDepth 100000 in
set_option maxHeartbeats 4000000 in
theorem qLess_calls (s : Bool) (a : Option Addr) (len cap : Nat) (xs : List Int) (e : Int) (t : Bool) (b : Option Addr) (len' cap' : Nat) (ys : List Int) (f : Int) (w : World) (h : IsW w a len cap xs) (hm : len ≤ 17592186044000) (h' : IsW w b len' cap' ys) (hm' : len' ≤ 17592186044000) (he : -5000000 ≤ e ∧ e ≤ 5000000) (hf : -5000000 ≤ f ∧ f ≤ 5000000) (hbx : blen (val xs) ≤ 5000000) (hby : blen (val ys) ≤ 5000000) :
  Calls Tryz.prog 25 #[dyV s a len cap e, dyV t b len' cap' f] w fun r w' => ∃ v', r = .returned v' ∧ DyQ w.heap.size w' v' (sumD (formD s (val xs) e) (formD (!t) (val ys) f)) ∧ Below w.heap.size w w' := by
 have HN : Hid _ := fun w' g => qNeg_calls t b len' cap' ys f w' g hm' (by omega)
 have hyb : blen (formD (!t) (val ys) f).2.1 ≤ 5000000 := Nat.le_trans (blen_mono (form_amount_le _ _ _)) hby
 have hye := form_expc (!t) (val ys) f hby hf
 have hcy := form_of_can (form_can (!t) (val ys) f)
 generalize formD (!t) (val ys) f = y at *
 have hyl : (wO y.2.1).length ≤ 100000 := (words_len2 _ _).2 (by omega)
 have HP : Hid _ := fun a' n' c' w' g (q : n' ≤ 100000) g' => qPlus_calls s a len cap xs e y.1 a' n' c' (wO y.2.1) y.2.2 w' g hm g' (by omega) (by omega) (by omega) (by omega) (by rw [val_words]; omega)
 rw [val_words, hcy] at HP
 have HYL : Hid _ := hyl
 generalize sumD (formD s (val xs) e) y = p at *
 have H1 : Hid (IsW w a len cap xs) := h
 have H2 : Hid (IsW w b len' cap' ys) := h'
 clear hm hm' he hf h h' hbx hby hyb hye hcy hyl
 have bw0 : Below w.heap.size w (((w.alloc (.cells #[.bool s, .slice a len cap, .int .i64 e] 25)).alloc (.cells #[.bool t, .slice b len' cap', .int .i64 f] 25)).alloc (.cells #[.bool false, .slice none 0 0, .int .i64 0] 25)) := by repeat (first | exact Below.refl _ _ | refine bl_alloc ?_ _)
 obtain ⟨k0, k1, k2, k3, k4, k5⟩ := fX3 w s a len cap e t b len' cap' f _ rfl
 obtain ⟨m0, m1, m2, f0, f1, f2⟩ := zero_dy (w := ((w.alloc (.cells #[.bool s, .slice a len cap, .int .i64 e] 25)).alloc (.cells #[.bool t, .slice b len' cap', .int .i64 f] 25))) (r := w.heap.size + 1 + 1) (W' := (((w.alloc (.cells #[.bool s, .slice a len cap, .int .i64 e] 25)).alloc (.cells #[.bool t, .slice b len' cap', .int .i64 f] 25)).alloc (.cells #[.bool false, .slice none 0 0, .int .i64 0] 25))) (Below.refl _ _) (by simp)
 have HS0 : Hid ((((w.alloc (.cells #[.bool s, .slice a len cap, .int .i64 e] 25)).alloc (.cells #[.bool t, .slice b len' cap', .int .i64 f] 25)).alloc (.cells #[.bool false, .slice none 0 0, .int .i64 0] 25)).heap.size = w.heap.size + 1 + 1 + 1) := by simp [Hid]
 go_enter Tryz.func25, Tryz.ntmps25
 go_upto_region 1 with fail
 generalize (((w.alloc (.cells #[.bool s, .slice a len cap, .int .i64 e] 25)).alloc (.cells #[.bool t, .slice b len' cap', .int .i64 f] 25)).alloc (.cells #[.bool false, .slice none 0 0, .int .i64 0] 25)) = w0 at *
 have bw : Below w0.heap.size w0 w0.drew := (Below.refl _ _).drew
 refine wp_region_held (S := fun w' => w'.cell? ⟨w.heap.size, 0, none⟩ = some (.bool s) ∧ w'.cell? ⟨w.heap.size, 1, none⟩ = some (.slice a len cap) ∧ w'.cell? ⟨w.heap.size, 2, none⟩ = some (.int .i64 e) ∧ w'.cell? ⟨w.heap.size + 1, 0, none⟩ = some (.bool t) ∧ w'.cell? ⟨w.heap.size + 1, 1, none⟩ = some (.slice b len' cap') ∧ w'.cell? ⟨w.heap.size + 1, 2, none⟩ = some (.int .i64 f)) (by kernel_rfl) ?_
 change wpAnyH _ _ _ _ _ _ _ _ (World.drew w0)
 revert m0 m1 m2 f0 f1 f2; refine zg3 bw ?_; intro m0 m1 m2 f0 f1 f2
 revert k0 k1 k2 k3 k4 k5; refine cc6 bw ?_; intro k0 k1 k2 k3 k4 k5
 generalize World.drew w0 = wd at *
 refine tk 0 (.agg #[.bool s, .slice a len cap, .int .i64 e]) rfl (by kernel_rfl) (fun _ _ _ h => h) (by rfl) ?y0 ⟨k0, k1, k2, k3, k4, k5⟩ ?r0
 case y0 => (rintro ww ⟨q0, q1, q2, q3, q4, q5⟩; go_simp)
 try simp only [Act.put]
 refine tk 1 (.agg #[.bool t, .slice b len' cap', .int .i64 f]) rfl (by kernel_rfl) (fun _ _ _ h => h) (by rfl) ?y1 ⟨k0, k1, k2, k3, k4, k5⟩ ?r1
 case y1 => (rintro ww ⟨q0, q1, q2, q3, q4, q5⟩; go_simp)
 try simp only [Act.put]
 refine rd1 2 (by kernel_rfl) rfl fun K hK => ?_
 go_simp
 refine Calls.mono (HN.out _ (H2.out.keep (nT bw0 bw))) ?_
 rintro r w1 ⟨_, rfl, ⟨a1, n1, c1, rfl, HN1, hO1⟩, b1⟩
 revert k0 k1 k2 k3 k4 k5; refine cc6 b1 ?_; intro k0 k1 k2 k3 k4 k5
 refine hK.out _ _ ⟨k0, k1, k2, k3, k4, k5⟩ (fun _ => ?_)
 clear hK K
 revert m0 m1 m2 f0 f1 f2; refine zg3 b1 ?_; intro m0 m1 m2 f0 f1 f2
 replace bw := nT bw b1
 have hn1 : n1 ≤ 100000 := by rw [HN1.out]; exact HYL.out
 have HI1 := hO1.1
 clear b1 hO1 HN1
 try simp only [Act.put, sA, sZ, sS]
 refine rd1 3 (by kernel_rfl) rfl fun K hK => ?_
 go_simp
 refine Calls.mono (HP.out _ _ _ _ (H1.out.keep (nT bw0 bw)) hn1 HI1) ?_
 rintro r w2 ⟨_, rfl, ⟨a2, n2, c2, rfl, HN2, hO2⟩, b2⟩
 revert k0 k1 k2 k3 k4 k5; refine cc6 b2 ?_; intro k0 k1 k2 k3 k4 k5
 refine hK.out _ _ ⟨k0, k1, k2, k3, k4, k5⟩ (fun _ => ?_)
 clear hK K
 revert m0 m1 m2 f0 f1 f2; refine zg3 b2 ?_; intro m0 m1 m2 f0 f1 f2
 have hO2' := hO2.low bw.size
 replace bw := nT bw b2
 have bwx := nT bw0 bw
 clear b2 hO2 HI1 hn1
 try simp only [Act.put, sA, sZ, sS]
 refine rd1 4 (by kernel_rfl) rfl fun K hK => ?_
 go_simp
 refine hK.out _ _ ⟨set3_cell k0 (by omega), set3_cell k1 (by omega), set3_cell k2 (by omega), set3_cell k3 (by omega), set3_cell k4 (by omega), set3_cell k5 (by omega)⟩ (fun _ => ?_)
 clear hK K
 try simp only [Act.put, sA, sZ, sS]
 refine wpAnyH_done (by kernel_rfl) ?_ _
 go_wp2_with fail
 refine bodyPost_ret (v := dyV p.1 a2 n2 c2 p.2.2) (by simp [results, Tryz.results25, go_sem, m0, m1, m2]) rfl ⟨_, rfl, ⟨a2, n2, c2, rfl, HN2, (((hO2'.far _ _ (by show w.heap.size + 1 + 1 < _; rw [HS0.out]; omega)).far _ _ (by show w.heap.size + 1 + 1 < _; rw [HS0.out]; omega)).far _ _ (by show w.heap.size + 1 + 1 < _; rw [HS0.out]; omega)).low (by rw [HS0.out]; omega)⟩, ((bwx.setCell (le2 _) _).setCell (le2 _) _).setCell (le2 _) _⟩
end Go.Proofs.YtahpdcbmekgkfaaGreatDoor

namespace Go.Proofs.YtahpdcbmekgkfaaGreatDoor
open Go.RowKit
set_option maxHeartbeats 2000000
set_option maxRecDepth 100000
attribute [local go_sem ↓] Go.wp_at_zero Go.wp_at_succ
def sgnQ (s : Bool) (m : Nat) : Int := if m = 0 then 0 else if s = true then -1 else 1
theorem sgnQ_form (s : Bool) (m : Nat) (e : Int) : sgnD (formD s m e) = sgnQ s m := by
 unfold sgnD sgnQ
 by_cases h0 : m = 0
 ·rw [h0, form_zero]; rfl
 ·have h1 := (odd_part h0).1
  rw [form_pos s h0, if_neg h0, if_neg (fun q => by have q' : m / 2 ^ tz m = 0 := q; rw [q'] at h1; exact absurd h1 (by decide))]
theorem blen_odd {m : Nat} (h0 : m ≠ 0) : blen m = tz m + blen (m / 2 ^ tz m) := by
 have h1 := (odd_part h0).1
 have h2 := (odd_part h0).2
 have h3 := blen_mul (m / 2 ^ tz m) (tz m) (fun q => by rw [q] at h1; exact absurd h1 (by decide))
 rw [h2] at h3
 exact h3
theorem qSign_calls (s : Bool) (a : Option Addr) (len cap : Nat) (xs : List Int) (e : Int) (w : World) (h : IsW w a len cap xs) (hm : len ≤ 17592186044000) :
  Calls Tryz.prog 27 #[dyV s a len cap e] w fun r w' => r = .returned (.int .i64 (sgnQ s (val xs))) ∧ Below w.heap.size w w' := by
 have bw : Below w.heap.size w (w.alloc (.cells #[.bool s, .slice a len cap, .int .i64 e] 25)) := below_one _ _
 have HZ : Hid _ := qZero_calls s a len cap xs e _ (h.keep bw) (by omega)
 unfold sgnQ
 obtain ⟨k0, k1, k2⟩ := fX8 w s a len cap e _ rfl
 by_cases h0 : val xs = 0
 ·rw [decide_eq_true h0] at HZ
  rw [if_pos h0]
  clear h0 hm h
  go_enter Tryz.func27, Tryz.ntmps27
  go_wp2_with fail
  refine Calls.mono HZ.out ?_
  rintro r w1 ⟨rfl, b1⟩
  replace bw := nT bw b1
  clear b1
  go_wp2_with fail
  go_ret
  exact ⟨rfl, bw⟩
 ·rw [decide_eq_false h0] at HZ
  rw [if_neg h0]
  clear h0 hm h
  cases s
  all_goals
   go_enter Tryz.func27, Tryz.ntmps27
   go_wp2_with fail
   refine Calls.mono HZ.out ?_
   rintro r w1 ⟨rfl, b1⟩
   replace bw := nT bw b1
   replace k0 := kC b1 k0
   clear b1
   go_wp2_with fail
   go_ret
   exact ⟨rfl, bw⟩
theorem qTop_calls (s : Bool) (a : Option Addr) (len cap : Nat) (xs : List Int) (e : Int) (w : World) (h : IsW w a len cap xs) (hm : len ≤ 17592186044000) (he : -4611686018427387904 ≤ e ∧ e ≤ 4611686018427387904) (hb : blen (val xs) ≤ 1000000000) :
  Calls Tryz.prog 76 #[dyV s a len cap e] w fun r w' => r = .returned (.int .i64 (e + (blen (val xs) : Int) - 1)) ∧ Below w.heap.size w w' := by
 have bw : Below w.heap.size w (w.alloc (.cells #[.bool s, .slice a len cap, .int .i64 e] 25)) := below_one _ _
 have HL : Hid _ := fun W g => nLen_calls a len cap xs W g (by omega)
 have H1 : Hid (IsW w a len cap xs) := h
 have hw1 : IntKind.i64.wrap (e + (blen (val xs) : Int)) = e + (blen (val xs) : Int) := by rw [IntKind.wrap_i64]; omega
 have hw2 : IntKind.i64.wrap (e + (blen (val xs) : Int) - 1) = e + (blen (val xs) : Int) - 1 := by rw [IntKind.wrap_i64]; omega
 generalize (blen (val xs) : Int) = bl at *
 obtain ⟨k0, k1, k2⟩ := fX8 w s a len cap e _ rfl
 clear h hm he hb
 go_enter Tryz.func76, Tryz.ntmps76
 go_upto_region 1 with fail
 generalize (w.alloc (.cells #[.bool s, .slice a len cap, .int .i64 e] 25)) = w0 at *
 have bd : Below w0.heap.size w0 w0.drew := (Below.refl _ _).drew
 refine wp_region_held (S := fun w' => w'.cell? ⟨w.heap.size, 0, none⟩ = some (.bool s) ∧ w'.cell? ⟨w.heap.size, 1, none⟩ = some (.slice a len cap) ∧ w'.cell? ⟨w.heap.size, 2, none⟩ = some (.int .i64 e)) (by kernel_rfl) ?_
 change wpAnyH _ _ _ _ _ _ _ _ (World.drew w0)
 revert k0 k1 k2; refine cc3 bd ?_; intro k0 k1 k2
 replace bw := nT bw bd
 clear bd
 generalize World.drew w0 = wd1 at *
 refine tk 0 (?vt1_0) rfl (by kernel_rfl) (fun _ _ _ h => h) (by rfl) ?yt1_0 ⟨k0, k1, k2⟩ ?rt1_0
 case yt1_0 => (rintro ww ⟨q0, q1, q2⟩; go_simp; try with_reducible rfl)
 try simp only [Act.put]
 refine tk 1 (?vt1_1) rfl (by kernel_rfl) (fun _ _ _ h => h) (by rfl) ?yt1_1 ⟨k0, k1, k2⟩ ?rt1_1
 case yt1_1 => (rintro ww ⟨q0, q1, q2⟩; go_simp; try with_reducible rfl)
 try simp only [Act.put]
 refine tk 2 (?vt1_2) rfl (by kernel_rfl) (fun _ _ _ h => h) (by rfl) ?yt1_2 ⟨k0, k1, k2⟩ ?rt1_2
 case yt1_2 => (rintro ww ⟨q0, q1, q2⟩; go_simp; try with_reducible rfl)
 try simp only [Act.put]
 refine tk 3 (?vt1_3) rfl (by kernel_rfl) (fun _ _ _ h => h) (by rfl) ?yt1_3 ⟨k0, k1, k2⟩ ?rt1_3
 case yt1_3 => (rintro ww ⟨q0, q1, q2⟩; go_simp; try with_reducible rfl)
 try simp only [Act.put]
 refine rd1 4 (by kernel_rfl) rfl fun K hK => ?_
 go_simp
 refine Calls.mono (HL.out _ (H1.out.keep bw)) ?_
 rintro r w1 ⟨rfl, bN⟩
 revert k0 k1 k2; refine cc3 bN ?_; intro k0 k1 k2
 refine hK.out _ _ ⟨k0, k1, k2⟩ (fun _ => ?_)
 clear hK K
 replace bw := nT bw bN
 clear bN
 try simp only [Act.put, sA, sZ, sS]
 refine rd1 5 (by kernel_rfl) rfl fun K hK => ?_
 go_simp
 refine hK.out _ _ ⟨k0, k1, k2⟩ (fun _ => ?_)
 clear hK K
 try simp only [Act.put, sA, sZ, sS]
 refine rd1 6 (by kernel_rfl) rfl fun K hK => ?_
 go_simp
 refine hK.out _ _ ⟨k0, k1, k2⟩ (fun _ => ?_)
 clear hK K
 try simp only [Act.put, sA, sZ, sS]
 refine rd1 7 (by kernel_rfl) rfl fun K hK => ?_
 go_simp
 refine hK.out _ _ ⟨k0, k1, k2⟩ (fun _ => ?_)
 clear hK K
 try simp only [Act.put, sA, sZ, sS]
 refine wpAnyH_done (by kernel_rfl) ?_ _
 go_wp2_with fail
 go_ret
 exact ⟨rfl, bw⟩
end Go.Proofs.YtahpdcbmekgkfaaGreatDoor
