/- The document's dyadic numbers: Order, Cmp, Size, TopOf; the program's Cmp, Size, Top in the same words. -/
import Derived.Test.YtahpdcbmekgkfaaGreatDoorCR2
import Derived.Test.YtahpdcbmekgkfaaGreatDoorCR
import Derived.Test.YtahpdcbmekgkfaaGreatDoorAL
import Derived.Test.YtahpdcbmekgkfaaGreatDoorTMQ
import Derived.Test.YtahpdcbmekgkfaaGreatDoorTMR
import Derived.Test.YtahpdcbmekgkfaaGreatDoorFX
namespace Go.Proofs.YtahpdcbmekgkfaaGreatDoor
open Go.RowKit
set_option maxHeartbeats 2000000
set_option maxRecDepth 100000
attribute [local go_sem ↓] Go.wp_at_zero Go.wp_at_succ
theorem qorder_lt (s : Bool) (a : Option Addr) (len cap : Nat) (xs : List Int) (e : Int) (t : Bool) (b : Option Addr) (len' cap' : Nat) (ys : List Int) (f : Int) (w : World) (h : IsW w a len cap xs) (hm : len ≤ 17592186044000) (h' : IsW w b len' cap' ys) (hm' : len' ≤ 17592186044000) (hs : sgnQ s (val xs) < sgnQ t (val ys)) :
  Calls Tryz.prog 28 #[dyV s a len cap e, dyV t b len' cap' f] w fun r w' => r = .returned (.int .i64 (-1)) ∧ Below w.heap.size w w' := by
 have bw : Below w.heap.size w ((w.alloc (.cells #[.bool s, .slice a len cap, .int .i64 e] 25)).alloc (.cells #[.bool t, .slice b len' cap', .int .i64 f] 25)) := by repeat (first | exact Below.refl _ _ | refine bl_alloc ?_ _)
 have HS1 : Hid _ := fun W g => qSign_calls s a len cap xs e W g hm
 have HS2 : Hid _ := fun W g => qSign_calls t b len' cap' ys f W g hm'
 have H1 : Hid (IsW w a len cap xs) := h
 have H2 : Hid (IsW w b len' cap' ys) := h'
 generalize sgnQ s (val xs) = sg at *
 generalize sgnQ t (val ys) = tg at *
 obtain ⟨k0, k1, k2, k3, k4, k5⟩ := fX9 w s a len cap e t b len' cap' f _ rfl
 clear h h' hm hm'
 go_enter Tryz.func28, Tryz.ntmps28
 go_upto_region 1 with fail
 generalize ((w.alloc (.cells #[.bool s, .slice a len cap, .int .i64 e] 25)).alloc (.cells #[.bool t, .slice b len' cap', .int .i64 f] 25)) = w0 at *
 have bd : Below w0.heap.size w0 w0.drew := (Below.refl _ _).drew
 refine wp_region_held (S := fun w' => w'.cell? ⟨w.heap.size, 0, none⟩ = some (.bool s) ∧ w'.cell? ⟨w.heap.size, 1, none⟩ = some (.slice a len cap) ∧ w'.cell? ⟨w.heap.size, 2, none⟩ = some (.int .i64 e) ∧ w'.cell? ⟨w.heap.size + 1, 0, none⟩ = some (.bool t) ∧ w'.cell? ⟨w.heap.size + 1, 1, none⟩ = some (.slice b len' cap') ∧ w'.cell? ⟨w.heap.size + 1, 2, none⟩ = some (.int .i64 f)) (by kernel_rfl) ?_
 change wpAnyH _ _ _ _ _ _ _ _ (World.drew w0)
 revert k0 k1 k2 k3 k4 k5; refine cc6 bd ?_; intro k0 k1 k2 k3 k4 k5
 replace bw := nT bw bd
 clear bd
 generalize World.drew w0 = wd3 at *
 refine tk 0 (?vt3_0) rfl (by kernel_rfl) (fun _ _ _ h => h) (by rfl) ?yt3_0 ⟨k0, k1, k2, k3, k4, k5⟩ ?rt3_0
 case yt3_0 => (rintro ww ⟨q0, q1, q2, q3, q4, q5⟩; go_simp; try with_reducible rfl)
 try simp only [Act.put]
 refine tk 2 (?vt3_2) rfl (by kernel_rfl) (fun _ _ _ h => h) (by rfl) ?yt3_2 ⟨k0, k1, k2, k3, k4, k5⟩ ?rt3_2
 case yt3_2 => (rintro ww ⟨q0, q1, q2, q3, q4, q5⟩; go_simp; try with_reducible rfl)
 try simp only [Act.put]
 refine rd1 1 (by kernel_rfl) rfl fun K hK => ?_
 go_simp
 refine cM (HS1.out _ (H1.out.keep bw)) ?_
 rintro r w1 ⟨rfl, bN⟩
 revert k0 k1 k2 k3 k4 k5; refine cc6 bN ?_; intro k0 k1 k2 k3 k4 k5
 refine hK.out _ _ ⟨k0, k1, k2, k3, k4, k5⟩ (fun _ => ?_)
 clear hK K
 replace bw := nT bw bN
 clear bN
 try simp only [Act.put, sA, sZ, sS]
 refine rd1 3 (by kernel_rfl) rfl fun K hK => ?_
 go_simp
 refine cM (HS2.out _ (H2.out.keep bw)) ?_
 rintro r w2 ⟨rfl, bN⟩
 revert k0 k1 k2 k3 k4 k5; refine cc6 bN ?_; intro k0 k1 k2 k3 k4 k5
 refine hK.out _ _ ⟨k0, k1, k2, k3, k4, k5⟩ (fun _ => ?_)
 clear hK K
 replace bw := nT bw bN
 clear bN
 try simp only [Act.put, sA, sZ, sS]
 refine rd1 4 (by kernel_rfl) rfl fun K hK => ?_
 go_simp
 refine hK.out _ _ ⟨k0, k1, k2, k3, k4, k5⟩ (fun _ => ?_)
 clear hK K
 try simp only [Act.put, sA, sZ, sS]
 refine rd1 5 (by kernel_rfl) rfl fun K hK => ?_
 go_simp
 refine hK.out _ _ ⟨k0, k1, k2, k3, k4, k5⟩ (fun _ => ?_)
 clear hK K
 try simp only [Act.put, sA, sZ, sS]
 refine wpAnyH_done (by kernel_rfl) ?_ _
 go_wp2_with fail
 go_ret
 exact ⟨rfl, bw⟩
theorem qorder_gt (s : Bool) (a : Option Addr) (len cap : Nat) (xs : List Int) (e : Int) (t : Bool) (b : Option Addr) (len' cap' : Nat) (ys : List Int) (f : Int) (w : World) (h : IsW w a len cap xs) (hm : len ≤ 17592186044000) (h' : IsW w b len' cap' ys) (hm' : len' ≤ 17592186044000) (hs : sgnQ t (val ys) < sgnQ s (val xs)) :
  Calls Tryz.prog 28 #[dyV s a len cap e, dyV t b len' cap' f] w fun r w' => r = .returned (.int .i64 (1)) ∧ Below w.heap.size w w' := by
 have bw : Below w.heap.size w ((w.alloc (.cells #[.bool s, .slice a len cap, .int .i64 e] 25)).alloc (.cells #[.bool t, .slice b len' cap', .int .i64 f] 25)) := by repeat (first | exact Below.refl _ _ | refine bl_alloc ?_ _)
 have HS1 : Hid _ := fun W g => qSign_calls s a len cap xs e W g hm
 have HS2 : Hid _ := fun W g => qSign_calls t b len' cap' ys f W g hm'
 have H1 : Hid (IsW w a len cap xs) := h
 have H2 : Hid (IsW w b len' cap' ys) := h'
 generalize sgnQ s (val xs) = sg at *
 generalize sgnQ t (val ys) = tg at *
 have hns : ¬ sg < tg := by omega
 obtain ⟨k0, k1, k2, k3, k4, k5⟩ := fX9 w s a len cap e t b len' cap' f _ rfl
 clear h h' hm hm'
 go_enter Tryz.func28, Tryz.ntmps28
 go_upto_region 1 with fail
 generalize ((w.alloc (.cells #[.bool s, .slice a len cap, .int .i64 e] 25)).alloc (.cells #[.bool t, .slice b len' cap', .int .i64 f] 25)) = w0 at *
 have bd : Below w0.heap.size w0 w0.drew := (Below.refl _ _).drew
 refine wp_region_held (S := fun w' => w'.cell? ⟨w.heap.size, 0, none⟩ = some (.bool s) ∧ w'.cell? ⟨w.heap.size, 1, none⟩ = some (.slice a len cap) ∧ w'.cell? ⟨w.heap.size, 2, none⟩ = some (.int .i64 e) ∧ w'.cell? ⟨w.heap.size + 1, 0, none⟩ = some (.bool t) ∧ w'.cell? ⟨w.heap.size + 1, 1, none⟩ = some (.slice b len' cap') ∧ w'.cell? ⟨w.heap.size + 1, 2, none⟩ = some (.int .i64 f)) (by kernel_rfl) ?_
 change wpAnyH _ _ _ _ _ _ _ _ (World.drew w0)
 revert k0 k1 k2 k3 k4 k5; refine cc6 bd ?_; intro k0 k1 k2 k3 k4 k5
 replace bw := nT bw bd
 clear bd
 generalize World.drew w0 = wd4 at *
 refine tk 0 (?vt4_0) rfl (by kernel_rfl) (fun _ _ _ h => h) (by rfl) ?yt4_0 ⟨k0, k1, k2, k3, k4, k5⟩ ?rt4_0
 case yt4_0 => (rintro ww ⟨q0, q1, q2, q3, q4, q5⟩; go_simp; try with_reducible rfl)
 try simp only [Act.put]
 refine tk 2 (?vt4_2) rfl (by kernel_rfl) (fun _ _ _ h => h) (by rfl) ?yt4_2 ⟨k0, k1, k2, k3, k4, k5⟩ ?rt4_2
 case yt4_2 => (rintro ww ⟨q0, q1, q2, q3, q4, q5⟩; go_simp; try with_reducible rfl)
 try simp only [Act.put]
 refine rd1 1 (by kernel_rfl) rfl fun K hK => ?_
 go_simp
 refine cM (HS1.out _ (H1.out.keep bw)) ?_
 rintro r w1 ⟨rfl, bN⟩
 revert k0 k1 k2 k3 k4 k5; refine cc6 bN ?_; intro k0 k1 k2 k3 k4 k5
 refine hK.out _ _ ⟨k0, k1, k2, k3, k4, k5⟩ (fun _ => ?_)
 clear hK K
 replace bw := nT bw bN
 clear bN
 try simp only [Act.put, sA, sZ, sS]
 refine rd1 3 (by kernel_rfl) rfl fun K hK => ?_
 go_simp
 refine cM (HS2.out _ (H2.out.keep bw)) ?_
 rintro r w2 ⟨rfl, bN⟩
 revert k0 k1 k2 k3 k4 k5; refine cc6 bN ?_; intro k0 k1 k2 k3 k4 k5
 refine hK.out _ _ ⟨k0, k1, k2, k3, k4, k5⟩ (fun _ => ?_)
 clear hK K
 replace bw := nT bw bN
 clear bN
 try simp only [Act.put, sA, sZ, sS]
 refine rd1 4 (by kernel_rfl) rfl fun K hK => ?_
 go_simp
 refine hK.out _ _ ⟨k0, k1, k2, k3, k4, k5⟩ (fun _ => ?_)
 clear hK K
 try simp only [Act.put, sA, sZ, sS]
 refine rd1 5 (by kernel_rfl) rfl fun K hK => ?_
 go_simp
 refine hK.out _ _ ⟨k0, k1, k2, k3, k4, k5⟩ (fun _ => ?_)
 clear hK K
 try simp only [Act.put, sA, sZ, sS]
 refine wpAnyH_done (by kernel_rfl) ?_ _
 go_wp2_with fail
 go_ret
 exact ⟨rfl, bw⟩
theorem qorder_zero (s : Bool) (a : Option Addr) (len cap : Nat) (xs : List Int) (e : Int) (t : Bool) (b : Option Addr) (len' cap' : Nat) (ys : List Int) (f : Int) (w : World) (h : IsW w a len cap xs) (hm : len ≤ 17592186044000) (h' : IsW w b len' cap' ys) (hm' : len' ≤ 17592186044000) (hs : sgnQ s (val xs) = 0) (ht : sgnQ t (val ys) = 0) :
  Calls Tryz.prog 28 #[dyV s a len cap e, dyV t b len' cap' f] w fun r w' => r = .returned (.int .i64 (0)) ∧ Below w.heap.size w w' := by
 have bw : Below w.heap.size w ((w.alloc (.cells #[.bool s, .slice a len cap, .int .i64 e] 25)).alloc (.cells #[.bool t, .slice b len' cap', .int .i64 f] 25)) := by repeat (first | exact Below.refl _ _ | refine bl_alloc ?_ _)
 have HS1 : Hid _ := fun W g => qSign_calls s a len cap xs e W g hm
 have HS2 : Hid _ := fun W g => qSign_calls t b len' cap' ys f W g hm'
 have H1 : Hid (IsW w a len cap xs) := h
 have H2 : Hid (IsW w b len' cap' ys) := h'
 rw [hs] at HS1
 rw [ht] at HS2
 clear hs ht
 obtain ⟨k0, k1, k2, k3, k4, k5⟩ := fX9 w s a len cap e t b len' cap' f _ rfl
 clear h h' hm hm'
 go_enter Tryz.func28, Tryz.ntmps28
 go_upto_region 1 with fail
 generalize ((w.alloc (.cells #[.bool s, .slice a len cap, .int .i64 e] 25)).alloc (.cells #[.bool t, .slice b len' cap', .int .i64 f] 25)) = w0 at *
 have bd : Below w0.heap.size w0 w0.drew := (Below.refl _ _).drew
 refine wp_region_held (S := fun w' => w'.cell? ⟨w.heap.size, 0, none⟩ = some (.bool s) ∧ w'.cell? ⟨w.heap.size, 1, none⟩ = some (.slice a len cap) ∧ w'.cell? ⟨w.heap.size, 2, none⟩ = some (.int .i64 e) ∧ w'.cell? ⟨w.heap.size + 1, 0, none⟩ = some (.bool t) ∧ w'.cell? ⟨w.heap.size + 1, 1, none⟩ = some (.slice b len' cap') ∧ w'.cell? ⟨w.heap.size + 1, 2, none⟩ = some (.int .i64 f)) (by kernel_rfl) ?_
 change wpAnyH _ _ _ _ _ _ _ _ (World.drew w0)
 revert k0 k1 k2 k3 k4 k5; refine cc6 bd ?_; intro k0 k1 k2 k3 k4 k5
 replace bw := nT bw bd
 clear bd
 generalize World.drew w0 = wd5 at *
 refine tk 0 (?vt5_0) rfl (by kernel_rfl) (fun _ _ _ h => h) (by rfl) ?yt5_0 ⟨k0, k1, k2, k3, k4, k5⟩ ?rt5_0
 case yt5_0 => (rintro ww ⟨q0, q1, q2, q3, q4, q5⟩; go_simp; try with_reducible rfl)
 try simp only [Act.put]
 refine tk 2 (?vt5_2) rfl (by kernel_rfl) (fun _ _ _ h => h) (by rfl) ?yt5_2 ⟨k0, k1, k2, k3, k4, k5⟩ ?rt5_2
 case yt5_2 => (rintro ww ⟨q0, q1, q2, q3, q4, q5⟩; go_simp; try with_reducible rfl)
 try simp only [Act.put]
 refine rd1 1 (by kernel_rfl) rfl fun K hK => ?_
 go_simp
 refine cM (HS1.out _ (H1.out.keep bw)) ?_
 rintro r w1 ⟨rfl, bN⟩
 revert k0 k1 k2 k3 k4 k5; refine cc6 bN ?_; intro k0 k1 k2 k3 k4 k5
 refine hK.out _ _ ⟨k0, k1, k2, k3, k4, k5⟩ (fun _ => ?_)
 clear hK K
 replace bw := nT bw bN
 clear bN
 try simp only [Act.put, sA, sZ, sS]
 refine rd1 3 (by kernel_rfl) rfl fun K hK => ?_
 go_simp
 refine cM (HS2.out _ (H2.out.keep bw)) ?_
 rintro r w2 ⟨rfl, bN⟩
 revert k0 k1 k2 k3 k4 k5; refine cc6 bN ?_; intro k0 k1 k2 k3 k4 k5
 refine hK.out _ _ ⟨k0, k1, k2, k3, k4, k5⟩ (fun _ => ?_)
 clear hK K
 replace bw := nT bw bN
 clear bN
 try simp only [Act.put, sA, sZ, sS]
 refine rd1 4 (by kernel_rfl) rfl fun K hK => ?_
 go_simp
 refine hK.out _ _ ⟨k0, k1, k2, k3, k4, k5⟩ (fun _ => ?_)
 clear hK K
 try simp only [Act.put, sA, sZ, sS]
 refine rd1 5 (by kernel_rfl) rfl fun K hK => ?_
 go_simp
 refine hK.out _ _ ⟨k0, k1, k2, k3, k4, k5⟩ (fun _ => ?_)
 clear hK K
 try simp only [Act.put, sA, sZ, sS]
 refine wpAnyH_done (by kernel_rfl) ?_ _
 go_wp2_with fail
 go_ret
 exact ⟨rfl, bw⟩
theorem qorder_top (s : Bool) (a : Option Addr) (len cap : Nat) (xs : List Int) (e : Int) (t : Bool) (b : Option Addr) (len' cap' : Nat) (ys : List Int) (f : Int) (w : World) (h : IsW w a len cap xs) (hm : len ≤ 17592186044000) (h' : IsW w b len' cap' ys) (hm' : len' ≤ 17592186044000) (he : -5000000 ≤ e ∧ e ≤ 5000000) (hf : -5000000 ≤ f ∧ f ≤ 5000000) (hbx : blen (val xs) ≤ 5000000) (hby : blen (val ys) ≤ 5000000) (sg : Int) (hs : sgnQ s (val xs) = sg) (ht : sgnQ t (val ys) = sg) (h0 : sg ≠ 0) (_hr : -1 ≤ sg ∧ sg ≤ 1) (hg : f + (blen (val ys) : Int) - 1 < e + (blen (val xs) : Int) - 1) :
  Calls Tryz.prog 28 #[dyV s a len cap e, dyV t b len' cap' f] w fun r w' => r = .returned (.int .i64 (sg)) ∧ Below w.heap.size w w' := by
 have bw : Below w.heap.size w ((w.alloc (.cells #[.bool s, .slice a len cap, .int .i64 e] 25)).alloc (.cells #[.bool t, .slice b len' cap', .int .i64 f] 25)) := by repeat (first | exact Below.refl _ _ | refine bl_alloc ?_ _)
 have HS1 : Hid _ := fun W g => qSign_calls s a len cap xs e W g hm
 have HS2 : Hid _ := fun W g => qSign_calls t b len' cap' ys f W g hm'
 have H1 : Hid (IsW w a len cap xs) := h
 have H2 : Hid (IsW w b len' cap' ys) := h'
 rw [hs] at HS1
 rw [ht] at HS2
 have hz : (sg == 0) = false := by simp [h0]
 have HT1 : Hid _ := fun W g => qTop_calls s a len cap xs e W g hm (by omega) (by omega)
 have HT2 : Hid _ := fun W g => qTop_calls t b len' cap' ys f W g hm' (by omega) (by omega)
 clear hs ht h0 hbx hby he hf
 generalize e + (blen (val xs) : Int) - 1 = t1 at *
 generalize f + (blen (val ys) : Int) - 1 = t2 at *
 have hne : (t1 == t2) = false := by simp; omega
 obtain ⟨k0, k1, k2, k3, k4, k5⟩ := fX9 w s a len cap e t b len' cap' f _ rfl
 clear h h' hm hm'
 go_enter Tryz.func28, Tryz.ntmps28
 go_upto_region 1 with fail
 generalize ((w.alloc (.cells #[.bool s, .slice a len cap, .int .i64 e] 25)).alloc (.cells #[.bool t, .slice b len' cap', .int .i64 f] 25)) = w0 at *
 have bd : Below w0.heap.size w0 w0.drew := (Below.refl _ _).drew
 refine wp_region_held (S := fun w' => w'.cell? ⟨w.heap.size, 0, none⟩ = some (.bool s) ∧ w'.cell? ⟨w.heap.size, 1, none⟩ = some (.slice a len cap) ∧ w'.cell? ⟨w.heap.size, 2, none⟩ = some (.int .i64 e) ∧ w'.cell? ⟨w.heap.size + 1, 0, none⟩ = some (.bool t) ∧ w'.cell? ⟨w.heap.size + 1, 1, none⟩ = some (.slice b len' cap') ∧ w'.cell? ⟨w.heap.size + 1, 2, none⟩ = some (.int .i64 f)) (by kernel_rfl) ?_
 change wpAnyH _ _ _ _ _ _ _ _ (World.drew w0)
 revert k0 k1 k2 k3 k4 k5; refine cc6 bd ?_; intro k0 k1 k2 k3 k4 k5
 replace bw := nT bw bd
 clear bd
 generalize World.drew w0 = wd7 at *
 refine tk 0 (?vt7_0) rfl (by kernel_rfl) (fun _ _ _ h => h) (by rfl) ?yt7_0 ⟨k0, k1, k2, k3, k4, k5⟩ ?rt7_0
 case yt7_0 => (rintro ww ⟨q0, q1, q2, q3, q4, q5⟩; go_simp; try with_reducible rfl)
 try simp only [Act.put]
 refine tk 2 (?vt7_2) rfl (by kernel_rfl) (fun _ _ _ h => h) (by rfl) ?yt7_2 ⟨k0, k1, k2, k3, k4, k5⟩ ?rt7_2
 case yt7_2 => (rintro ww ⟨q0, q1, q2, q3, q4, q5⟩; go_simp; try with_reducible rfl)
 try simp only [Act.put]
 refine rd1 1 (by kernel_rfl) rfl fun K hK => ?_
 go_simp
 refine cM (HS1.out _ (H1.out.keep bw)) ?_
 rintro r w1 ⟨rfl, bN⟩
 revert k0 k1 k2 k3 k4 k5; refine cc6 bN ?_; intro k0 k1 k2 k3 k4 k5
 refine hK.out _ _ ⟨k0, k1, k2, k3, k4, k5⟩ (fun _ => ?_)
 clear hK K
 replace bw := nT bw bN
 clear bN
 try simp only [Act.put, sA, sZ, sS]
 refine rd1 3 (by kernel_rfl) rfl fun K hK => ?_
 go_simp
 refine cM (HS2.out _ (H2.out.keep bw)) ?_
 rintro r w2 ⟨rfl, bN⟩
 revert k0 k1 k2 k3 k4 k5; refine cc6 bN ?_; intro k0 k1 k2 k3 k4 k5
 refine hK.out _ _ ⟨k0, k1, k2, k3, k4, k5⟩ (fun _ => ?_)
 clear hK K
 replace bw := nT bw bN
 clear bN
 try simp only [Act.put, sA, sZ, sS]
 refine rd1 4 (by kernel_rfl) rfl fun K hK => ?_
 go_simp
 refine hK.out _ _ ⟨k0, k1, k2, k3, k4, k5⟩ (fun _ => ?_)
 clear hK K
 try simp only [Act.put, sA, sZ, sS]
 refine rd1 5 (by kernel_rfl) rfl fun K hK => ?_
 go_simp
 refine hK.out _ _ ⟨k0, k1, k2, k3, k4, k5⟩ (fun _ => ?_)
 clear hK K
 try simp only [Act.put, sA, sZ, sS]
 refine wpAnyH_done (by kernel_rfl) ?_ _
 go_wp2_with fail
 have bd : Below w2.heap.size w2 w2.drew := (Below.refl _ _).drew
 refine wp_region_held (S := fun w' => w'.cell? ⟨w.heap.size, 0, none⟩ = some (.bool s) ∧ w'.cell? ⟨w.heap.size, 1, none⟩ = some (.slice a len cap) ∧ w'.cell? ⟨w.heap.size, 2, none⟩ = some (.int .i64 e) ∧ w'.cell? ⟨w.heap.size + 1, 0, none⟩ = some (.bool t) ∧ w'.cell? ⟨w.heap.size + 1, 1, none⟩ = some (.slice b len' cap') ∧ w'.cell? ⟨w.heap.size + 1, 2, none⟩ = some (.int .i64 f)) (by kernel_rfl) ?_
 change wpAnyH _ _ _ _ _ _ _ _ (World.drew w2)
 revert k0 k1 k2 k3 k4 k5; refine cc6 bd ?_; intro k0 k1 k2 k3 k4 k5
 replace bw := nT bw bd
 clear bd
 generalize World.drew w2 = wd6 at *
 refine tk 0 (?vt6_0) rfl (by kernel_rfl) (fun _ _ _ h => h) (by rfl) ?yt6_0 ⟨k0, k1, k2, k3, k4, k5⟩ ?rt6_0
 case yt6_0 => (rintro ww ⟨q0, q1, q2, q3, q4, q5⟩; go_simp; try with_reducible rfl)
 try simp only [Act.put]
 refine tk 2 (?vt6_2) rfl (by kernel_rfl) (fun _ _ _ h => h) (by rfl) ?yt6_2 ⟨k0, k1, k2, k3, k4, k5⟩ ?rt6_2
 case yt6_2 => (rintro ww ⟨q0, q1, q2, q3, q4, q5⟩; go_simp; try with_reducible rfl)
 try simp only [Act.put]
 refine rd1 1 (by kernel_rfl) rfl fun K hK => ?_
 go_simp
 refine cM (HT1.out _ (H1.out.keep bw)) ?_
 rintro r w3 ⟨rfl, bN⟩
 revert k0 k1 k2 k3 k4 k5; refine cc6 bN ?_; intro k0 k1 k2 k3 k4 k5
 refine hK.out _ _ ⟨k0, k1, k2, k3, k4, k5⟩ (fun _ => ?_)
 clear hK K
 replace bw := nT bw bN
 clear bN
 try simp only [Act.put, sA, sZ, sS]
 refine rd1 3 (by kernel_rfl) rfl fun K hK => ?_
 go_simp
 refine cM (HT2.out _ (H2.out.keep bw)) ?_
 rintro r w4 ⟨rfl, bN⟩
 revert k0 k1 k2 k3 k4 k5; refine cc6 bN ?_; intro k0 k1 k2 k3 k4 k5
 refine hK.out _ _ ⟨k0, k1, k2, k3, k4, k5⟩ (fun _ => ?_)
 clear hK K
 replace bw := nT bw bN
 clear bN
 try simp only [Act.put, sA, sZ, sS]
 refine rd1 4 (by kernel_rfl) rfl fun K hK => ?_
 go_simp
 refine hK.out _ _ ⟨k0, k1, k2, k3, k4, k5⟩ (fun _ => ?_)
 clear hK K
 try simp only [Act.put, sA, sZ, sS]
 refine rd1 5 (by kernel_rfl) rfl fun K hK => ?_
 go_simp
 refine hK.out _ _ ⟨k0, k1, k2, k3, k4, k5⟩ (fun _ => ?_)
 clear hK K
 try simp only [Act.put, sA, sZ, sS]
 refine wpAnyH_done (by kernel_rfl) ?_ _
 go_wp2_with fail
 go_ret
 exact ⟨rfl, bw⟩
theorem qorder_low (s : Bool) (a : Option Addr) (len cap : Nat) (xs : List Int) (e : Int) (t : Bool) (b : Option Addr) (len' cap' : Nat) (ys : List Int) (f : Int) (w : World) (h : IsW w a len cap xs) (hm : len ≤ 17592186044000) (h' : IsW w b len' cap' ys) (hm' : len' ≤ 17592186044000) (he : -5000000 ≤ e ∧ e ≤ 5000000) (hf : -5000000 ≤ f ∧ f ≤ 5000000) (hbx : blen (val xs) ≤ 5000000) (hby : blen (val ys) ≤ 5000000) (sg : Int) (hs : sgnQ s (val xs) = sg) (ht : sgnQ t (val ys) = sg) (h0 : sg ≠ 0) (hr : -1 ≤ sg ∧ sg ≤ 1) (hg : e + (blen (val xs) : Int) - 1 < f + (blen (val ys) : Int) - 1) :
  Calls Tryz.prog 28 #[dyV s a len cap e, dyV t b len' cap' f] w fun r w' => r = .returned (.int .i64 (-sg)) ∧ Below w.heap.size w w' := by
 have bw : Below w.heap.size w ((w.alloc (.cells #[.bool s, .slice a len cap, .int .i64 e] 25)).alloc (.cells #[.bool t, .slice b len' cap', .int .i64 f] 25)) := by repeat (first | exact Below.refl _ _ | refine bl_alloc ?_ _)
 have HS1 : Hid _ := fun W g => qSign_calls s a len cap xs e W g hm
 have HS2 : Hid _ := fun W g => qSign_calls t b len' cap' ys f W g hm'
 have H1 : Hid (IsW w a len cap xs) := h
 have H2 : Hid (IsW w b len' cap' ys) := h'
 rw [hs] at HS1
 rw [ht] at HS2
 have hz : (sg == 0) = false := by simp [h0]
 have HT1 : Hid _ := fun W g => qTop_calls s a len cap xs e W g hm (by omega) (by omega)
 have HT2 : Hid _ := fun W g => qTop_calls t b len' cap' ys f W g hm' (by omega) (by omega)
 clear hs ht h0 hbx hby he hf
 generalize e + (blen (val xs) : Int) - 1 = t1 at *
 generalize f + (blen (val ys) : Int) - 1 = t2 at *
 have hne : (t1 == t2) = false := by simp; omega
 have hng : ¬ t2 < t1 := by omega
 have hwn : IntKind.i64.wrap (-sg) = -sg := by rw [IntKind.wrap_i64]; omega
 obtain ⟨k0, k1, k2, k3, k4, k5⟩ := fX9 w s a len cap e t b len' cap' f _ rfl
 clear h h' hm hm'
 go_enter Tryz.func28, Tryz.ntmps28
 go_upto_region 1 with fail
 generalize ((w.alloc (.cells #[.bool s, .slice a len cap, .int .i64 e] 25)).alloc (.cells #[.bool t, .slice b len' cap', .int .i64 f] 25)) = w0 at *
 have bd : Below w0.heap.size w0 w0.drew := (Below.refl _ _).drew
 refine wp_region_held (S := fun w' => w'.cell? ⟨w.heap.size, 0, none⟩ = some (.bool s) ∧ w'.cell? ⟨w.heap.size, 1, none⟩ = some (.slice a len cap) ∧ w'.cell? ⟨w.heap.size, 2, none⟩ = some (.int .i64 e) ∧ w'.cell? ⟨w.heap.size + 1, 0, none⟩ = some (.bool t) ∧ w'.cell? ⟨w.heap.size + 1, 1, none⟩ = some (.slice b len' cap') ∧ w'.cell? ⟨w.heap.size + 1, 2, none⟩ = some (.int .i64 f)) (by kernel_rfl) ?_
 change wpAnyH _ _ _ _ _ _ _ _ (World.drew w0)
 revert k0 k1 k2 k3 k4 k5; refine cc6 bd ?_; intro k0 k1 k2 k3 k4 k5
 replace bw := nT bw bd
 clear bd
 generalize World.drew w0 = wd8 at *
 refine tk 0 (?vt8_0) rfl (by kernel_rfl) (fun _ _ _ h => h) (by rfl) ?yt8_0 ⟨k0, k1, k2, k3, k4, k5⟩ ?rt8_0
 case yt8_0 => (rintro ww ⟨q0, q1, q2, q3, q4, q5⟩; go_simp; try with_reducible rfl)
 try simp only [Act.put]
 refine tk 2 (?vt8_2) rfl (by kernel_rfl) (fun _ _ _ h => h) (by rfl) ?yt8_2 ⟨k0, k1, k2, k3, k4, k5⟩ ?rt8_2
 case yt8_2 => (rintro ww ⟨q0, q1, q2, q3, q4, q5⟩; go_simp; try with_reducible rfl)
 try simp only [Act.put]
 refine rd1 1 (by kernel_rfl) rfl fun K hK => ?_
 go_simp
 refine cM (HS1.out _ (H1.out.keep bw)) ?_
 rintro r w1 ⟨rfl, bN⟩
 revert k0 k1 k2 k3 k4 k5; refine cc6 bN ?_; intro k0 k1 k2 k3 k4 k5
 refine hK.out _ _ ⟨k0, k1, k2, k3, k4, k5⟩ (fun _ => ?_)
 clear hK K
 replace bw := nT bw bN
 clear bN
 try simp only [Act.put, sA, sZ, sS]
 refine rd1 3 (by kernel_rfl) rfl fun K hK => ?_
 go_simp
 refine cM (HS2.out _ (H2.out.keep bw)) ?_
 rintro r w2 ⟨rfl, bN⟩
 revert k0 k1 k2 k3 k4 k5; refine cc6 bN ?_; intro k0 k1 k2 k3 k4 k5
 refine hK.out _ _ ⟨k0, k1, k2, k3, k4, k5⟩ (fun _ => ?_)
 clear hK K
 replace bw := nT bw bN
 clear bN
 try simp only [Act.put, sA, sZ, sS]
 refine rd1 4 (by kernel_rfl) rfl fun K hK => ?_
 go_simp
 refine hK.out _ _ ⟨k0, k1, k2, k3, k4, k5⟩ (fun _ => ?_)
 clear hK K
 try simp only [Act.put, sA, sZ, sS]
 refine rd1 5 (by kernel_rfl) rfl fun K hK => ?_
 go_simp
 refine hK.out _ _ ⟨k0, k1, k2, k3, k4, k5⟩ (fun _ => ?_)
 clear hK K
 try simp only [Act.put, sA, sZ, sS]
 refine wpAnyH_done (by kernel_rfl) ?_ _
 go_wp2_with fail
 have bd : Below w2.heap.size w2 w2.drew := (Below.refl _ _).drew
 refine wp_region_held (S := fun w' => w'.cell? ⟨w.heap.size, 0, none⟩ = some (.bool s) ∧ w'.cell? ⟨w.heap.size, 1, none⟩ = some (.slice a len cap) ∧ w'.cell? ⟨w.heap.size, 2, none⟩ = some (.int .i64 e) ∧ w'.cell? ⟨w.heap.size + 1, 0, none⟩ = some (.bool t) ∧ w'.cell? ⟨w.heap.size + 1, 1, none⟩ = some (.slice b len' cap') ∧ w'.cell? ⟨w.heap.size + 1, 2, none⟩ = some (.int .i64 f)) (by kernel_rfl) ?_
 change wpAnyH _ _ _ _ _ _ _ _ (World.drew w2)
 revert k0 k1 k2 k3 k4 k5; refine cc6 bd ?_; intro k0 k1 k2 k3 k4 k5
 replace bw := nT bw bd
 clear bd
 generalize World.drew w2 = wd6 at *
 refine tk 0 (?vt6_0) rfl (by kernel_rfl) (fun _ _ _ h => h) (by rfl) ?yt6_0 ⟨k0, k1, k2, k3, k4, k5⟩ ?rt6_0
 case yt6_0 => (rintro ww ⟨q0, q1, q2, q3, q4, q5⟩; go_simp; try with_reducible rfl)
 try simp only [Act.put]
 refine tk 2 (?vt6_2) rfl (by kernel_rfl) (fun _ _ _ h => h) (by rfl) ?yt6_2 ⟨k0, k1, k2, k3, k4, k5⟩ ?rt6_2
 case yt6_2 => (rintro ww ⟨q0, q1, q2, q3, q4, q5⟩; go_simp; try with_reducible rfl)
 try simp only [Act.put]
 refine rd1 1 (by kernel_rfl) rfl fun K hK => ?_
 go_simp
 refine cM (HT1.out _ (H1.out.keep bw)) ?_
 rintro r w3 ⟨rfl, bN⟩
 revert k0 k1 k2 k3 k4 k5; refine cc6 bN ?_; intro k0 k1 k2 k3 k4 k5
 refine hK.out _ _ ⟨k0, k1, k2, k3, k4, k5⟩ (fun _ => ?_)
 clear hK K
 replace bw := nT bw bN
 clear bN
 try simp only [Act.put, sA, sZ, sS]
 refine rd1 3 (by kernel_rfl) rfl fun K hK => ?_
 go_simp
 refine cM (HT2.out _ (H2.out.keep bw)) ?_
 rintro r w4 ⟨rfl, bN⟩
 revert k0 k1 k2 k3 k4 k5; refine cc6 bN ?_; intro k0 k1 k2 k3 k4 k5
 refine hK.out _ _ ⟨k0, k1, k2, k3, k4, k5⟩ (fun _ => ?_)
 clear hK K
 replace bw := nT bw bN
 clear bN
 try simp only [Act.put, sA, sZ, sS]
 refine rd1 4 (by kernel_rfl) rfl fun K hK => ?_
 go_simp
 refine hK.out _ _ ⟨k0, k1, k2, k3, k4, k5⟩ (fun _ => ?_)
 clear hK K
 try simp only [Act.put, sA, sZ, sS]
 refine rd1 5 (by kernel_rfl) rfl fun K hK => ?_
 go_simp
 refine hK.out _ _ ⟨k0, k1, k2, k3, k4, k5⟩ (fun _ => ?_)
 clear hK K
 try simp only [Act.put, sA, sZ, sS]
 refine wpAnyH_done (by kernel_rfl) ?_ _
 go_wp2_with fail
 go_ret
 exact ⟨rfl, bw⟩
theorem qorder_less (s : Bool) (a : Option Addr) (len cap : Nat) (xs : List Int) (e : Int) (t : Bool) (b : Option Addr) (len' cap' : Nat) (ys : List Int) (f : Int) (w : World) (h : IsW w a len cap xs) (hm : len ≤ 17592186044000) (h' : IsW w b len' cap' ys) (hm' : len' ≤ 17592186044000) (he : -5000000 ≤ e ∧ e ≤ 5000000) (hf : -5000000 ≤ f ∧ f ≤ 5000000) (hbx : blen (val xs) ≤ 5000000) (hby : blen (val ys) ≤ 5000000) (sg : Int) (hs : sgnQ s (val xs) = sg) (ht : sgnQ t (val ys) = sg) (h0 : sg ≠ 0) (_hr : -1 ≤ sg ∧ sg ≤ 1) (hg : e + (blen (val xs) : Int) - 1 = f + (blen (val ys) : Int) - 1) :
  Calls Tryz.prog 28 #[dyV s a len cap e, dyV t b len' cap' f] w fun r w' => r = .returned (.int .i64 (sgnD (sumD (formD s (val xs) e) (negD (formD t (val ys) f))))) ∧ Below w.heap.size w w' := by
 have bw : Below w.heap.size w ((w.alloc (.cells #[.bool s, .slice a len cap, .int .i64 e] 25)).alloc (.cells #[.bool t, .slice b len' cap', .int .i64 f] 25)) := by repeat (first | exact Below.refl _ _ | refine bl_alloc ?_ _)
 have HS1 : Hid _ := fun W g => qSign_calls s a len cap xs e W g hm
 have HS2 : Hid _ := fun W g => qSign_calls t b len' cap' ys f W g hm'
 have H1 : Hid (IsW w a len cap xs) := h
 have H2 : Hid (IsW w b len' cap' ys) := h'
 rw [hs] at HS1
 rw [ht] at HS2
 have hz : (sg == 0) = false := by simp [h0]
 have HT1 : Hid _ := fun W g => qTop_calls s a len cap xs e W g hm (by omega) (by omega)
 have HT2 : Hid _ := fun W g => qTop_calls t b len' cap' ys f W g hm' (by omega) (by omega)
 have HLE : Hid _ := fun W g g' => qLess_calls s a len cap xs e t b len' cap' ys f W g hm g' hm' he hf hbx hby
 rw [form_turn] at HLE
 have HLN : Hid ((wO (sumD (formD s (val xs) e) (negD (formD t (val ys) f))).2.1).length ≤ 2000001) := by
  have h1 : blen (formD s (val xs) e).2.1 ≤ 5000000 := Nat.le_trans (blen_mono (form_amount_le _ _ _)) hbx
  have h2 : blen (formD t (val ys) f).2.1 ≤ 5000000 := Nat.le_trans (blen_mono (form_amount_le _ _ _)) hby
  have h3 := form_expc s (val xs) e hbx he
  have h4 := form_expc t (val ys) f hby hf
  exact sumlen _ _ (by omega) (by show blen (formD t (val ys) f).2.1 ≤ _; omega) (by omega) (by show _ ≤ (formD t (val ys) f).2.2 ∧ (formD t (val ys) f).2.2 ≤ _; omega)
 generalize sumD (formD s (val xs) e) (negD (formD t (val ys) f)) = p at *
 have HSP : Hid _ := fun a' n' c' W g (q : n' ≤ 2000001) => qSign_calls p.1 a' n' c' (wO p.2.1) p.2.2 W g (by omega)
 rw [val_words] at HSP
 rw [hg] at HT1
 clear hs ht h0 hg hbx hby he hf
 generalize f + (blen (val ys) : Int) - 1 = t2 at *
 obtain ⟨k0, k1, k2, k3, k4, k5⟩ := fX9 w s a len cap e t b len' cap' f _ rfl
 clear h h' hm hm'
 go_enter Tryz.func28, Tryz.ntmps28
 go_upto_region 1 with fail
 generalize ((w.alloc (.cells #[.bool s, .slice a len cap, .int .i64 e] 25)).alloc (.cells #[.bool t, .slice b len' cap', .int .i64 f] 25)) = w0 at *
 have bd : Below w0.heap.size w0 w0.drew := (Below.refl _ _).drew
 refine wp_region_held (S := fun w' => w'.cell? ⟨w.heap.size, 0, none⟩ = some (.bool s) ∧ w'.cell? ⟨w.heap.size, 1, none⟩ = some (.slice a len cap) ∧ w'.cell? ⟨w.heap.size, 2, none⟩ = some (.int .i64 e) ∧ w'.cell? ⟨w.heap.size + 1, 0, none⟩ = some (.bool t) ∧ w'.cell? ⟨w.heap.size + 1, 1, none⟩ = some (.slice b len' cap') ∧ w'.cell? ⟨w.heap.size + 1, 2, none⟩ = some (.int .i64 f)) (by kernel_rfl) ?_
 change wpAnyH _ _ _ _ _ _ _ _ (World.drew w0)
 revert k0 k1 k2 k3 k4 k5; refine cc6 bd ?_; intro k0 k1 k2 k3 k4 k5
 replace bw := nT bw bd
 clear bd
 generalize World.drew w0 = wd9 at *
 refine tk 0 (?vt9_0) rfl (by kernel_rfl) (fun _ _ _ h => h) (by rfl) ?yt9_0 ⟨k0, k1, k2, k3, k4, k5⟩ ?rt9_0
 case yt9_0 => (rintro ww ⟨q0, q1, q2, q3, q4, q5⟩; go_simp; try with_reducible rfl)
 try simp only [Act.put]
 refine tk 2 (?vt9_2) rfl (by kernel_rfl) (fun _ _ _ h => h) (by rfl) ?yt9_2 ⟨k0, k1, k2, k3, k4, k5⟩ ?rt9_2
 case yt9_2 => (rintro ww ⟨q0, q1, q2, q3, q4, q5⟩; go_simp; try with_reducible rfl)
 try simp only [Act.put]
 refine rd1 1 (by kernel_rfl) rfl fun K hK => ?_
 go_simp
 refine cM (HS1.out _ (H1.out.keep bw)) ?_
 rintro r w1 ⟨rfl, bN⟩
 revert k0 k1 k2 k3 k4 k5; refine cc6 bN ?_; intro k0 k1 k2 k3 k4 k5
 refine hK.out _ _ ⟨k0, k1, k2, k3, k4, k5⟩ (fun _ => ?_)
 clear hK K
 replace bw := nT bw bN
 clear bN
 try simp only [Act.put, sA, sZ, sS]
 refine rd1 3 (by kernel_rfl) rfl fun K hK => ?_
 go_simp
 refine cM (HS2.out _ (H2.out.keep bw)) ?_
 rintro r w2 ⟨rfl, bN⟩
 revert k0 k1 k2 k3 k4 k5; refine cc6 bN ?_; intro k0 k1 k2 k3 k4 k5
 refine hK.out _ _ ⟨k0, k1, k2, k3, k4, k5⟩ (fun _ => ?_)
 clear hK K
 replace bw := nT bw bN
 clear bN
 try simp only [Act.put, sA, sZ, sS]
 refine rd1 4 (by kernel_rfl) rfl fun K hK => ?_
 go_simp
 refine hK.out _ _ ⟨k0, k1, k2, k3, k4, k5⟩ (fun _ => ?_)
 clear hK K
 try simp only [Act.put, sA, sZ, sS]
 refine rd1 5 (by kernel_rfl) rfl fun K hK => ?_
 go_simp
 refine hK.out _ _ ⟨k0, k1, k2, k3, k4, k5⟩ (fun _ => ?_)
 clear hK K
 try simp only [Act.put, sA, sZ, sS]
 refine wpAnyH_done (by kernel_rfl) ?_ _
 go_wp2_with fail
 have bd : Below w2.heap.size w2 w2.drew := (Below.refl _ _).drew
 refine wp_region_held (S := fun w' => w'.cell? ⟨w.heap.size, 0, none⟩ = some (.bool s) ∧ w'.cell? ⟨w.heap.size, 1, none⟩ = some (.slice a len cap) ∧ w'.cell? ⟨w.heap.size, 2, none⟩ = some (.int .i64 e) ∧ w'.cell? ⟨w.heap.size + 1, 0, none⟩ = some (.bool t) ∧ w'.cell? ⟨w.heap.size + 1, 1, none⟩ = some (.slice b len' cap') ∧ w'.cell? ⟨w.heap.size + 1, 2, none⟩ = some (.int .i64 f)) (by kernel_rfl) ?_
 change wpAnyH _ _ _ _ _ _ _ _ (World.drew w2)
 revert k0 k1 k2 k3 k4 k5; refine cc6 bd ?_; intro k0 k1 k2 k3 k4 k5
 replace bw := nT bw bd
 clear bd
 generalize World.drew w2 = wd6 at *
 refine tk 0 (?vt6_0) rfl (by kernel_rfl) (fun _ _ _ h => h) (by rfl) ?yt6_0 ⟨k0, k1, k2, k3, k4, k5⟩ ?rt6_0
 case yt6_0 => (rintro ww ⟨q0, q1, q2, q3, q4, q5⟩; go_simp; try with_reducible rfl)
 try simp only [Act.put]
 refine tk 2 (?vt6_2) rfl (by kernel_rfl) (fun _ _ _ h => h) (by rfl) ?yt6_2 ⟨k0, k1, k2, k3, k4, k5⟩ ?rt6_2
 case yt6_2 => (rintro ww ⟨q0, q1, q2, q3, q4, q5⟩; go_simp; try with_reducible rfl)
 try simp only [Act.put]
 refine rd1 1 (by kernel_rfl) rfl fun K hK => ?_
 go_simp
 refine cM (HT1.out _ (H1.out.keep bw)) ?_
 rintro r w3 ⟨rfl, bN⟩
 revert k0 k1 k2 k3 k4 k5; refine cc6 bN ?_; intro k0 k1 k2 k3 k4 k5
 refine hK.out _ _ ⟨k0, k1, k2, k3, k4, k5⟩ (fun _ => ?_)
 clear hK K
 replace bw := nT bw bN
 clear bN
 try simp only [Act.put, sA, sZ, sS]
 refine rd1 3 (by kernel_rfl) rfl fun K hK => ?_
 go_simp
 refine cM (HT2.out _ (H2.out.keep bw)) ?_
 rintro r w4 ⟨rfl, bN⟩
 revert k0 k1 k2 k3 k4 k5; refine cc6 bN ?_; intro k0 k1 k2 k3 k4 k5
 refine hK.out _ _ ⟨k0, k1, k2, k3, k4, k5⟩ (fun _ => ?_)
 clear hK K
 replace bw := nT bw bN
 clear bN
 try simp only [Act.put, sA, sZ, sS]
 refine rd1 4 (by kernel_rfl) rfl fun K hK => ?_
 go_simp
 refine hK.out _ _ ⟨k0, k1, k2, k3, k4, k5⟩ (fun _ => ?_)
 clear hK K
 try simp only [Act.put, sA, sZ, sS]
 refine rd1 5 (by kernel_rfl) rfl fun K hK => ?_
 go_simp
 refine hK.out _ _ ⟨k0, k1, k2, k3, k4, k5⟩ (fun _ => ?_)
 clear hK K
 try simp only [Act.put, sA, sZ, sS]
 refine wpAnyH_done (by kernel_rfl) ?_ _
 go_wp2_with fail
 refine cM (HLE.out _ (H1.out.keep bw) (H2.out.keep bw)) ?_
 rintro r w5 ⟨_, rfl, ⟨a5, n5, c5, rfl, HN5, hO5⟩, bN⟩
 replace bw := nT bw bN
 have hn5 : n5 ≤ 2000001 := by rw [HN5.out]; exact HLN.out
 clear bN k0 k1 k2 k3 k4 k5
 go_wp2_with fail
 refine cM (HSP.out _ _ _ _ hO5.1 hn5) ?_
 rintro r w6 ⟨rfl, bN⟩
 replace bw := nT bw bN
 clear bN
 go_wp2_with fail
 go_ret
 exact ⟨rfl, bw⟩
theorem sgnQ_range (s : Bool) (m : Nat) : -1 ≤ sgnQ s m ∧ sgnQ s m ≤ 1 := by
 unfold sgnQ; split
 ·omega
 ·split <;> omega
theorem top_form (s : Bool) {m : Nat} (e : Int) (h0 : m ≠ 0) : (formD s m e).2.2 + (blen (formD s m e).2.1 : Int) - 1 = e + (blen m : Int) - 1 := by
 have := blen_odd h0
 rw [form_pos s h0]
 show e + (tz m : Int) + (blen (m / 2 ^ tz m) : Int) - 1 = _
 omega
theorem sgnD_nz {p : Bool × Nat × Int} (h : p.2.1 ≠ 0) : sgnD p = if p.1 = true then -1 else 1 := by unfold sgnD; rw [if_neg h]
theorem cmpN_turn (a b : Nat) : -(cmpN a b) = cmpN b a := by
 unfold cmpN
 rcases Nat.lt_trichotomy a b with h | h | h
 ·rw [if_pos h, if_neg (show ¬ b < a by omega), if_pos h]; rfl
 ·subst h; rw [if_neg (Nat.lt_irrefl _), if_neg (Nat.lt_irrefl _)]; rfl
 ·rw [if_neg (show ¬ a < b by omega), if_pos h, if_pos h]
theorem cmp_less (x y : Bool × Nat × Int) (hx : x.2.1 ≠ 0) (hy : y.2.1 ≠ 0) (hs : sgnD x = sgnD y) (ht : x.2.2 + (blen x.2.1 : Int) - 1 = y.2.2 + (blen y.2.1 : Int) - 1) : sgnD (sumD x (negD y)) = cmpD x y := by
 have hss : x.1 = y.1 := by
  rw [sgnD_nz hx, sgnD_nz hy] at hs
  cases h1 : x.1 <;> cases h2 : y.1 <;> rw [h1, h2] at hs <;> first | rfl | exact absurd hs (by decide)
 have hn1 : (negD y).1 = !y.1 := by unfold negD; rw [decide_eq_false hy]; simp
 obtain ⟨ee, hee⟩ : ∃ ee : Int, min x.2.2 (negD y).2.2 = ee := ⟨_, rfl⟩
 have hee' : min x.2.2 y.2.2 = ee := hee
 obtain ⟨i, hi⟩ : ∃ i : Nat, x.2.2 - ee = (i : Int) := ⟨(x.2.2 - ee).toNat, by omega⟩
 obtain ⟨j, hj⟩ : ∃ j : Nat, (negD y).2.2 - ee = (j : Int) := ⟨((negD y).2.2 - ee).toNat, by show y.2.2 - ee = _; have : (negD y).2.2 = y.2.2 := rfl; rw [this]; omega⟩
 have hj' : y.2.2 - ee = (j : Int) := hj
 have key : amtD x.2.1 x.2.2 y.2.1 y.2.2 = cmpN (x.2.1 * 2 ^ i) (y.2.1 * 2 ^ j) := by
  unfold amtD
  rw [if_neg (by omega)]
  by_cases hl : x.2.2 < y.2.2
  ·rw [if_pos hl, show (y.2.2 - x.2.2).toNat = j by omega, show i = 0 by omega, Nat.pow_zero, Nat.mul_one]
   exact cmpN_turn _ _
  ·rw [if_neg hl, show (x.2.2 - y.2.2).toNat = i by omega, show j = 0 by omega, Nat.pow_zero, Nat.mul_one]
 unfold cmpD
 rw [if_neg (by simpa using hs), if_neg hx, key, plus_q x (negD y) hx hy ee hee i hi j hj, hn1]
 rw [if_neg (by rw [hss]; cases y.1 <;> decide)]
 show sgnD (if y.2.1 * 2 ^ j ≤ x.2.1 * 2 ^ i then formD x.1 (x.2.1 * 2 ^ i - y.2.1 * 2 ^ j) ee else formD (!y.1) (y.2.1 * 2 ^ j - x.2.1 * 2 ^ i) ee) = _
 rw [sgnD_nz hx]
 generalize x.2.1 * 2 ^ i = M
 generalize y.2.1 * 2 ^ j = N
 by_cases hc : N ≤ M
 ·rw [if_pos hc, sgnQ_form]
  unfold sgnQ cmpN
  rw [if_neg (show ¬ M < N by omega)]
  by_cases h0 : M - N = 0
  ·rw [if_pos h0, if_neg (show ¬ N < M by omega)]; simp
  ·rw [if_neg h0, if_pos (show N < M by omega)]; simp
 ·rw [if_neg hc, sgnQ_form]
  unfold sgnQ cmpN
  rw [if_pos (show M < N by omega), if_neg (show ¬ N - M = 0 by omega), ← hss]
  cases x.1 <;> decide
theorem qOrder_calls (s : Bool) (a : Option Addr) (len cap : Nat) (xs : List Int) (e : Int) (t : Bool) (b : Option Addr) (len' cap' : Nat) (ys : List Int) (f : Int) (w : World) (h : IsW w a len cap xs) (hm : len ≤ 17592186044000) (h' : IsW w b len' cap' ys) (hm' : len' ≤ 17592186044000) (he : -5000000 ≤ e ∧ e ≤ 5000000) (hf : -5000000 ≤ f ∧ f ≤ 5000000) (hbx : blen (val xs) ≤ 5000000) (hby : blen (val ys) ≤ 5000000) :
  Calls Tryz.prog 28 #[dyV s a len cap e, dyV t b len' cap' f] w fun r w' => r = .returned (.int .i64 (cmpD (formD s (val xs) e) (formD t (val ys) f))) ∧ Below w.heap.size w w' := by
 have e1 := sgnQ_form s (val xs) e
 have e2 := sgnQ_form t (val ys) f
 by_cases hs : sgnQ s (val xs) = sgnQ t (val ys)
 ·by_cases h0 : val xs = 0
  ·have z1 : sgnQ s (val xs) = 0 := by unfold sgnQ; rw [if_pos h0]
   have hc : cmpD (formD s (val xs) e) (formD t (val ys) f) = 0 := by
    unfold cmpD
    rw [e1, e2, if_neg (by simpa using hs), if_pos (by rw [h0, form_zero])]
   rw [hc]
   exact qorder_zero s a len cap xs e t b len' cap' ys f w h hm h' hm' z1 (hs ▸ z1)
  ·have hz : sgnQ s (val xs) ≠ 0 := by unfold sgnQ; rw [if_neg h0]; split <;> decide
   have h0' : val ys ≠ 0 := fun q => hz (by rw [hs]; unfold sgnQ; rw [if_pos q])
   have m1 : (formD s (val xs) e).2.1 ≠ 0 := by rw [form_pos s h0]; intro q; have := (odd_part h0).1; have q' : val xs / 2 ^ tz (val xs) = 0 := q; rw [q'] at this; exact absurd this (by decide)
   have m2 : (formD t (val ys) f).2.1 ≠ 0 := by rw [form_pos t h0']; intro q; have := (odd_part h0').1; have q' : val ys / 2 ^ tz (val ys) = 0 := q; rw [q'] at this; exact absurd this (by decide)
   have t1 := top_form s e h0
   have t2 := top_form t f h0'
   rcases Int.lt_trichotomy (e + (blen (val xs) : Int) - 1) (f + (blen (val ys) : Int) - 1) with q | q | q
   ·have hc : cmpD (formD s (val xs) e) (formD t (val ys) f) = -sgnQ s (val xs) := by
     unfold cmpD amtD Lib.compareInt
     rw [e1, e2, if_neg (by simpa using hs), if_neg m1, t1, t2, if_pos (by omega), if_pos (by omega)]
     omega
    rw [hc]
    exact qorder_low s a len cap xs e t b len' cap' ys f w h hm h' hm' he hf hbx hby _ rfl hs.symm hz (sgnQ_range _ _) q
   ·rw [← cmp_less (formD s (val xs) e) (formD t (val ys) f) m1 m2 (by rw [e1, e2]; exact hs) (by rw [t1, t2]; exact q)]
    exact qorder_less s a len cap xs e t b len' cap' ys f w h hm h' hm' he hf hbx hby _ rfl hs.symm hz (sgnQ_range _ _) q
   ·have hc : cmpD (formD s (val xs) e) (formD t (val ys) f) = sgnQ s (val xs) := by
     unfold cmpD amtD Lib.compareInt
     rw [e1, e2, if_neg (by simpa using hs), if_neg m1, t1, t2, if_pos (by omega), if_neg (by omega), if_pos (by omega)]
     omega
    rw [hc]
    exact qorder_top s a len cap xs e t b len' cap' ys f w h hm h' hm' he hf hbx hby _ rfl hs.symm hz (sgnQ_range _ _) q
 ·have hc : cmpD (formD s (val xs) e) (formD t (val ys) f) = Lib.compareInt (sgnQ s (val xs)) (sgnQ t (val ys)) := by
   unfold cmpD
   rw [e1, e2, if_pos hs]
  rw [hc]
  unfold Lib.compareInt
  by_cases q : sgnQ s (val xs) < sgnQ t (val ys)
  ·rw [if_pos q]
   exact qorder_lt s a len cap xs e t b len' cap' ys f w h hm h' hm' q
  ·rw [if_neg q, if_pos (by omega)]
   exact qorder_gt s a len cap xs e t b len' cap' ys f w h hm h' hm' (by omega)
end Go.Proofs.YtahpdcbmekgkfaaGreatDoor
