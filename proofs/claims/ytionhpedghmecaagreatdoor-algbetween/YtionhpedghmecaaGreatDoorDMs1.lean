/- The program's dyadic numbers: Size, Top. -/
import Derived.Test.YtionhpedghmecaaGreatDoorRD19
import Derived.Test.YtionhpedghmecaaGreatDoorDTm1
import Derived.Test.YtionhpedghmecaaGreatDoorFX
namespace Go.Proofs.YtionhpedghmecaaGreatDoor
open Go.RowKit
theorem form_nz (s : Bool) {m : Nat} (e : Int) (h0 : m ≠ 0) : (formD s m e).2.1 ≠ 0 := by
 have h1 := (odd_part h0).1
 rw [form_pos s h0]
 exact fun q => by have q' : m / 2 ^ tz m = 0 := q; rw [q'] at h1; exact absurd h1 (by decide)
set_option maxRecDepth 100000 in
set_option maxHeartbeats 2000000 in
theorem mtop_not (s : Bool) (a : Option Addr) (len cap : Nat) (xs : List Int) (e : Int) (w : World) (h : IsW w a len cap xs) (hm : len ≤ 17592186044000) (hr : rightB (val xs) e = false) :
  Calls Tryz.prog 77 #[.func (.func 78) #[] #[], dyV s a len cap e] w fun r w' => r = .returned (.tuple #[.int .i64 (0), .int .i64 (2)]) ∧ Below w.heap.size w w' := by
 have bw : Below w.heap.size w ((w.alloc (.cells #[.bool s, .slice a len cap, .int .i64 e] 27)).alloc (.cells #[.bool s, .slice a len cap, .int .i64 e] 27)) := by repeat (first | exact Below.refl _ _ | refine bl_alloc ?_ _)
 have HR : Hid _ := right1_calls (w.heap.size + 1) s a len cap xs e ((w.alloc (.cells #[.bool s, .slice a len cap, .int .i64 e] 27)).alloc (.cells #[.bool s, .slice a len cap, .int .i64 e] 27)) (h.keep bw) (by omega) (by go_simp) (by go_simp) (by go_simp)
 obtain ⟨k0, k1, k2⟩ := fX5 w s a len cap e
 have H1 : Hid (IsW w a len cap xs) := h
 rw [hr] at HR
 clear hr h hm k0 k1 k2
 go_enter Tryz.func77, Tryz.ntmps77
 go_wp2_with fail
 refine Calls.mono HR.out ?_
 rintro r w1 ⟨rfl, b1⟩
 replace bw := nT bw b1
 clear b1
 go_wp2_with fail
 go_ret2
 exact ⟨rfl, bw⟩
set_option maxRecDepth 100000 in
set_option maxHeartbeats 2000000 in
theorem mtop_zero (s : Bool) (a : Option Addr) (len cap : Nat) (xs : List Int) (e : Int) (w : World) (h : IsW w a len cap xs) (hm : len ≤ 17592186044000) (hT : Tab w) (hr : rightB (val xs) e = true) (h0 : val xs = 0) :
  Calls Tryz.prog 77 #[.func (.func 78) #[] #[], dyV s a len cap e] w fun r w' => r = .returned (.tuple #[.int .i64 (0), .int .i64 (5)]) ∧ Below w.heap.size w w' := by
 have bw : Below w.heap.size w ((w.alloc (.cells #[.bool s, .slice a len cap, .int .i64 e] 27)).alloc (.cells #[.bool s, .slice a len cap, .int .i64 e] 27)) := by repeat (first | exact Below.refl _ _ | refine bl_alloc ?_ _)
 have HR : Hid _ := right1_calls (w.heap.size + 1) s a len cap xs e ((w.alloc (.cells #[.bool s, .slice a len cap, .int .i64 e] 27)).alloc (.cells #[.bool s, .slice a len cap, .int .i64 e] 27)) (h.keep bw) (by omega) (by go_simp) (by go_simp) (by go_simp)
 obtain ⟨k0, k1, k2⟩ := fX5 w s a len cap e
 have H1 : Hid (IsW w a len cap xs) := h
 rw [hr] at HR
 have HC : Hid _ := fun W g t => canon_num s a len cap xs e W g (by omega) t hr
 have HT0 : Hid (∀ W, Below w.heap.size w W → Tab W) := fun W hW => hT.kept hW
 have hx : (formD s (val xs) e).2.1 = 0 := by rw [h0, form_zero]
 generalize (formD s (val xs) e) = x at *
 have HX : Hid _ := hx
 clear hx h0
 clear hr h hm hT
 go_enter Tryz.func77, Tryz.ntmps77
 go_wp2_with fail
 refine Calls.mono HR.out ?_
 rintro r w1 ⟨rfl, b1⟩
 replace bw := nT bw b1
 replace k0 := kC b1 k0
 replace k1 := kC b1 k1
 replace k2 := kC b1 k2
 clear b1
 go_wp2_with fail
 refine Calls.mono (HC.out _ (H1.out.keep bw) (HT0.out _ bw)) ?_
 rintro r w2 ⟨_, rfl, ⟨a2, n2, c2, rfl, HN2, HZ2, hn2, hO2⟩, b2⟩
 have bA := below_one w2 (.cells #[.bool x.1, .slice a2 n2 c2, .int .i64 x.2.2, .bool false] 72)
 replace bw := nT (nT bw b2) bA
 obtain ⟨o0, o1, o2, o3⟩ := fX6 w2 x a2 n2 c2
 replace hO2 := hO2.keep bA
 clear b2 bA k0 k1 k2 HC HR
 go_wp2_with fail
 generalize w2.alloc (.cells #[.bool x.1, .slice a2 n2 c2, .int .i64 x.2.2, .bool false] 72) = w3 at *
 refine Calls.mono (zero_calls x.1 a2 n2 c2 x.2.2 false w3) ?_
 rintro r w4 ⟨rfl, rfl⟩
 have bB := below_one w3 (.cells #[.bool x.1, .slice a2 n2 c2, .int .i64 x.2.2, .bool false] 72)
 replace bw := nT bw bB
 replace o0 := kC bB o0
 replace o1 := kC bB o1
 replace o2 := kC bB o2
 replace o3 := kC bB o3
 replace hO2 := hO2.keep bB
 clear bB
 have hn0 : ((n2 : Int) == 0) = true := by rw [HN2.out, HX.out, words_zero]; rfl
 go_wp2_with fail
 go_ret2
 exact ⟨rfl, bw⟩
set_option maxRecDepth 100000 in
set_option maxHeartbeats 2000000 in
theorem mtop_yes (s : Bool) (a : Option Addr) (len cap : Nat) (xs : List Int) (e : Int) (w : World) (h : IsW w a len cap xs) (hm : len ≤ 17592186044000) (hT : Tab w) (hr : rightB (val xs) e = true) (h0 : val xs ≠ 0) :
  Calls Tryz.prog 77 #[.func (.func 78) #[] #[], dyV s a len cap e] w fun r w' => r = .returned (.tuple #[.int .i64 (e + (blen (val xs) : Int) - 1), .int .i64 (0)]) ∧ Below w.heap.size w w' := by
 have bw : Below w.heap.size w ((w.alloc (.cells #[.bool s, .slice a len cap, .int .i64 e] 27)).alloc (.cells #[.bool s, .slice a len cap, .int .i64 e] 27)) := by repeat (first | exact Below.refl _ _ | refine bl_alloc ?_ _)
 have HR : Hid _ := right1_calls (w.heap.size + 1) s a len cap xs e ((w.alloc (.cells #[.bool s, .slice a len cap, .int .i64 e] 27)).alloc (.cells #[.bool s, .slice a len cap, .int .i64 e] 27)) (h.keep bw) (by omega) (by go_simp) (by go_simp) (by go_simp)
 obtain ⟨k0, k1, k2⟩ := fX5 w s a len cap e
 have H1 : Hid (IsW w a len cap xs) := h
 rw [hr] at HR
 have HC : Hid _ := fun W g t => canon_num s a len cap xs e W g (by omega) t hr
 have HT0 : Hid (∀ W, Below w.heap.size w W → Tab W) := fun W hW => hT.kept hW
 have hx := form_nz s e h0
 have hv := top_form s e h0
 have HG : Hid _ := form_fit s (val xs) e hr
 have HB : Hid _ := form_bounds s (val xs) e hr
 generalize (formD s (val xs) e) = x at *
 rw [← hv]
 have HX : Hid _ := hx
 clear hx h0 hv
 clear hr h hm hT
 go_enter Tryz.func77, Tryz.ntmps77
 go_wp2_with fail
 refine Calls.mono HR.out ?_
 rintro r w1 ⟨rfl, b1⟩
 replace bw := nT bw b1
 replace k0 := kC b1 k0
 replace k1 := kC b1 k1
 replace k2 := kC b1 k2
 clear b1
 go_wp2_with fail
 refine Calls.mono (HC.out _ (H1.out.keep bw) (HT0.out _ bw)) ?_
 rintro r w2 ⟨_, rfl, ⟨a2, n2, c2, rfl, HN2, HZ2, hn2, hO2⟩, b2⟩
 have bA := below_one w2 (.cells #[.bool x.1, .slice a2 n2 c2, .int .i64 x.2.2, .bool false] 72)
 replace bw := nT (nT bw b2) bA
 obtain ⟨o0, o1, o2, o3⟩ := fX6 w2 x a2 n2 c2
 replace hO2 := hO2.keep bA
 clear b2 bA k0 k1 k2 HC HR
 go_wp2_with fail
 generalize w2.alloc (.cells #[.bool x.1, .slice a2 n2 c2, .int .i64 x.2.2, .bool false] 72) = w3 at *
 refine Calls.mono (zero_calls x.1 a2 n2 c2 x.2.2 false w3) ?_
 rintro r w4 ⟨rfl, rfl⟩
 have bB := below_one w3 (.cells #[.bool x.1, .slice a2 n2 c2, .int .i64 x.2.2, .bool false] 72)
 replace bw := nT bw bB
 replace o0 := kC bB o0
 replace o1 := kC bB o1
 replace o2 := kC bB o2
 replace o3 := kC bB o3
 replace hO2 := hO2.keep bB
 clear bB
 have hn0 : ((n2 : Int) == 0) = false := nz_len HN2.out HX.out
 go_wp2_with fail
 refine Calls.mono (top_calls x.1 a2 n2 c2 x.2.1 x.2.2 false _ hO2.1 hn2 HG.out (by have := HB.out; omega)) ?_
 rintro r w5 ⟨rfl, b5⟩
 replace bw := nT bw b5
 clear b5 o0 o1 o2 o3
 go_wp2_with fail
 go_ret2
 exact ⟨rfl, bw⟩
set_option maxRecDepth 100000 in
set_option maxHeartbeats 2000000 in
theorem pTop_calls (s : Bool) (a : Option Addr) (len cap : Nat) (xs : List Int) (e : Int) (w : World) (h : IsW w a len cap xs) (hm : len ≤ 17592186044000) (hT : Tab w) :
  Calls Tryz.prog 47 #[dyV s a len cap e] w fun r w' => r = .returned (.tuple #[.int .i64 (tpV (val xs) e), .int .i64 (ftE (val xs) e)]) ∧ Below w.heap.size w w' := by
 have bw := below_one w (.cells #[.bool s, .slice a len cap, .int .i64 e] 27)
 have HM : Hid (Calls Tryz.prog 77 #[.func (.func 78) #[] #[], dyV s a len cap e] (w.alloc (.cells #[.bool s, .slice a len cap, .int .i64 e] 27)) fun r w' => r = .returned (.tuple #[.int .i64 (tpV (val xs) e), .int .i64 (ftE (val xs) e)]) ∧ Below (w.alloc (.cells #[.bool s, .slice a len cap, .int .i64 e] 27)).heap.size (w.alloc (.cells #[.bool s, .slice a len cap, .int .i64 e] 27)) w') := by
  cases hr : rightB (val xs) e with
  | false =>
   have e1 : ftE (val xs) e = 2 := by unfold ftE; rw [hr]; rfl
   have e2 : tpV (val xs) e = 0 := by unfold tpV; rw [e1]; rfl
   rw [e1, e2]
   exact mtop_not s a len cap xs e _ (h.keep bw) hm hr
  | true =>
   by_cases h0 : val xs = 0
   ·have e1 : ftE (val xs) e = 5 := by unfold ftE; rw [hr, if_pos rfl, if_pos h0]
    have e2 : tpV (val xs) e = 0 := by unfold tpV; rw [e1]; rfl
    rw [e1, e2]
    exact mtop_zero s a len cap xs e _ (h.keep bw) hm (hT.kept bw) hr h0
   ·have e1 : ftE (val xs) e = 0 := by unfold ftE; rw [hr, if_pos rfl, if_neg h0]
    have e2 : tpV (val xs) e = e + (blen (val xs) : Int) - 1 := by unfold tpV; rw [e1]; rfl
    rw [e1, e2]
    exact mtop_yes s a len cap xs e _ (h.keep bw) hm (hT.kept bw) hr h0
 generalize tpV (val xs) e = rv at *
 generalize ftE (val xs) e = re at *
 clear h hm hT
 go_enter Tryz.func47, Tryz.ntmps47
 go_wp2_with fail
 refine Calls.mono HM.out ?_
 rintro r w1 ⟨rfl, b1⟩
 replace bw := nT bw b1
 clear b1
 go_wp2_with fail
 go_ret2
 exact ⟨rfl, bw⟩
end Go.Proofs.YtionhpedghmecaaGreatDoor
