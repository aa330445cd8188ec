/- The document's Meets, Within, Has and Sign, in the program's words. -/
import Derived.Test.YtbhneifafnoaiaaGreatDoorCR
import Derived.Test.YtbhneifafnoaiaaGreatDoorTLX
import Derived.Test.YtbhneifafnoaiaaGreatDoorIVR
import Derived.Deep.RegionHeld3
import Derived.Test.YtbhneifafnoaiaaGreatDoorFX
namespace Go.Proofs.YtbhneifafnoaiaaGreatDoor
open Go.RowKit
theorem rt_rg {x y : DT} (h : rtT x y = true) : rgT x = true ∧ rgT y = true := by
 unfold rtT rtI at h
 rw [Bool.and_eq_true, Bool.and_eq_true] at h
 exact h.1
def cmT (x y : DT) : Int := cmpD (formD x.1 (val x.2.2.2.2.1) x.2.2.2.2.2) (formD y.1 (val y.2.2.2.2.1) y.2.2.2.2.2)
theorem rt_cm {x y : DT} (h1 : rgT x = true) (h2 : rgT y = true) : rtT x y = decide (cmT x y ≤ 0) := by
 have e : rtT x y = (rgT x && rgT y && decide (cmT x y ≤ 0)) := rfl
 rw [e, h1, h2]
 rfl
theorem rt_self (x : DT) : rtT x x = rgT x := by
 have e : rtT x x = (rgT x && rgT x && decide (cmT x x ≤ 0)) := rfl
 have z : cmT x x = 0 := by
  unfold cmT
  rw [vI_cmp _ _ (-((formD x.1 (val x.2.2.2.2.1) x.2.2.2.2.2).2.2)).toNat (by omega) (by omega)]
  unfold Lib.compareInt
  simp
 rw [e, z]
 cases rgT x <;> rfl
theorem ordT_calls (x y : DT) (w : World) (hx : inT w x) (hy : inT w y) (r1 : rgT x = true) (r2 : rgT y = true) :
  Calls Tryz.prog 20 #[dyV x.1 x.2.1 x.2.2.1 x.2.2.2.1 x.2.2.2.2.2, dyV y.1 y.2.1 y.2.2.1 y.2.2.2.1 y.2.2.2.2.2] w fun r w' => r = .returned (.int .i64 (cmT x y)) ∧ Below w.heap.size w w' :=
 qOrder_calls x.1 x.2.1 x.2.2.1 x.2.2.2.1 x.2.2.2.2.1 x.2.2.2.2.2 y.1 y.2.1 y.2.2.1 y.2.2.2.1 y.2.2.2.2.1 y.2.2.2.2.2 w hx.1 hx.2 hy.1 hy.2 (rg_bounds r1).1 (rg_bounds r2).1 (rg_bounds r1).2 (rg_bounds r2).2
theorem four_and (a b c d p q : Bool) (h : a = true → b = true → (c = p ∧ d = q)) : ((a && b) && c && d) = ((a && b) && p && q) := by
 cases a with
 | false => rfl
 | true =>
  cases b with
  | false => rfl
  | true => rw [(h rfl rfl).1, (h rfl rfl).2]
set_option maxRecDepth 100000 in
set_option maxHeartbeats 4000000 in
theorem vMeets_calls (x y u v : DT) (w : World) (hx : inT w x) (hy : inT w y) (hu : inT w u) (hv : inT w v) :
  Calls Tryz.prog 7 #[ivT x y, ivT u v] w fun r w' => r = .returned (.bool (((rtT x y && rtT u v) && rtT x v && rtT u y))) ∧ Below w.heap.size w w' := by
 have bA : Below w.heap.size w ((w.alloc (.cells #[.bool x.1, .slice x.2.1 x.2.2.1 x.2.2.2.1, .int .i64 x.2.2.2.2.2, .bool y.1, .slice y.2.1 y.2.2.1 y.2.2.2.1, .int .i64 y.2.2.2.2.2] 27)).alloc (.cells #[.bool u.1, .slice u.2.1 u.2.2.1 u.2.2.2.1, .int .i64 u.2.2.2.2.2, .bool v.1, .slice v.2.1 v.2.2.1 v.2.2.2.1, .int .i64 v.2.2.2.2.2] 27)) := nT (below_one _ _) (below_one _ _)
 have HE : Hid (((rtT x y && rtT u v) && rtT x v && rtT u y) = ((rtT x y && rtT u v) && decide (cmT x v ≤ 0) && decide (cmT u y ≤ 0))) := by
  rw [Hid]
  refine four_and _ _ _ _ _ _ fun r1 r2 => ⟨rt_cm (rt_rg r1).1 (rt_rg r2).2, rt_cm (rt_rg r2).1 (rt_rg r1).2⟩
 have H1 : Hid _ := fun W (q : inT W x) (q' : inT W y) => vRight_calls x y W q q'
 have H2 : Hid _ := fun W (q : inT W u) (q' : inT W v) => vRight_calls u v W q q'
 have H3 : Hid (∀ W, inT W x → inT W v → rtT x y = true → rtT u v = true → Calls Tryz.prog 20 #[dyV x.1 x.2.1 x.2.2.1 x.2.2.2.1 x.2.2.2.2.2, dyV v.1 v.2.1 v.2.2.1 v.2.2.2.1 v.2.2.2.2.2] W fun r w' => r = .returned (.int .i64 (cmT x v)) ∧ Below W.heap.size W w') := fun W g g' r1 r2 => ordT_calls x v W g g' (rt_rg r1).1 (rt_rg r2).2
 have H4 : Hid (∀ W, inT W u → inT W y → rtT x y = true → rtT u v = true → Calls Tryz.prog 20 #[dyV u.1 u.2.1 u.2.2.1 u.2.2.2.1 u.2.2.2.2.2, dyV y.1 y.2.1 y.2.2.1 y.2.2.2.1 y.2.2.2.2.2] W fun r w' => r = .returned (.int .i64 (cmT u y)) ∧ Below W.heap.size W w') := fun W g g' r1 r2 => ordT_calls u y W g g' (rt_rg r2).1 (rt_rg r1).2
 generalize ((rtT x y && rtT u v) && rtT x v && rtT u y) = RR at *
 generalize rtT x y = r1 at *
 generalize rtT u v = r2 at *
 generalize cmT x v = o1 at *
 generalize cmT u y = o2 at *
 obtain ⟨k00, k01, k02, k03, k04, k05, k10, k11, k12, k13, k14, k15⟩ := fX13 w x y u v _ rfl
 replace hx := hx.keep bA
 replace hy := hy.keep bA
 replace hu := hu.keep bA
 replace hv := hv.keep bA
 go_enter Tryz.func7, Tryz.ntmps7
 go_wp2_with fail
 generalize ((w.alloc (.cells #[.bool x.1, .slice x.2.1 x.2.2.1 x.2.2.2.1, .int .i64 x.2.2.2.2.2, .bool y.1, .slice y.2.1 y.2.2.1 y.2.2.2.1, .int .i64 y.2.2.2.2.2] 27)).alloc (.cells #[.bool u.1, .slice u.2.1 u.2.2.1 u.2.2.2.1, .int .i64 u.2.2.2.2.2, .bool v.1, .slice v.2.1 v.2.2.1 v.2.2.2.1, .int .i64 v.2.2.2.2.2] 27)) = w0 at *
 refine Calls.mono (H1.out _ hx hy) ?_
 rintro r w1 ⟨rfl, bN⟩
 revert k00 k01 k02 k03 k04 k05; refine cc6 bN ?_; intro k00 k01 k02 k03 k04 k05
 revert k10 k11 k12 k13 k14 k15; refine cc6 bN ?_; intro k10 k11 k12 k13 k14 k15
 replace hx := hx.keep bN
 replace hy := hy.keep bN
 replace hu := hu.keep bN
 replace hv := hv.keep bN
 replace bA := nT bA bN
 clear bN
 cases r1
 ·have e1 : Hid (RR = false) := by rw [Hid, HE.out]; rfl
  clear HE H1 H2 H3 H4
  go_wp2_with fail
  go_ret
  rw [e1.out]
  refine ⟨?_, bA⟩
  first | rfl | (simp [go_sem]; omega) | simp_all
 go_wp2_with fail
 refine Calls.mono (H2.out _ hu hv) ?_
 rintro r w2 ⟨rfl, bN⟩
 revert k00 k01 k02 k03 k04 k05; refine cc6 bN ?_; intro k00 k01 k02 k03 k04 k05
 revert k10 k11 k12 k13 k14 k15; refine cc6 bN ?_; intro k10 k11 k12 k13 k14 k15
 replace hx := hx.keep bN
 replace hy := hy.keep bN
 replace hu := hu.keep bN
 replace hv := hv.keep bN
 replace bA := nT bA bN
 clear bN
 cases r2
 ·have e1 : Hid (RR = false) := by rw [Hid, HE.out]; rfl
  clear HE H1 H2 H3 H4
  go_wp2_with fail
  go_ret
  rw [e1.out]
  refine ⟨?_, bA⟩
  first | rfl | (simp [go_sem]; omega) | simp_all
 go_wp2_with fail
 refine Calls.mono (H3.out _ hx hv (by simp) (by simp)) ?_
 rintro r w3 ⟨rfl, bN⟩
 revert k00 k01 k02 k03 k04 k05; refine cc6 bN ?_; intro k00 k01 k02 k03 k04 k05
 revert k10 k11 k12 k13 k14 k15; refine cc6 bN ?_; intro k10 k11 k12 k13 k14 k15
 replace hx := hx.keep bN
 replace hy := hy.keep bN
 replace hu := hu.keep bN
 replace hv := hv.keep bN
 replace bA := nT bA bN
 clear bN
 rcases Int.lt_or_le 0 o1 with q1 | q1
 ·have e1 : Hid (RR = false) := by rw [Hid, HE.out, decide_eq_false (show ¬ o1 ≤ 0 by omega)]; rfl
  have q2 : ¬ o1 ≤ 0 := by omega
  clear HE H1 H2 H3 H4
  go_wp2_with fail
  go_ret
  rw [e1.out]
  refine ⟨?_, bA⟩
  first | rfl | (simp [go_sem]; omega) | simp_all
 go_wp2_with fail
 refine Calls.mono (H4.out _ hu hy (by simp) (by simp)) ?_
 rintro r w4 ⟨rfl, bN⟩
 revert k00 k01 k02 k03 k04 k05; refine cc6 bN ?_; intro k00 k01 k02 k03 k04 k05
 revert k10 k11 k12 k13 k14 k15; refine cc6 bN ?_; intro k10 k11 k12 k13 k14 k15
 replace hx := hx.keep bN
 replace hy := hy.keep bN
 replace hu := hu.keep bN
 replace hv := hv.keep bN
 replace bA := nT bA bN
 clear bN
 rcases Int.lt_or_le 0 o2 with q3 | q3
 ·have e1 : Hid (RR = false) := by rw [Hid, HE.out, decide_eq_false (show ¬ o2 ≤ 0 by omega), Bool.and_false]
  have q4 : ¬ o2 ≤ 0 := by omega
  clear HE H1 H2 H3 H4
  go_wp2_with fail
  go_ret
  rw [e1.out]
  refine ⟨?_, bA⟩
  first | rfl | (simp [go_sem]; omega) | simp_all
 have e1 : Hid (RR = true) := by rw [Hid, HE.out, decide_eq_true q1, decide_eq_true q3]; rfl
 clear HE H1 H2 H3 H4
 go_wp2_with fail
 go_ret
 rw [e1.out]
 refine ⟨?_, bA⟩
 first | rfl | (simp [go_sem]; omega) | simp_all
set_option maxRecDepth 100000 in
set_option maxHeartbeats 4000000 in
theorem vWithin_calls (x y u v : DT) (w : World) (hx : inT w x) (hy : inT w y) (hu : inT w u) (hv : inT w v) :
  Calls Tryz.prog 9 #[ivT x y, ivT u v] w fun r w' => r = .returned (.bool (((rtT x y && rtT u v) && rtT u x && rtT y v))) ∧ Below w.heap.size w w' := by
 have bA : Below w.heap.size w ((w.alloc (.cells #[.bool x.1, .slice x.2.1 x.2.2.1 x.2.2.2.1, .int .i64 x.2.2.2.2.2, .bool y.1, .slice y.2.1 y.2.2.1 y.2.2.2.1, .int .i64 y.2.2.2.2.2] 27)).alloc (.cells #[.bool u.1, .slice u.2.1 u.2.2.1 u.2.2.2.1, .int .i64 u.2.2.2.2.2, .bool v.1, .slice v.2.1 v.2.2.1 v.2.2.2.1, .int .i64 v.2.2.2.2.2] 27)) := nT (below_one _ _) (below_one _ _)
 have HE : Hid (((rtT x y && rtT u v) && rtT u x && rtT y v) = ((rtT x y && rtT u v) && decide (cmT u x ≤ 0) && decide (cmT y v ≤ 0))) := by
  rw [Hid]
  refine four_and _ _ _ _ _ _ fun r1 r2 => ⟨rt_cm (rt_rg r2).1 (rt_rg r1).1, rt_cm (rt_rg r1).2 (rt_rg r2).2⟩
 have H1 : Hid _ := fun W (q : inT W x) (q' : inT W y) => vRight_calls x y W q q'
 have H2 : Hid _ := fun W (q : inT W u) (q' : inT W v) => vRight_calls u v W q q'
 have H3 : Hid (∀ W, inT W u → inT W x → rtT x y = true → rtT u v = true → Calls Tryz.prog 20 #[dyV u.1 u.2.1 u.2.2.1 u.2.2.2.1 u.2.2.2.2.2, dyV x.1 x.2.1 x.2.2.1 x.2.2.2.1 x.2.2.2.2.2] W fun r w' => r = .returned (.int .i64 (cmT u x)) ∧ Below W.heap.size W w') := fun W g g' r1 r2 => ordT_calls u x W g g' (rt_rg r2).1 (rt_rg r1).1
 have H4 : Hid (∀ W, inT W y → inT W v → rtT x y = true → rtT u v = true → Calls Tryz.prog 20 #[dyV y.1 y.2.1 y.2.2.1 y.2.2.2.1 y.2.2.2.2.2, dyV v.1 v.2.1 v.2.2.1 v.2.2.2.1 v.2.2.2.2.2] W fun r w' => r = .returned (.int .i64 (cmT y v)) ∧ Below W.heap.size W w') := fun W g g' r1 r2 => ordT_calls y v W g g' (rt_rg r1).2 (rt_rg r2).2
 generalize ((rtT x y && rtT u v) && rtT u x && rtT y v) = RR at *
 generalize rtT x y = r1 at *
 generalize rtT u v = r2 at *
 generalize cmT u x = o1 at *
 generalize cmT y v = o2 at *
 obtain ⟨k00, k01, k02, k03, k04, k05, k10, k11, k12, k13, k14, k15⟩ := fX13 w x y u v _ rfl
 replace hx := hx.keep bA
 replace hy := hy.keep bA
 replace hu := hu.keep bA
 replace hv := hv.keep bA
 go_enter Tryz.func9, Tryz.ntmps9
 go_wp2_with fail
 generalize ((w.alloc (.cells #[.bool x.1, .slice x.2.1 x.2.2.1 x.2.2.2.1, .int .i64 x.2.2.2.2.2, .bool y.1, .slice y.2.1 y.2.2.1 y.2.2.2.1, .int .i64 y.2.2.2.2.2] 27)).alloc (.cells #[.bool u.1, .slice u.2.1 u.2.2.1 u.2.2.2.1, .int .i64 u.2.2.2.2.2, .bool v.1, .slice v.2.1 v.2.2.1 v.2.2.2.1, .int .i64 v.2.2.2.2.2] 27)) = w0 at *
 refine Calls.mono (H1.out _ hx hy) ?_
 rintro r w1 ⟨rfl, bN⟩
 revert k00 k01 k02 k03 k04 k05; refine cc6 bN ?_; intro k00 k01 k02 k03 k04 k05
 revert k10 k11 k12 k13 k14 k15; refine cc6 bN ?_; intro k10 k11 k12 k13 k14 k15
 replace hx := hx.keep bN
 replace hy := hy.keep bN
 replace hu := hu.keep bN
 replace hv := hv.keep bN
 replace bA := nT bA bN
 clear bN
 cases r1
 ·have e1 : Hid (RR = false) := by rw [Hid, HE.out]; rfl
  clear HE H1 H2 H3 H4
  go_wp2_with fail
  go_ret
  rw [e1.out]
  refine ⟨?_, bA⟩
  first | rfl | (simp [go_sem]; omega) | simp_all
 go_wp2_with fail
 refine Calls.mono (H2.out _ hu hv) ?_
 rintro r w2 ⟨rfl, bN⟩
 revert k00 k01 k02 k03 k04 k05; refine cc6 bN ?_; intro k00 k01 k02 k03 k04 k05
 revert k10 k11 k12 k13 k14 k15; refine cc6 bN ?_; intro k10 k11 k12 k13 k14 k15
 replace hx := hx.keep bN
 replace hy := hy.keep bN
 replace hu := hu.keep bN
 replace hv := hv.keep bN
 replace bA := nT bA bN
 clear bN
 cases r2
 ·have e1 : Hid (RR = false) := by rw [Hid, HE.out]; rfl
  clear HE H1 H2 H3 H4
  go_wp2_with fail
  go_ret
  rw [e1.out]
  refine ⟨?_, bA⟩
  first | rfl | (simp [go_sem]; omega) | simp_all
 go_wp2_with fail
 refine Calls.mono (H3.out _ hu hx (by simp) (by simp)) ?_
 rintro r w3 ⟨rfl, bN⟩
 revert k00 k01 k02 k03 k04 k05; refine cc6 bN ?_; intro k00 k01 k02 k03 k04 k05
 revert k10 k11 k12 k13 k14 k15; refine cc6 bN ?_; intro k10 k11 k12 k13 k14 k15
 replace hx := hx.keep bN
 replace hy := hy.keep bN
 replace hu := hu.keep bN
 replace hv := hv.keep bN
 replace bA := nT bA bN
 clear bN
 rcases Int.lt_or_le 0 o1 with q1 | q1
 ·have e1 : Hid (RR = false) := by rw [Hid, HE.out, decide_eq_false (show ¬ o1 ≤ 0 by omega)]; rfl
  have q2 : ¬ o1 ≤ 0 := by omega
  clear HE H1 H2 H3 H4
  go_wp2_with fail
  go_ret
  rw [e1.out]
  refine ⟨?_, bA⟩
  first | rfl | (simp [go_sem]; omega) | simp_all
 go_wp2_with fail
 refine Calls.mono (H4.out _ hy hv (by simp) (by simp)) ?_
 rintro r w4 ⟨rfl, bN⟩
 revert k00 k01 k02 k03 k04 k05; refine cc6 bN ?_; intro k00 k01 k02 k03 k04 k05
 revert k10 k11 k12 k13 k14 k15; refine cc6 bN ?_; intro k10 k11 k12 k13 k14 k15
 replace hx := hx.keep bN
 replace hy := hy.keep bN
 replace hu := hu.keep bN
 replace hv := hv.keep bN
 replace bA := nT bA bN
 clear bN
 rcases Int.lt_or_le 0 o2 with q3 | q3
 ·have e1 : Hid (RR = false) := by rw [Hid, HE.out, decide_eq_false (show ¬ o2 ≤ 0 by omega), Bool.and_false]
  have q4 : ¬ o2 ≤ 0 := by omega
  clear HE H1 H2 H3 H4
  go_wp2_with fail
  go_ret
  rw [e1.out]
  refine ⟨?_, bA⟩
  first | rfl | (simp [go_sem]; omega) | simp_all
 have e1 : Hid (RR = true) := by rw [Hid, HE.out, decide_eq_true q1, decide_eq_true q3]; rfl
 clear HE H1 H2 H3 H4
 go_wp2_with fail
 go_ret
 rw [e1.out]
 refine ⟨?_, bA⟩
 first | rfl | (simp [go_sem]; omega) | simp_all
set_option maxRecDepth 100000 in
set_option maxHeartbeats 4000000 in
theorem vHas_calls (x y d : DT) (w : World) (hx : inT w x) (hy : inT w y) (hd : inT w d) :
  Calls Tryz.prog 11 #[ivT x y, dyV d.1 d.2.1 d.2.2.1 d.2.2.2.1 d.2.2.2.2.2] w fun r w' => r = .returned (.bool (((rtT d d && rtT x y) && rtT x d && rtT d y))) ∧ Below w.heap.size w w' := by
 have bA : Below w.heap.size w ((w.alloc (.cells #[.bool x.1, .slice x.2.1 x.2.2.1 x.2.2.2.1, .int .i64 x.2.2.2.2.2, .bool y.1, .slice y.2.1 y.2.2.1 y.2.2.2.1, .int .i64 y.2.2.2.2.2] 27)).alloc (.cells #[.bool d.1, .slice d.2.1 d.2.2.1 d.2.2.2.1, .int .i64 d.2.2.2.2.2] 25)) := nT (below_one _ _) (below_one _ _)
 have HE : Hid (((rtT d d && rtT x y) && rtT x d && rtT d y) = ((rtT x y && rgT d) && decide (cmT x d ≤ 0) && decide (cmT d y ≤ 0))) := by
  rw [Hid, rt_self, Bool.and_comm (rgT d)]
  refine four_and _ _ _ _ _ _ fun r1 r2 => ⟨rt_cm (rt_rg r1).1 r2, rt_cm r2 (rt_rg r1).2⟩
 have H1 : Hid _ := fun W (q : inT W x) (q' : inT W y) => vRight_calls x y W q q'
 have H2 : Hid (∀ W, inT W d → Calls Tryz.prog 21 #[dyV d.1 d.2.1 d.2.2.1 d.2.2.2.1 d.2.2.2.2.2] W fun r w' => r = .returned (.bool (rgT d)) ∧ Below W.heap.size W w') := fun W q => qRight_calls d.1 d.2.1 d.2.2.1 d.2.2.2.1 d.2.2.2.2.1 d.2.2.2.2.2 W q.1 (by have := q.2; omega)
 have H3 : Hid (∀ W, inT W x → inT W d → rtT x y = true → rgT d = true → Calls Tryz.prog 20 #[dyV x.1 x.2.1 x.2.2.1 x.2.2.2.1 x.2.2.2.2.2, dyV d.1 d.2.1 d.2.2.1 d.2.2.2.1 d.2.2.2.2.2] W fun r w' => r = .returned (.int .i64 (cmT x d)) ∧ Below W.heap.size W w') := fun W g g' r1 r2 => ordT_calls x d W g g' (rt_rg r1).1 r2
 have H4 : Hid (∀ W, inT W d → inT W y → rtT x y = true → rgT d = true → Calls Tryz.prog 20 #[dyV d.1 d.2.1 d.2.2.1 d.2.2.2.1 d.2.2.2.2.2, dyV y.1 y.2.1 y.2.2.1 y.2.2.2.1 y.2.2.2.2.2] W fun r w' => r = .returned (.int .i64 (cmT d y)) ∧ Below W.heap.size W w') := fun W g g' r1 r2 => ordT_calls d y W g g' r2 (rt_rg r1).2
 generalize ((rtT d d && rtT x y) && rtT x d && rtT d y) = RR at *
 generalize rtT x y = r1 at *
 generalize rgT d = r2 at *
 generalize cmT x d = o1 at *
 generalize cmT d y = o2 at *
 have k00 : ((w.alloc (.cells #[.bool x.1, .slice x.2.1 x.2.2.1 x.2.2.2.1, .int .i64 x.2.2.2.2.2, .bool y.1, .slice y.2.1 y.2.2.1 y.2.2.2.1, .int .i64 y.2.2.2.2.2] 27)).alloc (.cells #[.bool d.1, .slice d.2.1 d.2.2.1 d.2.2.2.1, .int .i64 d.2.2.2.2.2] 25)).cell? ⟨w.heap.size, 0, none⟩ = some (.bool x.1) := by go_simp
 have k01 : ((w.alloc (.cells #[.bool x.1, .slice x.2.1 x.2.2.1 x.2.2.2.1, .int .i64 x.2.2.2.2.2, .bool y.1, .slice y.2.1 y.2.2.1 y.2.2.2.1, .int .i64 y.2.2.2.2.2] 27)).alloc (.cells #[.bool d.1, .slice d.2.1 d.2.2.1 d.2.2.2.1, .int .i64 d.2.2.2.2.2] 25)).cell? ⟨w.heap.size, 1, none⟩ = some (.slice x.2.1 x.2.2.1 x.2.2.2.1) := by go_simp
 have k02 : ((w.alloc (.cells #[.bool x.1, .slice x.2.1 x.2.2.1 x.2.2.2.1, .int .i64 x.2.2.2.2.2, .bool y.1, .slice y.2.1 y.2.2.1 y.2.2.2.1, .int .i64 y.2.2.2.2.2] 27)).alloc (.cells #[.bool d.1, .slice d.2.1 d.2.2.1 d.2.2.2.1, .int .i64 d.2.2.2.2.2] 25)).cell? ⟨w.heap.size, 2, none⟩ = some (.int .i64 x.2.2.2.2.2) := by go_simp
 have k03 : ((w.alloc (.cells #[.bool x.1, .slice x.2.1 x.2.2.1 x.2.2.2.1, .int .i64 x.2.2.2.2.2, .bool y.1, .slice y.2.1 y.2.2.1 y.2.2.2.1, .int .i64 y.2.2.2.2.2] 27)).alloc (.cells #[.bool d.1, .slice d.2.1 d.2.2.1 d.2.2.2.1, .int .i64 d.2.2.2.2.2] 25)).cell? ⟨w.heap.size, 3, none⟩ = some (.bool y.1) := by go_simp
 have k04 : ((w.alloc (.cells #[.bool x.1, .slice x.2.1 x.2.2.1 x.2.2.2.1, .int .i64 x.2.2.2.2.2, .bool y.1, .slice y.2.1 y.2.2.1 y.2.2.2.1, .int .i64 y.2.2.2.2.2] 27)).alloc (.cells #[.bool d.1, .slice d.2.1 d.2.2.1 d.2.2.2.1, .int .i64 d.2.2.2.2.2] 25)).cell? ⟨w.heap.size, 4, none⟩ = some (.slice y.2.1 y.2.2.1 y.2.2.2.1) := by go_simp
 have k05 : ((w.alloc (.cells #[.bool x.1, .slice x.2.1 x.2.2.1 x.2.2.2.1, .int .i64 x.2.2.2.2.2, .bool y.1, .slice y.2.1 y.2.2.1 y.2.2.2.1, .int .i64 y.2.2.2.2.2] 27)).alloc (.cells #[.bool d.1, .slice d.2.1 d.2.2.1 d.2.2.2.1, .int .i64 d.2.2.2.2.2] 25)).cell? ⟨w.heap.size, 5, none⟩ = some (.int .i64 y.2.2.2.2.2) := by go_simp
 have k10 : ((w.alloc (.cells #[.bool x.1, .slice x.2.1 x.2.2.1 x.2.2.2.1, .int .i64 x.2.2.2.2.2, .bool y.1, .slice y.2.1 y.2.2.1 y.2.2.2.1, .int .i64 y.2.2.2.2.2] 27)).alloc (.cells #[.bool d.1, .slice d.2.1 d.2.2.1 d.2.2.2.1, .int .i64 d.2.2.2.2.2] 25)).cell? ⟨w.heap.size + 1, 0, none⟩ = some (.bool d.1) := by go_simp
 have k11 : ((w.alloc (.cells #[.bool x.1, .slice x.2.1 x.2.2.1 x.2.2.2.1, .int .i64 x.2.2.2.2.2, .bool y.1, .slice y.2.1 y.2.2.1 y.2.2.2.1, .int .i64 y.2.2.2.2.2] 27)).alloc (.cells #[.bool d.1, .slice d.2.1 d.2.2.1 d.2.2.2.1, .int .i64 d.2.2.2.2.2] 25)).cell? ⟨w.heap.size + 1, 1, none⟩ = some (.slice d.2.1 d.2.2.1 d.2.2.2.1) := by go_simp
 have k12 : ((w.alloc (.cells #[.bool x.1, .slice x.2.1 x.2.2.1 x.2.2.2.1, .int .i64 x.2.2.2.2.2, .bool y.1, .slice y.2.1 y.2.2.1 y.2.2.2.1, .int .i64 y.2.2.2.2.2] 27)).alloc (.cells #[.bool d.1, .slice d.2.1 d.2.2.1 d.2.2.2.1, .int .i64 d.2.2.2.2.2] 25)).cell? ⟨w.heap.size + 1, 2, none⟩ = some (.int .i64 d.2.2.2.2.2) := by go_simp
 replace hx := hx.keep bA
 replace hy := hy.keep bA
 replace hd := hd.keep bA
 go_enter Tryz.func11, Tryz.ntmps11
 go_wp2_with fail
 generalize ((w.alloc (.cells #[.bool x.1, .slice x.2.1 x.2.2.1 x.2.2.2.1, .int .i64 x.2.2.2.2.2, .bool y.1, .slice y.2.1 y.2.2.1 y.2.2.2.1, .int .i64 y.2.2.2.2.2] 27)).alloc (.cells #[.bool d.1, .slice d.2.1 d.2.2.1 d.2.2.2.1, .int .i64 d.2.2.2.2.2] 25)) = w0 at *
 refine Calls.mono (H1.out _ hx hy) ?_
 rintro r w1 ⟨rfl, bN⟩
 revert k00 k01 k02 k03 k04 k05; refine cc6 bN ?_; intro k00 k01 k02 k03 k04 k05
 revert k10 k11 k12; refine cc3 bN ?_; intro k10 k11 k12
 replace hx := hx.keep bN
 replace hy := hy.keep bN
 replace hd := hd.keep bN
 replace bA := nT bA bN
 clear bN
 cases r1
 ·have e1 : Hid (RR = false) := by rw [Hid, HE.out]; rfl
  clear HE H1 H2 H3 H4
  go_wp2_with fail
  go_ret
  rw [e1.out]
  refine ⟨?_, bA⟩
  first | rfl | (simp [go_sem]; omega) | simp_all
 go_wp2_with fail
 refine Calls.mono (H2.out _ hd) ?_
 rintro r w2 ⟨rfl, bN⟩
 revert k00 k01 k02 k03 k04 k05; refine cc6 bN ?_; intro k00 k01 k02 k03 k04 k05
 revert k10 k11 k12; refine cc3 bN ?_; intro k10 k11 k12
 replace hx := hx.keep bN
 replace hy := hy.keep bN
 replace hd := hd.keep bN
 replace bA := nT bA bN
 clear bN
 cases r2
 ·have e1 : Hid (RR = false) := by rw [Hid, HE.out]; rfl
  clear HE H1 H2 H3 H4
  go_wp2_with fail
  go_ret
  rw [e1.out]
  refine ⟨?_, bA⟩
  first | rfl | (simp [go_sem]; omega) | simp_all
 go_wp2_with fail
 refine Calls.mono (H3.out _ hx hd (by simp) (by simp)) ?_
 rintro r w3 ⟨rfl, bN⟩
 revert k00 k01 k02 k03 k04 k05; refine cc6 bN ?_; intro k00 k01 k02 k03 k04 k05
 revert k10 k11 k12; refine cc3 bN ?_; intro k10 k11 k12
 replace hx := hx.keep bN
 replace hy := hy.keep bN
 replace hd := hd.keep bN
 replace bA := nT bA bN
 clear bN
 rcases Int.lt_or_le 0 o1 with q1 | q1
 ·have e1 : Hid (RR = false) := by rw [Hid, HE.out, decide_eq_false (show ¬ o1 ≤ 0 by omega)]; rfl
  have q2 : ¬ o1 ≤ 0 := by omega
  clear HE H1 H2 H3 H4
  go_wp2_with fail
  go_ret
  rw [e1.out]
  refine ⟨?_, bA⟩
  first | rfl | (simp [go_sem]; omega) | simp_all
 go_wp2_with fail
 refine Calls.mono (H4.out _ hd hy (by simp) (by simp)) ?_
 rintro r w4 ⟨rfl, bN⟩
 revert k00 k01 k02 k03 k04 k05; refine cc6 bN ?_; intro k00 k01 k02 k03 k04 k05
 revert k10 k11 k12; refine cc3 bN ?_; intro k10 k11 k12
 replace hx := hx.keep bN
 replace hy := hy.keep bN
 replace hd := hd.keep bN
 replace bA := nT bA bN
 clear bN
 rcases Int.lt_or_le 0 o2 with q3 | q3
 ·have e1 : Hid (RR = false) := by rw [Hid, HE.out, decide_eq_false (show ¬ o2 ≤ 0 by omega), Bool.and_false]
  have q4 : ¬ o2 ≤ 0 := by omega
  clear HE H1 H2 H3 H4
  go_wp2_with fail
  go_ret
  rw [e1.out]
  refine ⟨?_, bA⟩
  first | rfl | (simp [go_sem]; omega) | simp_all
 have e1 : Hid (RR = true) := by rw [Hid, HE.out, decide_eq_true q1, decide_eq_true q3]; rfl
 clear HE H1 H2 H3 H4
 go_wp2_with fail
 go_ret
 rw [e1.out]
 refine ⟨?_, bA⟩
 first | rfl | (simp [go_sem]; omega) | simp_all
def sbT (x y : DT) : Bool := sgB x.1 (val x.2.2.2.2.1) x.2.2.2.2.2 y.1 (val y.2.2.2.2.1) y.2.2.2.2.2
def svT (x y : DT) : Int := sgV x.1 (val x.2.2.2.2.1) x.2.2.2.2.2 y.1 (val y.2.2.2.2.1) y.2.2.2.2.2
theorem sg_words (x y : DT) : (rtT x y = true → sgnQ x.1 (val x.2.2.2.2.1) = sgnQ y.1 (val y.2.2.2.2.1) → sbT x y = true ∧ svT x y = sgnQ x.1 (val x.2.2.2.2.1)) ∧ ((rtT x y = false ∨ sgnQ x.1 (val x.2.2.2.2.1) ≠ sgnQ y.1 (val y.2.2.2.2.1)) → sbT x y = false ∧ svT x y = 0) := by
 have q1 := sgnQ_form x.1 (val x.2.2.2.2.1) x.2.2.2.2.2
 have q2 := sgnQ_form y.1 (val y.2.2.2.2.1) y.2.2.2.2.2
 have e1 : rtT x y = rtI x.1 (val x.2.2.2.2.1) x.2.2.2.2.2 y.1 (val y.2.2.2.2.1) y.2.2.2.2.2 := rfl
 unfold sbT svT sgB sgV
 rw [q1, q2, ← e1]
 constructor
 ·intro a b
  rw [if_pos ⟨a, b⟩, decide_eq_true ⟨a, b⟩]
  exact ⟨rfl, rfl⟩
 ·intro a
  have n : ¬ (rtT x y = true ∧ sgnQ x.1 (val x.2.2.2.2.1) = sgnQ y.1 (val y.2.2.2.2.1)) := fun c => by
   rcases a with a | a
   ·rw [c.1] at a; cases a
   ·exact a c.2
  rw [if_neg n, decide_eq_false n]
  exact ⟨rfl, rfl⟩
set_option maxRecDepth 100000 in
set_option maxHeartbeats 4000000 in
theorem vSign_calls (x y : DT) (w : World) (hx : inT w x) (hy : inT w y) :
  Calls Tryz.prog 5 #[ivT x y] w fun r w' => r = .returned (.tuple #[.int .i64 (svT x y), .bool (sbT x y)]) ∧ Below w.heap.size w w' := by
 have bA : Below w.heap.size w (w.alloc (.cells #[.bool x.1, .slice x.2.1 x.2.2.1 x.2.2.2.1, .int .i64 x.2.2.2.2.2, .bool y.1, .slice y.2.1 y.2.2.1 y.2.2.2.1, .int .i64 y.2.2.2.2.2] 27)) := below_one _ _
 obtain ⟨s1, s2⟩ := sg_words x y
 have HA : Hid _ := s1
 have HB : Hid _ := s2
 clear s1 s2
 have H1 : Hid _ := fun W (q : inT W x) (q' : inT W y) => vRight_calls x y W q q'
 have H2 : Hid _ := fun W (q : inT W x) => qSign_calls x.1 x.2.1 x.2.2.1 x.2.2.2.1 x.2.2.2.2.1 x.2.2.2.2.2 W q.1 q.2
 have H3 : Hid _ := fun W (q : inT W y) => qSign_calls y.1 y.2.1 y.2.2.1 y.2.2.2.1 y.2.2.2.2.1 y.2.2.2.2.2 W q.1 q.2
 generalize rtT x y = r1 at *
 generalize sgnQ x.1 (val x.2.2.2.2.1) = a1 at *
 generalize sgnQ y.1 (val y.2.2.2.2.1) = a2 at *
 generalize svT x y = V at *
 generalize sbT x y = B at *
 obtain ⟨k0, k1, k2, k3, k4, k5⟩ := fX12 w x y _ rfl
 replace hx := hx.keep bA
 replace hy := hy.keep bA
 go_enter Tryz.func5, Tryz.ntmps5
 go_wp2_with fail
 generalize (w.alloc (.cells #[.bool x.1, .slice x.2.1 x.2.2.1 x.2.2.2.1, .int .i64 x.2.2.2.2.2, .bool y.1, .slice y.2.1 y.2.2.1 y.2.2.2.1, .int .i64 y.2.2.2.2.2] 27)) = w0 at *
 refine Calls.mono (H1.out _ hx hy) ?_
 rintro r w1 ⟨rfl, bN⟩
 revert k0 k1 k2 k3 k4 k5; refine cc6 bN ?_; intro k0 k1 k2 k3 k4 k5
 replace hx := hx.keep bN
 replace hy := hy.keep bN
 replace bA := nT bA bN
 clear bN
 cases r1
 ·obtain ⟨b1, b2⟩ := HB.out (Or.inl rfl)
  have e1 : Hid _ := b1
  have e2 : Hid _ := b2
  clear HA HB H1 H2 H3 b1 b2
  go_wp2_with fail
  go_ret2
  rw [e1.out, e2.out]
  exact ⟨rfl, bA⟩
 go_wp2_with fail
 have bD : Below w1.heap.size w1 w1.drew := (Below.refl _ _).drew
 go_region_held3 (fun W => W.cell? ⟨w.heap.size, 0, none⟩ = some (.bool x.1) ∧ W.cell? ⟨w.heap.size, 1, none⟩ = some (.slice x.2.1 x.2.2.1 x.2.2.2.1) ∧ W.cell? ⟨w.heap.size, 2, none⟩ = some (.int .i64 x.2.2.2.2.2) ∧ W.cell? ⟨w.heap.size, 3, none⟩ = some (.bool y.1) ∧ W.cell? ⟨w.heap.size, 4, none⟩ = some (.slice y.2.1 y.2.2.1 y.2.2.2.1) ∧ W.cell? ⟨w.heap.size, 5, none⟩ = some (.int .i64 y.2.2.2.2.2))
  (first | (go_keep; done) | ((refine ⟨?_, ?_, ?_, ?_, ?_, ?_⟩ <;> (refine kC bL ?_; go_keep)); done))
  (first
   | (have _q := gaS; go_at_call 18; refine (H3.out _ (hy.keep bb)).mono ?_; rintro r w3 ⟨rfl, bL⟩; replace bb := nT bb bL)
   | (go_at_call 18; refine (H2.out _ (hx.keep bD)).mono ?_; rintro r w2 ⟨rfl, bL⟩; have bb := nT bD bL; have gaS := True.intro))
 replace bA := nT bA bb
 clear bb
 by_cases q : a1 = a2
 ·obtain ⟨b1, b2⟩ := HA.out (by simp) q
  have e1 : Hid _ := b1
  have e2 : Hid _ := b2
  clear HA HB H1 H2 H3 b1 b2
  subst q
  go_wp2_with fail
  go_ret2
  rw [e1.out, e2.out]
  exact ⟨rfl, bA⟩
 ·obtain ⟨b1, b2⟩ := HB.out (Or.inr q)
  have e1 : Hid _ := b1
  have e2 : Hid _ := b2
  have q' : (a1 == a2) = false := beq_eq_false_iff_ne.2 q
  clear HA HB H1 H2 H3 b1 b2
  go_wp2_with fail
  go_ret2
  rw [e1.out, e2.out]
  exact ⟨rfl, bA⟩
end Go.Proofs.YtbhneifafnoaiaaGreatDoor
