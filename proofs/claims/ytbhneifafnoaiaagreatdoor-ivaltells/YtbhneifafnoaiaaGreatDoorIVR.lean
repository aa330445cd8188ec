/- The document's intervals: which are right, which are the same; what is done with each end by itself. -/
import Derived.Test.YtbhneifafnoaiaaGreatDoorCR
import Derived.Test.YtbhneifafnoaiaaGreatDoorIVG
import Derived.Test.YtbhneifafnoaiaaGreatDoorTMP
import Derived.Test.YtbhneifafnoaiaaGreatDoorRD19
import Derived.Test.YtbhneifafnoaiaaGreatDoorTMH
import Derived.Test.YtbhneifafnoaiaaGreatDoorTMQ
import Derived.Test.YtbhneifafnoaiaaGreatDoorTMR
import Derived.Test.YtbhneifafnoaiaaGreatDoorFX
namespace Go.Proofs.YtbhneifafnoaiaaGreatDoor
open Go.RowKit
abbrev ivT (x y : DT) : Value := ivI x.1 x.2.1 x.2.2.1 x.2.2.2.1 x.2.2.2.2.2 y.1 y.2.1 y.2.2.1 y.2.2.2.1 y.2.2.2.2.2
def inT (w : World) (x : DT) : Prop := IsW w x.2.1 x.2.2.1 x.2.2.2.1 x.2.2.2.2.1 ∧ x.2.2.1 ≤ 17592186044000
theorem inT.keep {w w' : World} {x : DT} (h : inT w x) (b : Below w.heap.size w w') : inT w' x := ⟨h.1.keep b, h.2⟩
def rgT (x : DT) : Bool := rightB (val x.2.2.2.2.1) x.2.2.2.2.2
def rtT (x y : DT) : Bool := rtI x.1 (val x.2.2.2.2.1) x.2.2.2.2.2 y.1 (val y.2.2.2.2.1) y.2.2.2.2.2
def smT (x y : DT) : Bool := sameB x.1 x.2.2.2.2.2 x.2.2.2.2.1 y.1 y.2.2.2.2.2 y.2.2.2.2.1
theorem rg_bounds {x : DT} (h : rgT x = true) : (-5000000 ≤ x.2.2.2.2.2 ∧ x.2.2.2.2.2 ≤ 5000000) ∧ blen (val x.2.2.2.2.1) ≤ 5000000 := by
 obtain ⟨h1, h2, h3⟩ := rightB_yes h
 have := (great_not _).1 h1
 omega
set_option maxRecDepth 100000 in
set_option maxHeartbeats 2000000 in
theorem vRight_calls (x y : DT) (w : World) (hx : inT w x) (hy : inT w y) :
  Calls Tryz.prog 17 #[ivT x y] w fun r w' => r = .returned (.bool (rtT x y)) ∧ Below w.heap.size w w' := by
 have bA : Below w.heap.size w (w.alloc (.cells #[.bool x.1, .slice x.2.1 x.2.2.1 x.2.2.2.1, .int .i64 x.2.2.2.2.2, .bool y.1, .slice y.2.1 y.2.2.1 y.2.2.2.1, .int .i64 y.2.2.2.2.2] 27)) := below_one _ _
 have H1 : Hid _ := fun w' (q : IsW w' x.2.1 x.2.2.1 x.2.2.2.1 x.2.2.2.2.1) => qRight_calls x.1 x.2.1 x.2.2.1 x.2.2.2.1 x.2.2.2.2.1 x.2.2.2.2.2 w' q (by have := hx.2; omega)
 have H2 : Hid _ := fun w' (q : IsW w' y.2.1 y.2.2.1 y.2.2.2.1 y.2.2.2.2.1) => qRight_calls y.1 y.2.1 y.2.2.1 y.2.2.2.1 y.2.2.2.2.1 y.2.2.2.2.2 w' q (by have := hy.2; omega)
 have H3 : Hid _ := fun w' (q : IsW w' x.2.1 x.2.2.1 x.2.2.2.1 x.2.2.2.2.1) (q' : IsW w' y.2.1 y.2.2.1 y.2.2.2.1 y.2.2.2.2.1) (a1 : rgT x = true) (a2 : rgT y = true) => qOrder_calls x.1 x.2.1 x.2.2.1 x.2.2.2.1 x.2.2.2.2.1 x.2.2.2.2.2 y.1 y.2.1 y.2.2.1 y.2.2.2.1 y.2.2.2.2.1 y.2.2.2.2.2 w' q hx.2 q' hy.2 (rg_bounds a1).1 (rg_bounds a2).1 (rg_bounds a1).2 (rg_bounds a2).2
 have HE : Hid (rtT x y = (rgT x && rgT y && decide (cmpD (formD x.1 (val x.2.2.2.2.1) x.2.2.2.2.2) (formD y.1 (val y.2.2.2.2.1) y.2.2.2.2.2) ≤ 0))) := by rw [Hid]; rfl
 have g1 : rightB (val x.2.2.2.2.1) x.2.2.2.2.2 = rgT x := rfl
 have g2 : rightB (val y.2.2.2.2.1) y.2.2.2.2.2 = rgT y := rfl
 rw [g1] at H1
 rw [g2] at H2
 generalize cmpD (formD x.1 (val x.2.2.2.2.1) x.2.2.2.2.2) (formD y.1 (val y.2.2.2.2.1) y.2.2.2.2.2) = cc at *
 generalize rtT x y = RR at *
 generalize rgT x = r1 at *
 generalize rgT y = r2 at *
 clear g1 g2
 obtain ⟨k0, k1, k2, k3, k4, k5⟩ := fX12 w x y _ rfl
 have hI := IsW.keep hx.1 bA
 have hJ := IsW.keep hy.1 bA
 clear hx hy
 go_enter Tryz.func17, Tryz.ntmps17
 go_wp2_with fail
 generalize (w.alloc (.cells #[.bool x.1, .slice x.2.1 x.2.2.1 x.2.2.2.1, .int .i64 x.2.2.2.2.2, .bool y.1, .slice y.2.1 y.2.2.1 y.2.2.2.1, .int .i64 y.2.2.2.2.2] 27)) = w0 at *
 refine Calls.mono (H1.out _ hI) ?_
 rintro r w1 ⟨rfl, bN⟩
 revert k0 k1 k2 k3 k4 k5; refine cc6 bN ?_; intro k0 k1 k2 k3 k4 k5
 replace hI := IsW.keep hI bN
 replace hJ := IsW.keep hJ bN
 replace bA := nT bA bN
 clear bN
 cases r1
 ·have e1 : Hid (RR = false) := by rw [Hid, HE.out]; rfl
  clear HE H1 H2 H3
  go_wp2_with fail
  go_ret
  rw [e1.out]
  exact ⟨rfl, bA⟩
 go_wp2_with fail
 refine Calls.mono (H2.out _ hJ) ?_
 rintro r w2 ⟨rfl, bN⟩
 revert k0 k1 k2 k3 k4 k5; refine cc6 bN ?_; intro k0 k1 k2 k3 k4 k5
 replace hI := IsW.keep hI bN
 replace hJ := IsW.keep hJ bN
 replace bA := nT bA bN
 clear bN
 cases r2
 ·have e1 : Hid (RR = false) := by rw [Hid, HE.out]; rfl
  clear HE H1 H2 H3
  go_wp2_with fail
  go_ret
  rw [e1.out]
  exact ⟨rfl, bA⟩
 go_wp2_with fail
 refine Calls.mono (H3.out _ hI hJ (by first | rfl | trivial) (by first | rfl | trivial)) ?_
 rintro r w3 ⟨rfl, bN⟩
 revert k0 k1 k2 k3 k4 k5; refine cc6 bN ?_; intro k0 k1 k2 k3 k4 k5
 replace hI := IsW.keep hI bN
 replace hJ := IsW.keep hJ bN
 replace bA := nT bA bN
 clear bN
 have e1 : Hid (RR = decide (cc ≤ 0)) := by rw [Hid, HE.out]; rfl
 clear HE H1 H2 H3
 go_wp2_with fail
 go_ret
 rw [e1.out]
 exact ⟨rfl, bA⟩
set_option maxRecDepth 100000 in
set_option maxHeartbeats 2000000 in
theorem vSame_calls (x y u v : DT) (w : World) (hx : inT w x) (hy : inT w y) (hu : inT w u) (hv : inT w v) :
  Calls Tryz.prog 30 #[ivT x y, ivT u v] w fun r w' => r = .returned (.bool (smT x u && smT y v)) ∧ Below w.heap.size w w' := by
 have bA : Below w.heap.size w ((w.alloc (.cells #[.bool x.1, .slice x.2.1 x.2.2.1 x.2.2.2.1, .int .i64 x.2.2.2.2.2, .bool y.1, .slice y.2.1 y.2.2.1 y.2.2.2.1, .int .i64 y.2.2.2.2.2] 27)).alloc (.cells #[.bool u.1, .slice u.2.1 u.2.2.1 u.2.2.2.1, .int .i64 u.2.2.2.2.2, .bool v.1, .slice v.2.1 v.2.2.1 v.2.2.2.1, .int .i64 v.2.2.2.2.2] 27)) := nT (below_one _ _) (below_one _ _)
 have H1 : Hid _ := fun w' (q : IsW w' x.2.1 x.2.2.1 x.2.2.2.1 x.2.2.2.2.1) (q' : IsW w' u.2.1 u.2.2.1 u.2.2.2.1 u.2.2.2.2.1) => qSame_calls x.1 x.2.1 x.2.2.1 x.2.2.2.1 x.2.2.2.2.1 x.2.2.2.2.2 u.1 u.2.1 u.2.2.1 u.2.2.2.1 u.2.2.2.2.1 u.2.2.2.2.2 w' q (by have := hx.2; omega) q' (by have := hu.2; omega)
 have H2 : Hid _ := fun w' (q : IsW w' y.2.1 y.2.2.1 y.2.2.2.1 y.2.2.2.2.1) (q' : IsW w' v.2.1 v.2.2.1 v.2.2.2.1 v.2.2.2.2.1) => qSame_calls y.1 y.2.1 y.2.2.1 y.2.2.2.1 y.2.2.2.2.1 y.2.2.2.2.2 v.1 v.2.1 v.2.2.1 v.2.2.2.1 v.2.2.2.2.1 v.2.2.2.2.2 w' q (by have := hy.2; omega) q' (by have := hv.2; omega)
 have g1 : sameB x.1 x.2.2.2.2.2 x.2.2.2.2.1 u.1 u.2.2.2.2.2 u.2.2.2.2.1 = smT x u := rfl
 have g2 : sameB y.1 y.2.2.2.2.2 y.2.2.2.2.1 v.1 v.2.2.2.2.2 v.2.2.2.2.1 = smT y v := rfl
 rw [g1] at H1
 rw [g2] at H2
 generalize smT x u = r1 at *
 generalize smT y v = r2 at *
 clear g1 g2
 obtain ⟨k0, k1, k2, k3, k4, k5, l0, l1, l2, l3, l4, l5⟩ := fX13 w x y u v _ rfl
 have hI := IsW.keep hx.1 bA
 have hJ := IsW.keep hy.1 bA
 have iI := IsW.keep hu.1 bA
 have iJ := IsW.keep hv.1 bA
 clear hx hy hu hv
 go_enter Tryz.func30, Tryz.ntmps30
 go_wp2_with fail
 generalize ((w.alloc (.cells #[.bool x.1, .slice x.2.1 x.2.2.1 x.2.2.2.1, .int .i64 x.2.2.2.2.2, .bool y.1, .slice y.2.1 y.2.2.1 y.2.2.2.1, .int .i64 y.2.2.2.2.2] 27)).alloc (.cells #[.bool u.1, .slice u.2.1 u.2.2.1 u.2.2.2.1, .int .i64 u.2.2.2.2.2, .bool v.1, .slice v.2.1 v.2.2.1 v.2.2.2.1, .int .i64 v.2.2.2.2.2] 27)) = w0 at *
 refine Calls.mono (H1.out _ hI iI) ?_
 rintro r w1 ⟨rfl, bN⟩
 revert k0 k1 k2 k3 k4 k5; refine cc6 bN ?_; intro k0 k1 k2 k3 k4 k5
 revert l0 l1 l2 l3 l4 l5; refine cc6 bN ?_; intro l0 l1 l2 l3 l4 l5
 replace hI := IsW.keep hI bN
 replace hJ := IsW.keep hJ bN
 replace iI := IsW.keep iI bN
 replace iJ := IsW.keep iJ bN
 replace bA := nT bA bN
 clear bN
 cases r1
 ·go_wp2_with fail
  go_ret
  exact ⟨rfl, bA⟩
 go_wp2_with fail
 refine Calls.mono (H2.out _ hJ iJ) ?_
 rintro r w2 ⟨rfl, bN⟩
 revert k0 k1 k2 k3 k4 k5; refine cc6 bN ?_; intro k0 k1 k2 k3 k4 k5
 revert l0 l1 l2 l3 l4 l5; refine cc6 bN ?_; intro l0 l1 l2 l3 l4 l5
 replace hI := IsW.keep hI bN
 replace hJ := IsW.keep hJ bN
 replace iI := IsW.keep iI bN
 replace iJ := IsW.keep iJ bN
 replace bA := nT bA bN
 clear bN
 go_wp2_with fail
 go_ret
 exact ⟨rfl, bA⟩
end Go.Proofs.YtbhneifafnoaiaaGreatDoor
