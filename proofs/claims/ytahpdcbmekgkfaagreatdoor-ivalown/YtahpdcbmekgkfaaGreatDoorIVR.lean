/- The document's intervals: which are right, which are the same; what is done with each end by itself. -/
import Derived.Test.YtahpdcbmekgkfaaGreatDoorCR2
import Derived.Test.YtahpdcbmekgkfaaGreatDoorCR
import Derived.Test.YtahpdcbmekgkfaaGreatDoorAL
import Derived.Test.YtahpdcbmekgkfaaGreatDoorIVG
import Derived.Test.YtahpdcbmekgkfaaGreatDoorTMP
import Derived.Test.YtahpdcbmekgkfaaGreatDoorRD19
import Derived.Test.YtahpdcbmekgkfaaGreatDoorTMH
import Derived.Test.YtahpdcbmekgkfaaGreatDoorTMQ
import Derived.Test.YtahpdcbmekgkfaaGreatDoorTMF
import Derived.Test.YtahpdcbmekgkfaaGreatDoorFX
namespace Go.Proofs.YtahpdcbmekgkfaaGreatDoor
open Go.RowKit
set_option maxHeartbeats 4000000
set_option maxRecDepth 100000
abbrev ivT (x y : DT) : Value := ivI x.1 x.2.1 x.2.2.1 x.2.2.2.1 x.2.2.2.2.2 y.1 y.2.1 y.2.2.1 y.2.2.2.1 y.2.2.2.2.2
def inT (w : World) (x : DT) : Prop := IsW w x.2.1 x.2.2.1 x.2.2.2.1 x.2.2.2.2.1 ∧ x.2.2.1 ≤ 17592186044000
theorem inT.keep {w w' : World} {x : DT} (h : inT w x) (b : Below w.heap.size w w') : inT w' x := ⟨h.1.keep b, h.2⟩
def rgT (x : DT) : Bool := rightB (val x.2.2.2.2.1) x.2.2.2.2.2
def rtT (x y : DT) : Bool := rtI x.1 (val x.2.2.2.2.1) x.2.2.2.2.2 y.1 (val y.2.2.2.2.1) y.2.2.2.2.2
def smT (x y : DT) : Bool := sameB x.1 x.2.2.2.2.2 x.2.2.2.2.1 y.1 y.2.2.2.2.2 y.2.2.2.2.1
theorem rg_bounds {x : DT} (h : rgT x = true) : (-5000000 ≤ x.2.2.2.2.2 ∧ x.2.2.2.2.2 ≤ 5000000) ∧ blen (val x.2.2.2.2.1) ≤ 5000000 := by
 obtain ⟨h1, h2, h3⟩ := rightB_yes h
 have := (great_not _).1 h1
 omega
theorem vRight_calls (x y : DT) (w : World) (hx : inT w x) (hy : inT w y) :
  Calls Tryz.prog 16 #[ivT x y] w fun r w' => r = .returned (.bool (rtT x y)) ∧ Below w.heap.size w w' := by
 have bA : Below w.heap.size w (w.alloc (.cells #[.bool x.1, .slice x.2.1 x.2.2.1 x.2.2.2.1, .int .i64 x.2.2.2.2.2, .bool y.1, .slice y.2.1 y.2.2.1 y.2.2.2.1, .int .i64 y.2.2.2.2.2] 27)) := below_one _ _
 have H1 : Hid _ := fun w' (q : IsW w' x.2.1 x.2.2.1 x.2.2.2.1 x.2.2.2.2.1) => qRight_calls x.1 x.2.1 x.2.2.1 x.2.2.2.1 x.2.2.2.2.1 x.2.2.2.2.2 w' q (by have := hx.2; omega)
 have H2 : Hid _ := fun w' (q : IsW w' y.2.1 y.2.2.1 y.2.2.2.1 y.2.2.2.2.1) => qRight_calls y.1 y.2.1 y.2.2.1 y.2.2.2.1 y.2.2.2.2.1 y.2.2.2.2.2 w' q (by have := hy.2; omega)
 have H3 : Hid _ := fun w' (q : IsW w' x.2.1 x.2.2.1 x.2.2.2.1 x.2.2.2.2.1) (q' : IsW w' y.2.1 y.2.2.1 y.2.2.2.1 y.2.2.2.2.1) (a1 : rgT x = true) (a2 : rgT y = true) => qOrder_calls x.1 x.2.1 x.2.2.1 x.2.2.2.1 x.2.2.2.2.1 x.2.2.2.2.2 y.1 y.2.1 y.2.2.1 y.2.2.2.1 y.2.2.2.2.1 y.2.2.2.2.2 w' q hx.2 q' hy.2 (rg_bounds a1).1 (rg_bounds a2).1 (rg_bounds a1).2 (rg_bounds a2).2
 have HE : Hid (rtT x y = (rgT x && rgT y && decide (cmpD (formD x.1 (val x.2.2.2.2.1) x.2.2.2.2.2) (formD y.1 (val y.2.2.2.2.1) y.2.2.2.2.2) ≤ 0))) := by rw [Hid]; rfl
 have g1 : rightB (val x.2.2.2.2.1) x.2.2.2.2.2 = rgT x := rfl
 have g2 : rightB (val y.2.2.2.2.1) y.2.2.2.2.2 = rgT y := rfl
 rw [g1] at H1
 rw [g2] at H2
 generalize cmpD (formD x.1 (val x.2.2.2.2.1) x.2.2.2.2.2) (formD y.1 (val y.2.2.2.2.1) y.2.2.2.2.2) = cc at *
 generalize rtT x y = RR at *
 generalize rgT x = r1 at *
 generalize rgT y = r2 at *
 clear g1 g2
 have k0 : (w.alloc (.cells #[.bool x.1, .slice x.2.1 x.2.2.1 x.2.2.2.1, .int .i64 x.2.2.2.2.2, .bool y.1, .slice y.2.1 y.2.2.1 y.2.2.2.1, .int .i64 y.2.2.2.2.2] 27)).cell? ⟨w.heap.size, 0, none⟩ = some (.bool x.1) := by go_simp
 have k1 : (w.alloc (.cells #[.bool x.1, .slice x.2.1 x.2.2.1 x.2.2.2.1, .int .i64 x.2.2.2.2.2, .bool y.1, .slice y.2.1 y.2.2.1 y.2.2.2.1, .int .i64 y.2.2.2.2.2] 27)).cell? ⟨w.heap.size, 1, none⟩ = some (.slice x.2.1 x.2.2.1 x.2.2.2.1) := by go_simp
 have k2 : (w.alloc (.cells #[.bool x.1, .slice x.2.1 x.2.2.1 x.2.2.2.1, .int .i64 x.2.2.2.2.2, .bool y.1, .slice y.2.1 y.2.2.1 y.2.2.2.1, .int .i64 y.2.2.2.2.2] 27)).cell? ⟨w.heap.size, 2, none⟩ = some (.int .i64 x.2.2.2.2.2) := by go_simp
 have k3 : (w.alloc (.cells #[.bool x.1, .slice x.2.1 x.2.2.1 x.2.2.2.1, .int .i64 x.2.2.2.2.2, .bool y.1, .slice y.2.1 y.2.2.1 y.2.2.2.1, .int .i64 y.2.2.2.2.2] 27)).cell? ⟨w.heap.size, 3, none⟩ = some (.bool y.1) := by go_simp
 have k4 : (w.alloc (.cells #[.bool x.1, .slice x.2.1 x.2.2.1 x.2.2.2.1, .int .i64 x.2.2.2.2.2, .bool y.1, .slice y.2.1 y.2.2.1 y.2.2.2.1, .int .i64 y.2.2.2.2.2] 27)).cell? ⟨w.heap.size, 4, none⟩ = some (.slice y.2.1 y.2.2.1 y.2.2.2.1) := by go_simp
 have k5 : (w.alloc (.cells #[.bool x.1, .slice x.2.1 x.2.2.1 x.2.2.2.1, .int .i64 x.2.2.2.2.2, .bool y.1, .slice y.2.1 y.2.2.1 y.2.2.2.1, .int .i64 y.2.2.2.2.2] 27)).cell? ⟨w.heap.size, 5, none⟩ = some (.int .i64 y.2.2.2.2.2) := by go_simp
 have hI := IsW.keep hx.1 bA
 have hJ := IsW.keep hy.1 bA
 clear hx hy
 go_enter Tryz.func16, Tryz.ntmps16
 go_wp2_with fail
 generalize (w.alloc (.cells #[.bool x.1, .slice x.2.1 x.2.2.1 x.2.2.2.1, .int .i64 x.2.2.2.2.2, .bool y.1, .slice y.2.1 y.2.2.1 y.2.2.2.1, .int .i64 y.2.2.2.2.2] 27)) = w0 at *
 refine cM (H1.out _ hI) ?_
 rintro r w1 ⟨rfl, bN⟩
 revert k0 k1 k2 k3 k4 k5; refine cc6 bN ?_; intro k0 k1 k2 k3 k4 k5
 replace hI := IsW.keep hI bN
 replace hJ := IsW.keep hJ bN
 replace bA := nT bA bN
 clear bN
 cases r1
 ·have e1 : Hid (RR = false) := by rw [Hid, HE.out]; rfl
  clear HE H1 H2 H3
  go_wp2_with fail
  go_ret
  rw [e1.out]
  exact ⟨rfl, bA⟩
 go_wp2_with fail
 refine cM (H2.out _ hJ) ?_
 rintro r w2 ⟨rfl, bN⟩
 revert k0 k1 k2 k3 k4 k5; refine cc6 bN ?_; intro k0 k1 k2 k3 k4 k5
 replace hI := IsW.keep hI bN
 replace hJ := IsW.keep hJ bN
 replace bA := nT bA bN
 clear bN
 cases r2
 ·have e1 : Hid (RR = false) := by rw [Hid, HE.out]; rfl
  clear HE H1 H2 H3
  go_wp2_with fail
  go_ret
  rw [e1.out]
  exact ⟨rfl, bA⟩
 go_wp2_with fail
 refine cM (H3.out _ hI hJ (by first | rfl | trivial) (by first | rfl | trivial)) ?_
 rintro r w3 ⟨rfl, bN⟩
 revert k0 k1 k2 k3 k4 k5; refine cc6 bN ?_; intro k0 k1 k2 k3 k4 k5
 replace hI := IsW.keep hI bN
 replace hJ := IsW.keep hJ bN
 replace bA := nT bA bN
 clear bN
 have e1 : Hid (RR = decide (cc ≤ 0)) := by rw [Hid, HE.out]; rfl
 clear HE H1 H2 H3
 go_wp2_with fail
 go_ret
 rw [e1.out]
 exact ⟨rfl, bA⟩
theorem vSame_calls (x y u v : DT) (w : World) (hx : inT w x) (hy : inT w y) (hu : inT w u) (hv : inT w v) :
  Calls Tryz.prog 12 #[ivT x y, ivT u v] w fun r w' => r = .returned (.bool (smT x u && smT y v)) ∧ Below w.heap.size w w' := by
 have bA : Below w.heap.size w ((w.alloc (.cells #[.bool x.1, .slice x.2.1 x.2.2.1 x.2.2.2.1, .int .i64 x.2.2.2.2.2, .bool y.1, .slice y.2.1 y.2.2.1 y.2.2.2.1, .int .i64 y.2.2.2.2.2] 27)).alloc (.cells #[.bool u.1, .slice u.2.1 u.2.2.1 u.2.2.2.1, .int .i64 u.2.2.2.2.2, .bool v.1, .slice v.2.1 v.2.2.1 v.2.2.2.1, .int .i64 v.2.2.2.2.2] 27)) := nT (below_one _ _) (below_one _ _)
 have H1 : Hid _ := fun w' (q : IsW w' x.2.1 x.2.2.1 x.2.2.2.1 x.2.2.2.2.1) (q' : IsW w' u.2.1 u.2.2.1 u.2.2.2.1 u.2.2.2.2.1) => qSame_calls x.1 x.2.1 x.2.2.1 x.2.2.2.1 x.2.2.2.2.1 x.2.2.2.2.2 u.1 u.2.1 u.2.2.1 u.2.2.2.1 u.2.2.2.2.1 u.2.2.2.2.2 w' q (by have := hx.2; omega) q' (by have := hu.2; omega)
 have H2 : Hid _ := fun w' (q : IsW w' y.2.1 y.2.2.1 y.2.2.2.1 y.2.2.2.2.1) (q' : IsW w' v.2.1 v.2.2.1 v.2.2.2.1 v.2.2.2.2.1) => qSame_calls y.1 y.2.1 y.2.2.1 y.2.2.2.1 y.2.2.2.2.1 y.2.2.2.2.2 v.1 v.2.1 v.2.2.1 v.2.2.2.1 v.2.2.2.2.1 v.2.2.2.2.2 w' q (by have := hy.2; omega) q' (by have := hv.2; omega)
 have g1 : sameB x.1 x.2.2.2.2.2 x.2.2.2.2.1 u.1 u.2.2.2.2.2 u.2.2.2.2.1 = smT x u := rfl
 have g2 : sameB y.1 y.2.2.2.2.2 y.2.2.2.2.1 v.1 v.2.2.2.2.2 v.2.2.2.2.1 = smT y v := rfl
 rw [g1] at H1
 rw [g2] at H2
 generalize smT x u = r1 at *
 generalize smT y v = r2 at *
 clear g1 g2
 have k0 : ((w.alloc (.cells #[.bool x.1, .slice x.2.1 x.2.2.1 x.2.2.2.1, .int .i64 x.2.2.2.2.2, .bool y.1, .slice y.2.1 y.2.2.1 y.2.2.2.1, .int .i64 y.2.2.2.2.2] 27)).alloc (.cells #[.bool u.1, .slice u.2.1 u.2.2.1 u.2.2.2.1, .int .i64 u.2.2.2.2.2, .bool v.1, .slice v.2.1 v.2.2.1 v.2.2.2.1, .int .i64 v.2.2.2.2.2] 27)).cell? ⟨w.heap.size, 0, none⟩ = some (.bool x.1) := by go_simp
 have k1 : ((w.alloc (.cells #[.bool x.1, .slice x.2.1 x.2.2.1 x.2.2.2.1, .int .i64 x.2.2.2.2.2, .bool y.1, .slice y.2.1 y.2.2.1 y.2.2.2.1, .int .i64 y.2.2.2.2.2] 27)).alloc (.cells #[.bool u.1, .slice u.2.1 u.2.2.1 u.2.2.2.1, .int .i64 u.2.2.2.2.2, .bool v.1, .slice v.2.1 v.2.2.1 v.2.2.2.1, .int .i64 v.2.2.2.2.2] 27)).cell? ⟨w.heap.size, 1, none⟩ = some (.slice x.2.1 x.2.2.1 x.2.2.2.1) := by go_simp
 have k2 : ((w.alloc (.cells #[.bool x.1, .slice x.2.1 x.2.2.1 x.2.2.2.1, .int .i64 x.2.2.2.2.2, .bool y.1, .slice y.2.1 y.2.2.1 y.2.2.2.1, .int .i64 y.2.2.2.2.2] 27)).alloc (.cells #[.bool u.1, .slice u.2.1 u.2.2.1 u.2.2.2.1, .int .i64 u.2.2.2.2.2, .bool v.1, .slice v.2.1 v.2.2.1 v.2.2.2.1, .int .i64 v.2.2.2.2.2] 27)).cell? ⟨w.heap.size, 2, none⟩ = some (.int .i64 x.2.2.2.2.2) := by go_simp
 have k3 : ((w.alloc (.cells #[.bool x.1, .slice x.2.1 x.2.2.1 x.2.2.2.1, .int .i64 x.2.2.2.2.2, .bool y.1, .slice y.2.1 y.2.2.1 y.2.2.2.1, .int .i64 y.2.2.2.2.2] 27)).alloc (.cells #[.bool u.1, .slice u.2.1 u.2.2.1 u.2.2.2.1, .int .i64 u.2.2.2.2.2, .bool v.1, .slice v.2.1 v.2.2.1 v.2.2.2.1, .int .i64 v.2.2.2.2.2] 27)).cell? ⟨w.heap.size, 3, none⟩ = some (.bool y.1) := by go_simp
 have k4 : ((w.alloc (.cells #[.bool x.1, .slice x.2.1 x.2.2.1 x.2.2.2.1, .int .i64 x.2.2.2.2.2, .bool y.1, .slice y.2.1 y.2.2.1 y.2.2.2.1, .int .i64 y.2.2.2.2.2] 27)).alloc (.cells #[.bool u.1, .slice u.2.1 u.2.2.1 u.2.2.2.1, .int .i64 u.2.2.2.2.2, .bool v.1, .slice v.2.1 v.2.2.1 v.2.2.2.1, .int .i64 v.2.2.2.2.2] 27)).cell? ⟨w.heap.size, 4, none⟩ = some (.slice y.2.1 y.2.2.1 y.2.2.2.1) := by go_simp
 have k5 : ((w.alloc (.cells #[.bool x.1, .slice x.2.1 x.2.2.1 x.2.2.2.1, .int .i64 x.2.2.2.2.2, .bool y.1, .slice y.2.1 y.2.2.1 y.2.2.2.1, .int .i64 y.2.2.2.2.2] 27)).alloc (.cells #[.bool u.1, .slice u.2.1 u.2.2.1 u.2.2.2.1, .int .i64 u.2.2.2.2.2, .bool v.1, .slice v.2.1 v.2.2.1 v.2.2.2.1, .int .i64 v.2.2.2.2.2] 27)).cell? ⟨w.heap.size, 5, none⟩ = some (.int .i64 y.2.2.2.2.2) := by go_simp
 have l0 : ((w.alloc (.cells #[.bool x.1, .slice x.2.1 x.2.2.1 x.2.2.2.1, .int .i64 x.2.2.2.2.2, .bool y.1, .slice y.2.1 y.2.2.1 y.2.2.2.1, .int .i64 y.2.2.2.2.2] 27)).alloc (.cells #[.bool u.1, .slice u.2.1 u.2.2.1 u.2.2.2.1, .int .i64 u.2.2.2.2.2, .bool v.1, .slice v.2.1 v.2.2.1 v.2.2.2.1, .int .i64 v.2.2.2.2.2] 27)).cell? ⟨w.heap.size + 1, 0, none⟩ = some (.bool u.1) := by go_simp
 have l1 : ((w.alloc (.cells #[.bool x.1, .slice x.2.1 x.2.2.1 x.2.2.2.1, .int .i64 x.2.2.2.2.2, .bool y.1, .slice y.2.1 y.2.2.1 y.2.2.2.1, .int .i64 y.2.2.2.2.2] 27)).alloc (.cells #[.bool u.1, .slice u.2.1 u.2.2.1 u.2.2.2.1, .int .i64 u.2.2.2.2.2, .bool v.1, .slice v.2.1 v.2.2.1 v.2.2.2.1, .int .i64 v.2.2.2.2.2] 27)).cell? ⟨w.heap.size + 1, 1, none⟩ = some (.slice u.2.1 u.2.2.1 u.2.2.2.1) := by go_simp
 have l2 : ((w.alloc (.cells #[.bool x.1, .slice x.2.1 x.2.2.1 x.2.2.2.1, .int .i64 x.2.2.2.2.2, .bool y.1, .slice y.2.1 y.2.2.1 y.2.2.2.1, .int .i64 y.2.2.2.2.2] 27)).alloc (.cells #[.bool u.1, .slice u.2.1 u.2.2.1 u.2.2.2.1, .int .i64 u.2.2.2.2.2, .bool v.1, .slice v.2.1 v.2.2.1 v.2.2.2.1, .int .i64 v.2.2.2.2.2] 27)).cell? ⟨w.heap.size + 1, 2, none⟩ = some (.int .i64 u.2.2.2.2.2) := by go_simp
 have l3 : ((w.alloc (.cells #[.bool x.1, .slice x.2.1 x.2.2.1 x.2.2.2.1, .int .i64 x.2.2.2.2.2, .bool y.1, .slice y.2.1 y.2.2.1 y.2.2.2.1, .int .i64 y.2.2.2.2.2] 27)).alloc (.cells #[.bool u.1, .slice u.2.1 u.2.2.1 u.2.2.2.1, .int .i64 u.2.2.2.2.2, .bool v.1, .slice v.2.1 v.2.2.1 v.2.2.2.1, .int .i64 v.2.2.2.2.2] 27)).cell? ⟨w.heap.size + 1, 3, none⟩ = some (.bool v.1) := by go_simp
 have l4 : ((w.alloc (.cells #[.bool x.1, .slice x.2.1 x.2.2.1 x.2.2.2.1, .int .i64 x.2.2.2.2.2, .bool y.1, .slice y.2.1 y.2.2.1 y.2.2.2.1, .int .i64 y.2.2.2.2.2] 27)).alloc (.cells #[.bool u.1, .slice u.2.1 u.2.2.1 u.2.2.2.1, .int .i64 u.2.2.2.2.2, .bool v.1, .slice v.2.1 v.2.2.1 v.2.2.2.1, .int .i64 v.2.2.2.2.2] 27)).cell? ⟨w.heap.size + 1, 4, none⟩ = some (.slice v.2.1 v.2.2.1 v.2.2.2.1) := by go_simp
 have l5 : ((w.alloc (.cells #[.bool x.1, .slice x.2.1 x.2.2.1 x.2.2.2.1, .int .i64 x.2.2.2.2.2, .bool y.1, .slice y.2.1 y.2.2.1 y.2.2.2.1, .int .i64 y.2.2.2.2.2] 27)).alloc (.cells #[.bool u.1, .slice u.2.1 u.2.2.1 u.2.2.2.1, .int .i64 u.2.2.2.2.2, .bool v.1, .slice v.2.1 v.2.2.1 v.2.2.2.1, .int .i64 v.2.2.2.2.2] 27)).cell? ⟨w.heap.size + 1, 5, none⟩ = some (.int .i64 v.2.2.2.2.2) := by go_simp
 have hI := IsW.keep hx.1 bA
 have hJ := IsW.keep hy.1 bA
 have iI := IsW.keep hu.1 bA
 have iJ := IsW.keep hv.1 bA
 clear hx hy hu hv
 go_enter Tryz.func12, Tryz.ntmps12
 go_wp2_with fail
 generalize ((w.alloc (.cells #[.bool x.1, .slice x.2.1 x.2.2.1 x.2.2.2.1, .int .i64 x.2.2.2.2.2, .bool y.1, .slice y.2.1 y.2.2.1 y.2.2.2.1, .int .i64 y.2.2.2.2.2] 27)).alloc (.cells #[.bool u.1, .slice u.2.1 u.2.2.1 u.2.2.2.1, .int .i64 u.2.2.2.2.2, .bool v.1, .slice v.2.1 v.2.2.1 v.2.2.2.1, .int .i64 v.2.2.2.2.2] 27)) = w0 at *
 refine cM (H1.out _ hI iI) ?_
 rintro r w1 ⟨rfl, bN⟩
 revert k0 k1 k2 k3 k4 k5; refine cc6 bN ?_; intro k0 k1 k2 k3 k4 k5
 revert l0 l1 l2 l3 l4 l5; refine cc6 bN ?_; intro l0 l1 l2 l3 l4 l5
 replace hI := IsW.keep hI bN
 replace hJ := IsW.keep hJ bN
 replace iI := IsW.keep iI bN
 replace iJ := IsW.keep iJ bN
 replace bA := nT bA bN
 clear bN
 cases r1
 ·go_wp2_with fail
  go_ret
  exact ⟨rfl, bA⟩
 go_wp2_with fail
 refine cM (H2.out _ hJ iJ) ?_
 rintro r w2 ⟨rfl, bN⟩
 revert k0 k1 k2 k3 k4 k5; refine cc6 bN ?_; intro k0 k1 k2 k3 k4 k5
 revert l0 l1 l2 l3 l4 l5; refine cc6 bN ?_; intro l0 l1 l2 l3 l4 l5
 replace hI := IsW.keep hI bN
 replace hJ := IsW.keep hJ bN
 replace iI := IsW.keep iI bN
 replace iJ := IsW.keep iJ bN
 replace bA := nT bA bN
 clear bN
 go_wp2_with fail
 go_ret
 exact ⟨rfl, bA⟩
theorem vOne_calls (x y : DT) (ex : -2305843009213693952 ≤ x.2.2.2.2.2 ∧ x.2.2.2.2.2 ≤ 2305843009213693952) (ey : -2305843009213693952 ≤ y.2.2.2.2.2 ∧ y.2.2.2.2.2 ≤ 2305843009213693952) (w : World) (hx : inT w x) (hy : inT w y) :
  Calls Tryz.prog 97 #[ivT x y] w fun r w' => ∃ al nl cl ah nh ch, r = .returned (ivI (formD x.1 (val x.2.2.2.2.1) x.2.2.2.2.2).1 al nl cl (formD x.1 (val x.2.2.2.2.1) x.2.2.2.2.2).2.2 (formD y.1 (val y.2.2.2.2.1) y.2.2.2.2.2).1 ah nh ch (formD y.1 (val y.2.2.2.2.1) y.2.2.2.2.2).2.2) ∧ Hid (nl = (wO (formD x.1 (val x.2.2.2.2.1) x.2.2.2.2.2).2.1).length) ∧ Hid (nh = (wO (formD y.1 (val y.2.2.2.2.1) y.2.2.2.2.2).2.1).length) ∧ OwnW w.heap.size w' al nl cl (wO (formD x.1 (val x.2.2.2.2.1) x.2.2.2.2.2).2.1) ∧ OwnW w.heap.size w' ah nh ch (wO (formD y.1 (val y.2.2.2.2.1) y.2.2.2.2.2).2.1) ∧ Below w.heap.size w w' := by
 have bA : Below w.heap.size w ((w.alloc (.cells #[.bool x.1, .slice x.2.1 x.2.2.1 x.2.2.2.1, .int .i64 x.2.2.2.2.2, .bool y.1, .slice y.2.1 y.2.2.1 y.2.2.2.1, .int .i64 y.2.2.2.2.2] 27)).alloc (.cells #[.bool false, .slice none 0 0, .int .i64 0, .bool false, .slice none 0 0, .int .i64 0] 27)) := nT (below_one _ _) (below_one _ _)
 have HX : Hid _ := fun w' (q : IsW w' x.2.1 x.2.2.1 x.2.2.2.1 x.2.2.2.2.1) => qOne_calls x.1 x.2.1 x.2.2.1 x.2.2.2.1 x.2.2.2.2.1 x.2.2.2.2.2 w' q hx.2 (by omega)
 have HY : Hid _ := fun w' (q : IsW w' y.2.1 y.2.2.1 y.2.2.2.1 y.2.2.2.2.1) => qOne_calls y.1 y.2.1 y.2.2.1 y.2.2.2.1 y.2.2.2.2.1 y.2.2.2.2.2 w' q hy.2 (by omega)
 generalize (formD x.1 (val x.2.2.2.2.1) x.2.2.2.2.2) = P at *
 generalize (formD y.1 (val y.2.2.2.2.1) y.2.2.2.2.2) = Q at *
 have hI := IsW.keep hx.1 bA
 have hJ := IsW.keep hy.1 bA
 obtain ⟨k0, k1, k2, k3, k4, k5, z0, f0, z1, f1, z2, f2, z3, f3, z4, f4, z5, f5⟩ := fX10 w x y _ rfl
 clear hx hy
 go_enter Tryz.func97, Tryz.ntmps97
 go_upto_region 1 with fail
 generalize ((w.alloc (.cells #[.bool x.1, .slice x.2.1 x.2.2.1 x.2.2.2.1, .int .i64 x.2.2.2.2.2, .bool y.1, .slice y.2.1 y.2.2.1 y.2.2.2.1, .int .i64 y.2.2.2.2.2] 27)).alloc (.cells #[.bool false, .slice none 0 0, .int .i64 0, .bool false, .slice none 0 0, .int .i64 0] 27)) = w0 at *
 have R : Below w0.heap.size w0 (World.drew w0) := (Below.refl _ _).drew
 have lw : Hid (w.heap.size ≤ w0.heap.size) := bA.size
 refine wp_region_held (S := fun w' => AtI w.heap.size (.bool x.1) (.slice x.2.1 x.2.2.1 x.2.2.2.1) (.int .i64 x.2.2.2.2.2) (.bool y.1) (.slice y.2.1 y.2.2.1 y.2.2.2.1) (.int .i64 y.2.2.2.2.2) w') (by kernel_rfl) ?_
 change wpAnyH _ _ _ _ _ _ _ _ (World.drew w0)
 generalize World.drew w0 = wd at R ⊢
 have AA : AtI w.heap.size (.bool x.1) (.slice x.2.1 x.2.2.1 x.2.2.2.1) (.int .i64 x.2.2.2.2.2) (.bool y.1) (.slice y.2.1 y.2.2.1 y.2.2.2.1) (.int .i64 y.2.2.2.2.2) wd := ⟨kC R k0, kC R k1, kC R k2, kC R k3, kC R k4, kC R k5⟩
 clear k0 k1 k2 k3 k4 k5
 revert z0 f0 z1 f1 z2 f2 z3 f3 z4 f4 z5 f5; refine zf6 R ?_; intro z0 f0 z1 f1 z2 f2 z3 f3 z4 f4 z5 f5
 replace hI := IsW.keep hI R
 replace hJ := IsW.keep hJ R
 replace bA := nT bA R
 clear R
 refine tk 0 (.pointer (some ⟨w.heap.size, 0, none⟩)) rfl (by kernel_rfl) (fun _ _ _ h => h) (by rfl) ?y1 AA ?r1
 case y1 => (intro ww hS; obtain ⟨q0, q1, q2, q3, q4, q5⟩ := hS; go_simp; try with_reducible rfl)
 try simp only [Act.put, sA]
 refine tk 1 (dT x) rfl (by kernel_rfl) (fun _ _ _ h => h) (by rfl) ?y2 AA ?r2
 case y2 => (intro ww hS; obtain ⟨q0, q1, q2, q3, q4, q5⟩ := hS; go_simp; try with_reducible rfl)
 try simp only [Act.put]
 refine tk 3 (.pointer (some ⟨w.heap.size, 3, none⟩)) rfl (by kernel_rfl) (fun _ _ _ h => h) (by rfl) ?y3 AA ?r3
 case y3 => (intro ww hS; obtain ⟨q0, q1, q2, q3, q4, q5⟩ := hS; go_simp; try with_reducible rfl)
 try simp only [Act.put]
 refine tk 4 (dT y) rfl (by kernel_rfl) (fun _ _ _ h => h) (by rfl) ?y4 AA ?r4
 case y4 => (intro ww hS; obtain ⟨q0, q1, q2, q3, q4, q5⟩ := hS; go_simp; try with_reducible rfl)
 try simp only [Act.put]
 refine rd1 2 (by kernel_rfl) rfl fun K hK => ?_
 go_simp
 refine cM (HX.out _ hI) ?_
 rintro r w1 ⟨_, rfl, ⟨ax, nx, cx, rfl, Nx, Ox⟩, bN⟩
 replace Ox := Ox.low bA.size
 revert z0 f0 z1 f1 z2 f2 z3 f3 z4 f4 z5 f5; refine zf6 bN ?_; intro z0 f0 z1 f1 z2 f2 z3 f3 z4 f4 z5 f5
 replace hI := IsW.keep hI bN
 replace hJ := IsW.keep hJ bN
 replace bA := nT bA bN
 replace AA := AA.keep bN
 clear bN
 refine hK.out _ _ AA (fun _ => ?_)
 clear hK K
 try simp only [Act.put, sA, sZ, sS]
 refine rd1 5 (by kernel_rfl) rfl fun K hK => ?_
 go_simp
 refine cM (HY.out _ hJ) ?_
 rintro r w2 ⟨_, rfl, ⟨ay, ny, cy, rfl, Ny, Oy⟩, bN⟩
 replace Oy := Oy.low bA.size
 revert z0 f0 z1 f1 z2 f2 z3 f3 z4 f4 z5 f5; refine zf6 bN ?_; intro z0 f0 z1 f1 z2 f2 z3 f3 z4 f4 z5 f5
 replace hI := IsW.keep hI bN
 replace hJ := IsW.keep hJ bN
 replace Ox := Ox.keep bN
 replace bA := nT bA bN
 replace AA := AA.keep bN
 clear bN
 refine hK.out _ _ AA (fun _ => ?_)
 clear hK K
 try simp only [Act.put, sA, sZ, sS]
 refine rd1 6 (by kernel_rfl) rfl fun K hK => ?_
 go_simp
 refine hK.out _ _ AA (fun _ => ?_)
 clear hK K
 try simp only [Act.put, sA, sZ, sS]
 refine rd1 7 (by kernel_rfl) rfl fun K hK => ?_
 go_simp
 refine hK.out _ _ (AA.set6 (by omega) _ _ _ _ _ _) (fun _ => ?_)
 clear hK K
 try simp only [Act.put, sA, sZ, sS]
 refine wpAnyH_done (by kernel_rfl) ?_ _
 go_wp2_with fail
 have s6 := six_ofI z0 z1 z2 z3 z4 z5 (fun _ q => by cases q) (fun _ q => by cases q) (fun _ q => by cases q) (fun _ q => by cases q) (fun _ q => by cases q) (fun _ q => by cases q)
 exact bodyPost_ret (v := ivI P.1 ax nx cx P.2.2 Q.1 ay ny cy Q.2.2) (by simp [results, Tryz.results97, go_sem, z0, z1, z2, z3, z4, z5]) rfl ⟨ax, nx, cx, ay, ny, cy, rfl, Nx, Ny, ownW_sixI Ox s6 _ _ _ _ _ _, ownW_sixI Oy s6 _ _ _ _ _ _, by repeat (first | (with_reducible exact bA) | (with_reducible refine Below.setCell ?_ (by simp; try omega) _))⟩
theorem vCopy_calls (x y : DT)  (w : World) (hx : inT w x) (hy : inT w y) :
  Calls Tryz.prog 36 #[ivT x y] w fun r w' => ∃ ax cx ay cy, r = .returned (ivI x.1 ax x.2.2.1 cx x.2.2.2.2.2 y.1 ay y.2.2.1 cy y.2.2.2.2.2) ∧ OwnW w.heap.size w' ax x.2.2.1 cx x.2.2.2.2.1 ∧ OwnW w.heap.size w' ay y.2.2.1 cy y.2.2.2.2.1 ∧ Below w.heap.size w w' := by
 have bA : Below w.heap.size w ((w.alloc (.cells #[.bool x.1, .slice x.2.1 x.2.2.1 x.2.2.2.1, .int .i64 x.2.2.2.2.2, .bool y.1, .slice y.2.1 y.2.2.1 y.2.2.2.1, .int .i64 y.2.2.2.2.2] 27)).alloc (.cells #[.bool false, .slice none 0 0, .int .i64 0, .bool false, .slice none 0 0, .int .i64 0] 27)) := nT (below_one _ _) (below_one _ _)
 have HX : Hid _ := fun w' (q : IsW w' x.2.1 x.2.2.1 x.2.2.2.1 x.2.2.2.2.1) => qCopy_calls x.1 x.2.1 x.2.2.1 x.2.2.2.1 x.2.2.2.2.1 x.2.2.2.2.2 w' q (by have := hx.2; omega)
 have HY : Hid _ := fun w' (q : IsW w' y.2.1 y.2.2.1 y.2.2.2.1 y.2.2.2.2.1) => qCopy_calls y.1 y.2.1 y.2.2.1 y.2.2.2.1 y.2.2.2.2.1 y.2.2.2.2.2 w' q (by have := hy.2; omega)
 have hI := IsW.keep hx.1 bA
 have hJ := IsW.keep hy.1 bA
 obtain ⟨k0, k1, k2, k3, k4, k5, z0, f0, z1, f1, z2, f2, z3, f3, z4, f4, z5, f5⟩ := fX10 w x y _ rfl
 clear hx hy
 go_enter Tryz.func36, Tryz.ntmps36
 go_upto_region 1 with fail
 generalize ((w.alloc (.cells #[.bool x.1, .slice x.2.1 x.2.2.1 x.2.2.2.1, .int .i64 x.2.2.2.2.2, .bool y.1, .slice y.2.1 y.2.2.1 y.2.2.2.1, .int .i64 y.2.2.2.2.2] 27)).alloc (.cells #[.bool false, .slice none 0 0, .int .i64 0, .bool false, .slice none 0 0, .int .i64 0] 27)) = w0 at *
 have R : Below w0.heap.size w0 (World.drew w0) := (Below.refl _ _).drew
 have lw : Hid (w.heap.size ≤ w0.heap.size) := bA.size
 refine wp_region_held (S := fun w' => AtI w.heap.size (.bool x.1) (.slice x.2.1 x.2.2.1 x.2.2.2.1) (.int .i64 x.2.2.2.2.2) (.bool y.1) (.slice y.2.1 y.2.2.1 y.2.2.2.1) (.int .i64 y.2.2.2.2.2) w') (by kernel_rfl) ?_
 change wpAnyH _ _ _ _ _ _ _ _ (World.drew w0)
 generalize World.drew w0 = wd at R ⊢
 have AA : AtI w.heap.size (.bool x.1) (.slice x.2.1 x.2.2.1 x.2.2.2.1) (.int .i64 x.2.2.2.2.2) (.bool y.1) (.slice y.2.1 y.2.2.1 y.2.2.2.1) (.int .i64 y.2.2.2.2.2) wd := ⟨kC R k0, kC R k1, kC R k2, kC R k3, kC R k4, kC R k5⟩
 clear k0 k1 k2 k3 k4 k5
 revert z0 f0 z1 f1 z2 f2 z3 f3 z4 f4 z5 f5; refine zf6 R ?_; intro z0 f0 z1 f1 z2 f2 z3 f3 z4 f4 z5 f5
 replace hI := IsW.keep hI R
 replace hJ := IsW.keep hJ R
 replace bA := nT bA R
 clear R
 refine tk 0 (.pointer (some ⟨w.heap.size, 0, none⟩)) rfl (by kernel_rfl) (fun _ _ _ h => h) (by rfl) ?y1 AA ?r1
 case y1 => (intro ww hS; obtain ⟨q0, q1, q2, q3, q4, q5⟩ := hS; go_simp; try with_reducible rfl)
 try simp only [Act.put, sA]
 refine tk 1 (dT x) rfl (by kernel_rfl) (fun _ _ _ h => h) (by rfl) ?y2 AA ?r2
 case y2 => (intro ww hS; obtain ⟨q0, q1, q2, q3, q4, q5⟩ := hS; go_simp; try with_reducible rfl)
 try simp only [Act.put]
 refine tk 3 (.pointer (some ⟨w.heap.size, 3, none⟩)) rfl (by kernel_rfl) (fun _ _ _ h => h) (by rfl) ?y3 AA ?r3
 case y3 => (intro ww hS; obtain ⟨q0, q1, q2, q3, q4, q5⟩ := hS; go_simp; try with_reducible rfl)
 try simp only [Act.put]
 refine tk 4 (dT y) rfl (by kernel_rfl) (fun _ _ _ h => h) (by rfl) ?y4 AA ?r4
 case y4 => (intro ww hS; obtain ⟨q0, q1, q2, q3, q4, q5⟩ := hS; go_simp; try with_reducible rfl)
 try simp only [Act.put]
 refine rd1 2 (by kernel_rfl) rfl fun K hK => ?_
 go_simp
 refine cM (HX.out _ hI) ?_
 rintro r w1 ⟨ax, cx, rfl, Ox, bN⟩
 replace Ox := Ox.low bA.size
 revert z0 f0 z1 f1 z2 f2 z3 f3 z4 f4 z5 f5; refine zf6 bN ?_; intro z0 f0 z1 f1 z2 f2 z3 f3 z4 f4 z5 f5
 replace hI := IsW.keep hI bN
 replace hJ := IsW.keep hJ bN
 replace bA := nT bA bN
 replace AA := AA.keep bN
 clear bN
 refine hK.out _ _ AA (fun _ => ?_)
 clear hK K
 try simp only [Act.put, sA, sZ, sS]
 refine rd1 5 (by kernel_rfl) rfl fun K hK => ?_
 go_simp
 refine cM (HY.out _ hJ) ?_
 rintro r w2 ⟨ay, cy, rfl, Oy, bN⟩
 replace Oy := Oy.low bA.size
 revert z0 f0 z1 f1 z2 f2 z3 f3 z4 f4 z5 f5; refine zf6 bN ?_; intro z0 f0 z1 f1 z2 f2 z3 f3 z4 f4 z5 f5
 replace hI := IsW.keep hI bN
 replace hJ := IsW.keep hJ bN
 replace Ox := Ox.keep bN
 replace bA := nT bA bN
 replace AA := AA.keep bN
 clear bN
 refine hK.out _ _ AA (fun _ => ?_)
 clear hK K
 try simp only [Act.put, sA, sZ, sS]
 refine rd1 6 (by kernel_rfl) rfl fun K hK => ?_
 go_simp
 refine hK.out _ _ AA (fun _ => ?_)
 clear hK K
 try simp only [Act.put, sA, sZ, sS]
 refine rd1 7 (by kernel_rfl) rfl fun K hK => ?_
 go_simp
 refine hK.out _ _ (AA.set6 (by omega) _ _ _ _ _ _) (fun _ => ?_)
 clear hK K
 try simp only [Act.put, sA, sZ, sS]
 refine wpAnyH_done (by kernel_rfl) ?_ _
 go_wp2_with fail
 have s6 := six_ofI z0 z1 z2 z3 z4 z5 (fun _ q => by cases q) (fun _ q => by cases q) (fun _ q => by cases q) (fun _ q => by cases q) (fun _ q => by cases q) (fun _ q => by cases q)
 exact bodyPost_ret (v := ivI x.1 ax x.2.2.1 cx x.2.2.2.2.2 y.1 ay y.2.2.1 cy y.2.2.2.2.2) (by simp [results, Tryz.results36, go_sem, z0, z1, z2, z3, z4, z5]) rfl ⟨ax, cx, ay, cy, rfl, ownW_sixI Ox s6 _ _ _ _ _ _, ownW_sixI Oy s6 _ _ _ _ _ _, by repeat (first | (with_reducible exact bA) | (with_reducible refine Below.setCell ?_ (by simp; try omega) _))⟩
end Go.Proofs.YtahpdcbmekgkfaaGreatDoor
