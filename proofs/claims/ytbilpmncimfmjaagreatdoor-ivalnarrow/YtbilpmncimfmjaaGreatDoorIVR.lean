/- The document's intervals: which are right, which are the same; what is done with each end by itself. -/
import Derived.Test.YtbilpmncimfmjaaGreatDoorIVG
import Derived.Test.YtbilpmncimfmjaaGreatDoorTMP
import Derived.Test.YtbilpmncimfmjaaGreatDoorRD19
import Derived.Test.YtbilpmncimfmjaaGreatDoorTMH
import Derived.Test.YtbilpmncimfmjaaGreatDoorTMQ
import Derived.Test.YtbilpmncimfmjaaGreatDoorTMR
namespace Go.Proofs.YtbilpmncimfmjaaGreatDoor
open Go.RowKit

abbrev ivT (x y : DT) : Value := ivI x.1 x.2.1 x.2.2.1 x.2.2.2.1 x.2.2.2.2.2 y.1 y.2.1 y.2.2.1 y.2.2.2.1 y.2.2.2.2.2
def inT (w : World) (x : DT) : Prop := IsW w x.2.1 x.2.2.1 x.2.2.2.1 x.2.2.2.2.1 ∧ x.2.2.1 ≤ 17592186044000
theorem inT.keep {w w' : World} {x : DT} (h : inT w x) (b : Below w.heap.size w w') : inT w' x := ⟨h.1.keep b, h.2⟩
def rtT (x y : DT) : Bool := rtI x.1 (val x.2.2.2.2.1) x.2.2.2.2.2 y.1 (val y.2.2.2.2.1) y.2.2.2.2.2
def smT (x y : DT) : Bool := sameB x.1 x.2.2.2.2.2 x.2.2.2.2.1 y.1 y.2.2.2.2.2 y.2.2.2.2.1

set_option maxRecDepth 100000 in
set_option maxHeartbeats 2000000 in
theorem vSame_calls (x y u v : DT) (w : World) (hx : inT w x) (hy : inT w y) (hu : inT w u) (hv : inT w v) :
    Calls Tryz.prog 10 #[ivT x y, ivT u v] w fun r w' => r = .returned (.bool (smT x u && smT y v)) ∧ Below w.heap.size w w' := by
  have bA : Below w.heap.size w ((w.alloc (.cells #[.bool x.1, .slice x.2.1 x.2.2.1 x.2.2.2.1, .int .i64 x.2.2.2.2.2, .bool y.1, .slice y.2.1 y.2.2.1 y.2.2.2.1, .int .i64 y.2.2.2.2.2] 27)).alloc (.cells #[.bool u.1, .slice u.2.1 u.2.2.1 u.2.2.2.1, .int .i64 u.2.2.2.2.2, .bool v.1, .slice v.2.1 v.2.2.1 v.2.2.2.1, .int .i64 v.2.2.2.2.2] 27)) := nT (below_one _ _) (below_one _ _)
  have H1 : Hid _ := fun w' (q : IsW w' x.2.1 x.2.2.1 x.2.2.2.1 x.2.2.2.2.1) (q' : IsW w' u.2.1 u.2.2.1 u.2.2.2.1 u.2.2.2.2.1) => qSame_calls x.1 x.2.1 x.2.2.1 x.2.2.2.1 x.2.2.2.2.1 x.2.2.2.2.2 u.1 u.2.1 u.2.2.1 u.2.2.2.1 u.2.2.2.2.1 u.2.2.2.2.2 w' q (by have := hx.2; omega) q' (by have := hu.2; omega)
  have H2 : Hid _ := fun w' (q : IsW w' y.2.1 y.2.2.1 y.2.2.2.1 y.2.2.2.2.1) (q' : IsW w' v.2.1 v.2.2.1 v.2.2.2.1 v.2.2.2.2.1) => qSame_calls y.1 y.2.1 y.2.2.1 y.2.2.2.1 y.2.2.2.2.1 y.2.2.2.2.2 v.1 v.2.1 v.2.2.1 v.2.2.2.1 v.2.2.2.2.1 v.2.2.2.2.2 w' q (by have := hy.2; omega) q' (by have := hv.2; omega)
  have g1 : sameB x.1 x.2.2.2.2.2 x.2.2.2.2.1 u.1 u.2.2.2.2.2 u.2.2.2.2.1 = smT x u := rfl
  have g2 : sameB y.1 y.2.2.2.2.2 y.2.2.2.2.1 v.1 v.2.2.2.2.2 v.2.2.2.2.1 = smT y v := rfl
  rw [g1] at H1
  rw [g2] at H2
  generalize smT x u = r1 at *
  generalize smT y v = r2 at *
  clear g1 g2
  have k0 : ((w.alloc (.cells #[.bool x.1, .slice x.2.1 x.2.2.1 x.2.2.2.1, .int .i64 x.2.2.2.2.2, .bool y.1, .slice y.2.1 y.2.2.1 y.2.2.2.1, .int .i64 y.2.2.2.2.2] 27)).alloc (.cells #[.bool u.1, .slice u.2.1 u.2.2.1 u.2.2.2.1, .int .i64 u.2.2.2.2.2, .bool v.1, .slice v.2.1 v.2.2.1 v.2.2.2.1, .int .i64 v.2.2.2.2.2] 27)).cell? ⟨w.heap.size, 0, none⟩ = some (.bool x.1) := by go_simp
  have k1 : ((w.alloc (.cells #[.bool x.1, .slice x.2.1 x.2.2.1 x.2.2.2.1, .int .i64 x.2.2.2.2.2, .bool y.1, .slice y.2.1 y.2.2.1 y.2.2.2.1, .int .i64 y.2.2.2.2.2] 27)).alloc (.cells #[.bool u.1, .slice u.2.1 u.2.2.1 u.2.2.2.1, .int .i64 u.2.2.2.2.2, .bool v.1, .slice v.2.1 v.2.2.1 v.2.2.2.1, .int .i64 v.2.2.2.2.2] 27)).cell? ⟨w.heap.size, 1, none⟩ = some (.slice x.2.1 x.2.2.1 x.2.2.2.1) := by go_simp
  have k2 : ((w.alloc (.cells #[.bool x.1, .slice x.2.1 x.2.2.1 x.2.2.2.1, .int .i64 x.2.2.2.2.2, .bool y.1, .slice y.2.1 y.2.2.1 y.2.2.2.1, .int .i64 y.2.2.2.2.2] 27)).alloc (.cells #[.bool u.1, .slice u.2.1 u.2.2.1 u.2.2.2.1, .int .i64 u.2.2.2.2.2, .bool v.1, .slice v.2.1 v.2.2.1 v.2.2.2.1, .int .i64 v.2.2.2.2.2] 27)).cell? ⟨w.heap.size, 2, none⟩ = some (.int .i64 x.2.2.2.2.2) := by go_simp
  have k3 : ((w.alloc (.cells #[.bool x.1, .slice x.2.1 x.2.2.1 x.2.2.2.1, .int .i64 x.2.2.2.2.2, .bool y.1, .slice y.2.1 y.2.2.1 y.2.2.2.1, .int .i64 y.2.2.2.2.2] 27)).alloc (.cells #[.bool u.1, .slice u.2.1 u.2.2.1 u.2.2.2.1, .int .i64 u.2.2.2.2.2, .bool v.1, .slice v.2.1 v.2.2.1 v.2.2.2.1, .int .i64 v.2.2.2.2.2] 27)).cell? ⟨w.heap.size, 3, none⟩ = some (.bool y.1) := by go_simp
  have k4 : ((w.alloc (.cells #[.bool x.1, .slice x.2.1 x.2.2.1 x.2.2.2.1, .int .i64 x.2.2.2.2.2, .bool y.1, .slice y.2.1 y.2.2.1 y.2.2.2.1, .int .i64 y.2.2.2.2.2] 27)).alloc (.cells #[.bool u.1, .slice u.2.1 u.2.2.1 u.2.2.2.1, .int .i64 u.2.2.2.2.2, .bool v.1, .slice v.2.1 v.2.2.1 v.2.2.2.1, .int .i64 v.2.2.2.2.2] 27)).cell? ⟨w.heap.size, 4, none⟩ = some (.slice y.2.1 y.2.2.1 y.2.2.2.1) := by go_simp
  have k5 : ((w.alloc (.cells #[.bool x.1, .slice x.2.1 x.2.2.1 x.2.2.2.1, .int .i64 x.2.2.2.2.2, .bool y.1, .slice y.2.1 y.2.2.1 y.2.2.2.1, .int .i64 y.2.2.2.2.2] 27)).alloc (.cells #[.bool u.1, .slice u.2.1 u.2.2.1 u.2.2.2.1, .int .i64 u.2.2.2.2.2, .bool v.1, .slice v.2.1 v.2.2.1 v.2.2.2.1, .int .i64 v.2.2.2.2.2] 27)).cell? ⟨w.heap.size, 5, none⟩ = some (.int .i64 y.2.2.2.2.2) := by go_simp
  have l0 : ((w.alloc (.cells #[.bool x.1, .slice x.2.1 x.2.2.1 x.2.2.2.1, .int .i64 x.2.2.2.2.2, .bool y.1, .slice y.2.1 y.2.2.1 y.2.2.2.1, .int .i64 y.2.2.2.2.2] 27)).alloc (.cells #[.bool u.1, .slice u.2.1 u.2.2.1 u.2.2.2.1, .int .i64 u.2.2.2.2.2, .bool v.1, .slice v.2.1 v.2.2.1 v.2.2.2.1, .int .i64 v.2.2.2.2.2] 27)).cell? ⟨w.heap.size + 1, 0, none⟩ = some (.bool u.1) := by go_simp
  have l1 : ((w.alloc (.cells #[.bool x.1, .slice x.2.1 x.2.2.1 x.2.2.2.1, .int .i64 x.2.2.2.2.2, .bool y.1, .slice y.2.1 y.2.2.1 y.2.2.2.1, .int .i64 y.2.2.2.2.2] 27)).alloc (.cells #[.bool u.1, .slice u.2.1 u.2.2.1 u.2.2.2.1, .int .i64 u.2.2.2.2.2, .bool v.1, .slice v.2.1 v.2.2.1 v.2.2.2.1, .int .i64 v.2.2.2.2.2] 27)).cell? ⟨w.heap.size + 1, 1, none⟩ = some (.slice u.2.1 u.2.2.1 u.2.2.2.1) := by go_simp
  have l2 : ((w.alloc (.cells #[.bool x.1, .slice x.2.1 x.2.2.1 x.2.2.2.1, .int .i64 x.2.2.2.2.2, .bool y.1, .slice y.2.1 y.2.2.1 y.2.2.2.1, .int .i64 y.2.2.2.2.2] 27)).alloc (.cells #[.bool u.1, .slice u.2.1 u.2.2.1 u.2.2.2.1, .int .i64 u.2.2.2.2.2, .bool v.1, .slice v.2.1 v.2.2.1 v.2.2.2.1, .int .i64 v.2.2.2.2.2] 27)).cell? ⟨w.heap.size + 1, 2, none⟩ = some (.int .i64 u.2.2.2.2.2) := by go_simp
  have l3 : ((w.alloc (.cells #[.bool x.1, .slice x.2.1 x.2.2.1 x.2.2.2.1, .int .i64 x.2.2.2.2.2, .bool y.1, .slice y.2.1 y.2.2.1 y.2.2.2.1, .int .i64 y.2.2.2.2.2] 27)).alloc (.cells #[.bool u.1, .slice u.2.1 u.2.2.1 u.2.2.2.1, .int .i64 u.2.2.2.2.2, .bool v.1, .slice v.2.1 v.2.2.1 v.2.2.2.1, .int .i64 v.2.2.2.2.2] 27)).cell? ⟨w.heap.size + 1, 3, none⟩ = some (.bool v.1) := by go_simp
  have l4 : ((w.alloc (.cells #[.bool x.1, .slice x.2.1 x.2.2.1 x.2.2.2.1, .int .i64 x.2.2.2.2.2, .bool y.1, .slice y.2.1 y.2.2.1 y.2.2.2.1, .int .i64 y.2.2.2.2.2] 27)).alloc (.cells #[.bool u.1, .slice u.2.1 u.2.2.1 u.2.2.2.1, .int .i64 u.2.2.2.2.2, .bool v.1, .slice v.2.1 v.2.2.1 v.2.2.2.1, .int .i64 v.2.2.2.2.2] 27)).cell? ⟨w.heap.size + 1, 4, none⟩ = some (.slice v.2.1 v.2.2.1 v.2.2.2.1) := by go_simp
  have l5 : ((w.alloc (.cells #[.bool x.1, .slice x.2.1 x.2.2.1 x.2.2.2.1, .int .i64 x.2.2.2.2.2, .bool y.1, .slice y.2.1 y.2.2.1 y.2.2.2.1, .int .i64 y.2.2.2.2.2] 27)).alloc (.cells #[.bool u.1, .slice u.2.1 u.2.2.1 u.2.2.2.1, .int .i64 u.2.2.2.2.2, .bool v.1, .slice v.2.1 v.2.2.1 v.2.2.2.1, .int .i64 v.2.2.2.2.2] 27)).cell? ⟨w.heap.size + 1, 5, none⟩ = some (.int .i64 v.2.2.2.2.2) := by go_simp
  have hI := IsW.keep hx.1 bA
  have hJ := IsW.keep hy.1 bA
  have iI := IsW.keep hu.1 bA
  have iJ := IsW.keep hv.1 bA
  clear hx hy hu hv
  go_enter Tryz.func10, Tryz.ntmps10
  go_wp2_with fail
  generalize ((w.alloc (.cells #[.bool x.1, .slice x.2.1 x.2.2.1 x.2.2.2.1, .int .i64 x.2.2.2.2.2, .bool y.1, .slice y.2.1 y.2.2.1 y.2.2.2.1, .int .i64 y.2.2.2.2.2] 27)).alloc (.cells #[.bool u.1, .slice u.2.1 u.2.2.1 u.2.2.2.1, .int .i64 u.2.2.2.2.2, .bool v.1, .slice v.2.1 v.2.2.1 v.2.2.2.1, .int .i64 v.2.2.2.2.2] 27)) = w0 at *
  refine Calls.mono (H1.out _ hI iI) ?_
  rintro r w1 ⟨rfl, bN⟩
  replace k0 := kC bN k0
  replace l0 := kC bN l0
  replace k1 := kC bN k1
  replace l1 := kC bN l1
  replace k2 := kC bN k2
  replace l2 := kC bN l2
  replace k3 := kC bN k3
  replace l3 := kC bN l3
  replace k4 := kC bN k4
  replace l4 := kC bN l4
  replace k5 := kC bN k5
  replace l5 := kC bN l5
  replace hI := IsW.keep hI bN
  replace hJ := IsW.keep hJ bN
  replace iI := IsW.keep iI bN
  replace iJ := IsW.keep iJ bN
  replace bA := nT bA bN
  clear bN
  cases r1
  · go_wp2_with fail
    go_ret
    exact ⟨rfl, bA⟩
  go_wp2_with fail
  refine Calls.mono (H2.out _ hJ iJ) ?_
  rintro r w2 ⟨rfl, bN⟩
  replace k0 := kC bN k0
  replace l0 := kC bN l0
  replace k1 := kC bN k1
  replace l1 := kC bN l1
  replace k2 := kC bN k2
  replace l2 := kC bN l2
  replace k3 := kC bN k3
  replace l3 := kC bN l3
  replace k4 := kC bN k4
  replace l4 := kC bN l4
  replace k5 := kC bN k5
  replace l5 := kC bN l5
  replace hI := IsW.keep hI bN
  replace hJ := IsW.keep hJ bN
  replace iI := IsW.keep iI bN
  replace iJ := IsW.keep iJ bN
  replace bA := nT bA bN
  clear bN
  go_wp2_with fail
  go_ret
  exact ⟨rfl, bA⟩

end Go.Proofs.YtbilpmncimfmjaaGreatDoor
