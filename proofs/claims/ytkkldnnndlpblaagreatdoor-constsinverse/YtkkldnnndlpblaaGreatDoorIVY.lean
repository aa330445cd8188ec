/- Package ival: the number that lies farthest the way that an end goes. Package ival: Add, where both sums have room. The document's intervals: which are right, which are the same; what is done with each end by itself. The document's Meets, Within, Has and Sign, in the program's words. -/
import Derived.Test.YtkkldnnndlpblaaGreatDoorIVX
import Derived.Laws.EntriesVeiled
import Derived.Test.YtkkldnnndlpblaaGreatDoorDGB
import Derived.Test.YtkkldnnndlpblaaGreatDoorRD19
import Derived.Test.YtkkldnnndlpblaaGreatDoorRDA
import Derived.Test.YtkkldnnndlpblaaGreatDoorRDB
import Derived.Deep.RegionHeld3
import Derived.Test.YtkkldnnndlpblaaGreatDoorRDD

namespace Go.Proofs.YtkkldnnndlpblaaGreatDoor
open Go.RowKit
attribute [local go_sem ↓] Go.wp_at_zero Go.wp_at_succ

abbrev DT := Bool × Option Addr × Nat × Nat × List Int × Int

abbrev dT (x : DT) : Value := dyV x.1 x.2.1 x.2.2.1 x.2.2.2.1 x.2.2.2.2.2

def okT (w : World) (x : DT) : Prop := IsW w x.2.1 x.2.2.1 x.2.2.2.1 x.2.2.2.2.1 ∧ x.2.2.1 ≤ 17592186044000 ∧ greatB (val x.2.2.2.2.1) = false ∧ -100000000 ≤ x.2.2.2.2.2 ∧ x.2.2.2.2.2 ≤ 100000000

theorem okT.keep {w w' : World} {x : DT} (h : okT w x) (b : Below w.heap.size w w') : okT w' x := ⟨h.1.keep b, h.2⟩

end Go.Proofs.YtkkldnnndlpblaaGreatDoor

namespace Go.Proofs.YtkkldnnndlpblaaGreatDoor
open Go.RowKit

def AtI (q : Nat) (v0 v1 v2 v3 v4 v5 : Value) (w : World) : Prop := w.cell? ⟨q, 0, none⟩ = some v0 ∧ w.cell? ⟨q, 1, none⟩ = some v1 ∧ w.cell? ⟨q, 2, none⟩ = some v2 ∧ w.cell? ⟨q, 3, none⟩ = some v3 ∧ w.cell? ⟨q, 4, none⟩ = some v4 ∧ w.cell? ⟨q, 5, none⟩ = some v5

theorem AtI.keep {q : Nat} {v0 v1 v2 v3 v4 v5 : Value} {w w' : World} (h : AtI q v0 v1 v2 v3 v4 v5 w) (b : Below w.heap.size w w') : AtI q v0 v1 v2 v3 v4 v5 w' := ⟨dcarry_cell b h.1, dcarry_cell b h.2.1, dcarry_cell b h.2.2.1, dcarry_cell b h.2.2.2.1, dcarry_cell b h.2.2.2.2.1, dcarry_cell b h.2.2.2.2.2⟩

theorem AtI.set6 {q r : Nat} {v0 v1 v2 v3 v4 v5 : Value} {w : World} (h : AtI q v0 v1 v2 v3 v4 v5 w) (ne : q ≠ r) (u0 u1 u2 u3 u4 u5 : Value) : AtI q v0 v1 v2 v3 v4 v5 ((((((w.setCell ⟨r, 0, none⟩ u0).setCell ⟨r, 1, none⟩ u1).setCell ⟨r, 2, none⟩ u2).setCell ⟨r, 3, none⟩ u3).setCell ⟨r, 4, none⟩ u4).setCell ⟨r, 5, none⟩ u5) := by
  have key : ∀ (V : World) (o k : Nat) (u x : Value), V.cell? ⟨q, o, none⟩ = some x → (V.setCell ⟨r, k, none⟩ u).cell? ⟨q, o, none⟩ = some x := fun V o k u x q =>
    (World.cell?_setCell_other V _ _ _ (fun e => by have := congrArg Addr.block e; simp at this; omega)).trans q
  have all : ∀ (o : Nat) (x : Value), w.cell? ⟨q, o, none⟩ = some x → ((((((w.setCell ⟨r, 0, none⟩ u0).setCell ⟨r, 1, none⟩ u1).setCell ⟨r, 2, none⟩ u2).setCell ⟨r, 3, none⟩ u3).setCell ⟨r, 4, none⟩ u4).setCell ⟨r, 5, none⟩ u5).cell? ⟨q, o, none⟩ = some x := fun o x z => key _ _ _ _ _ (key _ _ _ _ _ (key _ _ _ _ _ (key _ _ _ _ _ (key _ _ _ _ _ (key _ _ _ _ _ z)))))
  exact ⟨all _ _ h.1, all _ _ h.2.1, all _ _ h.2.2.1, all _ _ h.2.2.2.1, all _ _ h.2.2.2.2.1, all _ _ h.2.2.2.2.2⟩

end Go.Proofs.YtkkldnnndlpblaaGreatDoor

namespace Go.Proofs.YtkkldnnndlpblaaGreatDoor
open Go.RowKit

abbrev ivT (x y : DT) : Value := ivI x.1 x.2.1 x.2.2.1 x.2.2.2.1 x.2.2.2.2.2 y.1 y.2.1 y.2.2.1 y.2.2.2.1 y.2.2.2.2.2

def inT (w : World) (x : DT) : Prop := IsW w x.2.1 x.2.2.1 x.2.2.2.1 x.2.2.2.2.1 ∧ x.2.2.1 ≤ 17592186044000

theorem inT.keep {w w' : World} {x : DT} (h : inT w x) (b : Below w.heap.size w w') : inT w' x := ⟨h.1.keep b, h.2⟩

def rgT (x : DT) : Bool := rightB (val x.2.2.2.2.1) x.2.2.2.2.2

def rtT (x y : DT) : Bool := rtI x.1 (val x.2.2.2.2.1) x.2.2.2.2.2 y.1 (val y.2.2.2.2.1) y.2.2.2.2.2

def smT (x y : DT) : Bool := sameB x.1 x.2.2.2.2.2 x.2.2.2.2.1 y.1 y.2.2.2.2.2 y.2.2.2.2.1

theorem rg_bounds {x : DT} (h : rgT x = true) : (-5000000 ≤ x.2.2.2.2.2 ∧ x.2.2.2.2.2 ≤ 5000000) ∧ blen (val x.2.2.2.2.1) ≤ 5000000 := by
  obtain ⟨h1, h2, h3⟩ := rightB_yes h
  have := (great_not _).1 h1
  omega

set_option maxRecDepth 100000 in
set_option maxHeartbeats 2000000 in
theorem vRight_calls (x y : DT) (w : World) (hx : inT w x) (hy : inT w y) :
    Calls Tryz.prog 36 #[ivT x y] w fun r w' => r = .returned (.bool (rtT x y)) ∧ Below w.heap.size w w' := by
  have bA : Below w.heap.size w (w.alloc (.cells #[.bool x.1, .slice x.2.1 x.2.2.1 x.2.2.2.1, .int .i64 x.2.2.2.2.2, .bool y.1, .slice y.2.1 y.2.2.1 y.2.2.2.1, .int .i64 y.2.2.2.2.2] 28)) := below_one _ _
  have H1 : Hid _ := fun w' (q : IsW w' x.2.1 x.2.2.1 x.2.2.2.1 x.2.2.2.2.1) => qRight_calls x.1 x.2.1 x.2.2.1 x.2.2.2.1 x.2.2.2.2.1 x.2.2.2.2.2 w' q (by have := hx.2; omega)
  have H2 : Hid _ := fun w' (q : IsW w' y.2.1 y.2.2.1 y.2.2.2.1 y.2.2.2.2.1) => qRight_calls y.1 y.2.1 y.2.2.1 y.2.2.2.1 y.2.2.2.2.1 y.2.2.2.2.2 w' q (by have := hy.2; omega)
  have H3 : Hid _ := fun w' (q : IsW w' x.2.1 x.2.2.1 x.2.2.2.1 x.2.2.2.2.1) (q' : IsW w' y.2.1 y.2.2.1 y.2.2.2.1 y.2.2.2.2.1) (a1 : rgT x = true) (a2 : rgT y = true) => qOrder_calls x.1 x.2.1 x.2.2.1 x.2.2.2.1 x.2.2.2.2.1 x.2.2.2.2.2 y.1 y.2.1 y.2.2.1 y.2.2.2.1 y.2.2.2.2.1 y.2.2.2.2.2 w' q hx.2 q' hy.2 (rg_bounds a1).1 (rg_bounds a2).1 (rg_bounds a1).2 (rg_bounds a2).2
  have HE : Hid (rtT x y = (rgT x && rgT y && decide (cmpD (formD x.1 (val x.2.2.2.2.1) x.2.2.2.2.2) (formD y.1 (val y.2.2.2.2.1) y.2.2.2.2.2) ≤ 0))) := by rw [Hid]; rfl
  have g1 : rightB (val x.2.2.2.2.1) x.2.2.2.2.2 = rgT x := rfl
  have g2 : rightB (val y.2.2.2.2.1) y.2.2.2.2.2 = rgT y := rfl
  rw [g1] at H1
  rw [g2] at H2
  generalize cmpD (formD x.1 (val x.2.2.2.2.1) x.2.2.2.2.2) (formD y.1 (val y.2.2.2.2.1) y.2.2.2.2.2) = cc at *
  generalize rtT x y = RR at *
  generalize rgT x = r1 at *
  generalize rgT y = r2 at *
  clear g1 g2
  have k0 : (w.alloc (.cells #[.bool x.1, .slice x.2.1 x.2.2.1 x.2.2.2.1, .int .i64 x.2.2.2.2.2, .bool y.1, .slice y.2.1 y.2.2.1 y.2.2.2.1, .int .i64 y.2.2.2.2.2] 28)).cell? ⟨w.heap.size, 0, none⟩ = some (.bool x.1) := by go_simp
  have k1 : (w.alloc (.cells #[.bool x.1, .slice x.2.1 x.2.2.1 x.2.2.2.1, .int .i64 x.2.2.2.2.2, .bool y.1, .slice y.2.1 y.2.2.1 y.2.2.2.1, .int .i64 y.2.2.2.2.2] 28)).cell? ⟨w.heap.size, 1, none⟩ = some (.slice x.2.1 x.2.2.1 x.2.2.2.1) := by go_simp
  have k2 : (w.alloc (.cells #[.bool x.1, .slice x.2.1 x.2.2.1 x.2.2.2.1, .int .i64 x.2.2.2.2.2, .bool y.1, .slice y.2.1 y.2.2.1 y.2.2.2.1, .int .i64 y.2.2.2.2.2] 28)).cell? ⟨w.heap.size, 2, none⟩ = some (.int .i64 x.2.2.2.2.2) := by go_simp
  have k3 : (w.alloc (.cells #[.bool x.1, .slice x.2.1 x.2.2.1 x.2.2.2.1, .int .i64 x.2.2.2.2.2, .bool y.1, .slice y.2.1 y.2.2.1 y.2.2.2.1, .int .i64 y.2.2.2.2.2] 28)).cell? ⟨w.heap.size, 3, none⟩ = some (.bool y.1) := by go_simp
  have k4 : (w.alloc (.cells #[.bool x.1, .slice x.2.1 x.2.2.1 x.2.2.2.1, .int .i64 x.2.2.2.2.2, .bool y.1, .slice y.2.1 y.2.2.1 y.2.2.2.1, .int .i64 y.2.2.2.2.2] 28)).cell? ⟨w.heap.size, 4, none⟩ = some (.slice y.2.1 y.2.2.1 y.2.2.2.1) := by go_simp
  have k5 : (w.alloc (.cells #[.bool x.1, .slice x.2.1 x.2.2.1 x.2.2.2.1, .int .i64 x.2.2.2.2.2, .bool y.1, .slice y.2.1 y.2.2.1 y.2.2.2.1, .int .i64 y.2.2.2.2.2] 28)).cell? ⟨w.heap.size, 5, none⟩ = some (.int .i64 y.2.2.2.2.2) := by go_simp
  have hI := IsW.keep hx.1 bA
  have hJ := IsW.keep hy.1 bA
  clear hx hy
  go_enter Tryz.func36, Tryz.ntmps36
  go_wp2_with fail
  generalize (w.alloc (.cells #[.bool x.1, .slice x.2.1 x.2.2.1 x.2.2.2.1, .int .i64 x.2.2.2.2.2, .bool y.1, .slice y.2.1 y.2.2.1 y.2.2.2.1, .int .i64 y.2.2.2.2.2] 28)) = w0 at *
  refine Calls.mono (H1.out _ hI) ?_
  rintro r w1 ⟨rfl, bN⟩
  replace k0 := dcarry_cell bN k0
  replace k1 := dcarry_cell bN k1
  replace k2 := dcarry_cell bN k2
  replace k3 := dcarry_cell bN k3
  replace k4 := dcarry_cell bN k4
  replace k5 := dcarry_cell bN k5
  replace hI := IsW.keep hI bN
  replace hJ := IsW.keep hJ bN
  replace bA := nbelow_trans bA bN
  clear bN
  cases r1
  · have e1 : Hid (RR = false) := by rw [Hid, HE.out]; rfl
    clear HE H1 H2 H3
    go_wp2_with fail
    go_ret
    rw [e1.out]
    exact ⟨rfl, bA⟩
  go_wp2_with fail
  refine Calls.mono (H2.out _ hJ) ?_
  rintro r w2 ⟨rfl, bN⟩
  replace k0 := dcarry_cell bN k0
  replace k1 := dcarry_cell bN k1
  replace k2 := dcarry_cell bN k2
  replace k3 := dcarry_cell bN k3
  replace k4 := dcarry_cell bN k4
  replace k5 := dcarry_cell bN k5
  replace hI := IsW.keep hI bN
  replace hJ := IsW.keep hJ bN
  replace bA := nbelow_trans bA bN
  clear bN
  cases r2
  · have e1 : Hid (RR = false) := by rw [Hid, HE.out]; rfl
    clear HE H1 H2 H3
    go_wp2_with fail
    go_ret
    rw [e1.out]
    exact ⟨rfl, bA⟩
  go_wp2_with fail
  refine Calls.mono (H3.out _ hI hJ (by first | rfl | trivial) (by first | rfl | trivial)) ?_
  rintro r w3 ⟨rfl, bN⟩
  replace k0 := dcarry_cell bN k0
  replace k1 := dcarry_cell bN k1
  replace k2 := dcarry_cell bN k2
  replace k3 := dcarry_cell bN k3
  replace k4 := dcarry_cell bN k4
  replace k5 := dcarry_cell bN k5
  replace hI := IsW.keep hI bN
  replace hJ := IsW.keep hJ bN
  replace bA := nbelow_trans bA bN
  clear bN
  have e1 : Hid (RR = decide (cc ≤ 0)) := by rw [Hid, HE.out]; rfl
  clear HE H1 H2 H3
  go_wp2_with fail
  go_ret
  rw [e1.out]
  exact ⟨rfl, bA⟩

set_option maxRecDepth 100000 in
set_option maxHeartbeats 2000000 in
theorem vSame_calls (x y u v : DT) (w : World) (hx : inT w x) (hy : inT w y) (hu : inT w u) (hv : inT w v) :
    Calls Tryz.prog 12 #[ivT x y, ivT u v] w fun r w' => r = .returned (.bool (smT x u && smT y v)) ∧ Below w.heap.size w w' := by
  have bA : Below w.heap.size w ((w.alloc (.cells #[.bool x.1, .slice x.2.1 x.2.2.1 x.2.2.2.1, .int .i64 x.2.2.2.2.2, .bool y.1, .slice y.2.1 y.2.2.1 y.2.2.2.1, .int .i64 y.2.2.2.2.2] 28)).alloc (.cells #[.bool u.1, .slice u.2.1 u.2.2.1 u.2.2.2.1, .int .i64 u.2.2.2.2.2, .bool v.1, .slice v.2.1 v.2.2.1 v.2.2.2.1, .int .i64 v.2.2.2.2.2] 28)) := nbelow_trans (below_one _ _) (below_one _ _)
  have H1 : Hid _ := fun w' (q : IsW w' x.2.1 x.2.2.1 x.2.2.2.1 x.2.2.2.2.1) (q' : IsW w' u.2.1 u.2.2.1 u.2.2.2.1 u.2.2.2.2.1) => qSame_calls x.1 x.2.1 x.2.2.1 x.2.2.2.1 x.2.2.2.2.1 x.2.2.2.2.2 u.1 u.2.1 u.2.2.1 u.2.2.2.1 u.2.2.2.2.1 u.2.2.2.2.2 w' q (by have := hx.2; omega) q' (by have := hu.2; omega)
  have H2 : Hid _ := fun w' (q : IsW w' y.2.1 y.2.2.1 y.2.2.2.1 y.2.2.2.2.1) (q' : IsW w' v.2.1 v.2.2.1 v.2.2.2.1 v.2.2.2.2.1) => qSame_calls y.1 y.2.1 y.2.2.1 y.2.2.2.1 y.2.2.2.2.1 y.2.2.2.2.2 v.1 v.2.1 v.2.2.1 v.2.2.2.1 v.2.2.2.2.1 v.2.2.2.2.2 w' q (by have := hy.2; omega) q' (by have := hv.2; omega)
  have g1 : sameB x.1 x.2.2.2.2.2 x.2.2.2.2.1 u.1 u.2.2.2.2.2 u.2.2.2.2.1 = smT x u := rfl
  have g2 : sameB y.1 y.2.2.2.2.2 y.2.2.2.2.1 v.1 v.2.2.2.2.2 v.2.2.2.2.1 = smT y v := rfl
  rw [g1] at H1
  rw [g2] at H2
  generalize smT x u = r1 at *
  generalize smT y v = r2 at *
  clear g1 g2
  have k0 : ((w.alloc (.cells #[.bool x.1, .slice x.2.1 x.2.2.1 x.2.2.2.1, .int .i64 x.2.2.2.2.2, .bool y.1, .slice y.2.1 y.2.2.1 y.2.2.2.1, .int .i64 y.2.2.2.2.2] 28)).alloc (.cells #[.bool u.1, .slice u.2.1 u.2.2.1 u.2.2.2.1, .int .i64 u.2.2.2.2.2, .bool v.1, .slice v.2.1 v.2.2.1 v.2.2.2.1, .int .i64 v.2.2.2.2.2] 28)).cell? ⟨w.heap.size, 0, none⟩ = some (.bool x.1) := by go_simp
  have k1 : ((w.alloc (.cells #[.bool x.1, .slice x.2.1 x.2.2.1 x.2.2.2.1, .int .i64 x.2.2.2.2.2, .bool y.1, .slice y.2.1 y.2.2.1 y.2.2.2.1, .int .i64 y.2.2.2.2.2] 28)).alloc (.cells #[.bool u.1, .slice u.2.1 u.2.2.1 u.2.2.2.1, .int .i64 u.2.2.2.2.2, .bool v.1, .slice v.2.1 v.2.2.1 v.2.2.2.1, .int .i64 v.2.2.2.2.2] 28)).cell? ⟨w.heap.size, 1, none⟩ = some (.slice x.2.1 x.2.2.1 x.2.2.2.1) := by go_simp
  have k2 : ((w.alloc (.cells #[.bool x.1, .slice x.2.1 x.2.2.1 x.2.2.2.1, .int .i64 x.2.2.2.2.2, .bool y.1, .slice y.2.1 y.2.2.1 y.2.2.2.1, .int .i64 y.2.2.2.2.2] 28)).alloc (.cells #[.bool u.1, .slice u.2.1 u.2.2.1 u.2.2.2.1, .int .i64 u.2.2.2.2.2, .bool v.1, .slice v.2.1 v.2.2.1 v.2.2.2.1, .int .i64 v.2.2.2.2.2] 28)).cell? ⟨w.heap.size, 2, none⟩ = some (.int .i64 x.2.2.2.2.2) := by go_simp
  have k3 : ((w.alloc (.cells #[.bool x.1, .slice x.2.1 x.2.2.1 x.2.2.2.1, .int .i64 x.2.2.2.2.2, .bool y.1, .slice y.2.1 y.2.2.1 y.2.2.2.1, .int .i64 y.2.2.2.2.2] 28)).alloc (.cells #[.bool u.1, .slice u.2.1 u.2.2.1 u.2.2.2.1, .int .i64 u.2.2.2.2.2, .bool v.1, .slice v.2.1 v.2.2.1 v.2.2.2.1, .int .i64 v.2.2.2.2.2] 28)).cell? ⟨w.heap.size, 3, none⟩ = some (.bool y.1) := by go_simp
  have k4 : ((w.alloc (.cells #[.bool x.1, .slice x.2.1 x.2.2.1 x.2.2.2.1, .int .i64 x.2.2.2.2.2, .bool y.1, .slice y.2.1 y.2.2.1 y.2.2.2.1, .int .i64 y.2.2.2.2.2] 28)).alloc (.cells #[.bool u.1, .slice u.2.1 u.2.2.1 u.2.2.2.1, .int .i64 u.2.2.2.2.2, .bool v.1, .slice v.2.1 v.2.2.1 v.2.2.2.1, .int .i64 v.2.2.2.2.2] 28)).cell? ⟨w.heap.size, 4, none⟩ = some (.slice y.2.1 y.2.2.1 y.2.2.2.1) := by go_simp
  have k5 : ((w.alloc (.cells #[.bool x.1, .slice x.2.1 x.2.2.1 x.2.2.2.1, .int .i64 x.2.2.2.2.2, .bool y.1, .slice y.2.1 y.2.2.1 y.2.2.2.1, .int .i64 y.2.2.2.2.2] 28)).alloc (.cells #[.bool u.1, .slice u.2.1 u.2.2.1 u.2.2.2.1, .int .i64 u.2.2.2.2.2, .bool v.1, .slice v.2.1 v.2.2.1 v.2.2.2.1, .int .i64 v.2.2.2.2.2] 28)).cell? ⟨w.heap.size, 5, none⟩ = some (.int .i64 y.2.2.2.2.2) := by go_simp
  have l0 : ((w.alloc (.cells #[.bool x.1, .slice x.2.1 x.2.2.1 x.2.2.2.1, .int .i64 x.2.2.2.2.2, .bool y.1, .slice y.2.1 y.2.2.1 y.2.2.2.1, .int .i64 y.2.2.2.2.2] 28)).alloc (.cells #[.bool u.1, .slice u.2.1 u.2.2.1 u.2.2.2.1, .int .i64 u.2.2.2.2.2, .bool v.1, .slice v.2.1 v.2.2.1 v.2.2.2.1, .int .i64 v.2.2.2.2.2] 28)).cell? ⟨w.heap.size + 1, 0, none⟩ = some (.bool u.1) := by go_simp
  have l1 : ((w.alloc (.cells #[.bool x.1, .slice x.2.1 x.2.2.1 x.2.2.2.1, .int .i64 x.2.2.2.2.2, .bool y.1, .slice y.2.1 y.2.2.1 y.2.2.2.1, .int .i64 y.2.2.2.2.2] 28)).alloc (.cells #[.bool u.1, .slice u.2.1 u.2.2.1 u.2.2.2.1, .int .i64 u.2.2.2.2.2, .bool v.1, .slice v.2.1 v.2.2.1 v.2.2.2.1, .int .i64 v.2.2.2.2.2] 28)).cell? ⟨w.heap.size + 1, 1, none⟩ = some (.slice u.2.1 u.2.2.1 u.2.2.2.1) := by go_simp
  have l2 : ((w.alloc (.cells #[.bool x.1, .slice x.2.1 x.2.2.1 x.2.2.2.1, .int .i64 x.2.2.2.2.2, .bool y.1, .slice y.2.1 y.2.2.1 y.2.2.2.1, .int .i64 y.2.2.2.2.2] 28)).alloc (.cells #[.bool u.1, .slice u.2.1 u.2.2.1 u.2.2.2.1, .int .i64 u.2.2.2.2.2, .bool v.1, .slice v.2.1 v.2.2.1 v.2.2.2.1, .int .i64 v.2.2.2.2.2] 28)).cell? ⟨w.heap.size + 1, 2, none⟩ = some (.int .i64 u.2.2.2.2.2) := by go_simp
  have l3 : ((w.alloc (.cells #[.bool x.1, .slice x.2.1 x.2.2.1 x.2.2.2.1, .int .i64 x.2.2.2.2.2, .bool y.1, .slice y.2.1 y.2.2.1 y.2.2.2.1, .int .i64 y.2.2.2.2.2] 28)).alloc (.cells #[.bool u.1, .slice u.2.1 u.2.2.1 u.2.2.2.1, .int .i64 u.2.2.2.2.2, .bool v.1, .slice v.2.1 v.2.2.1 v.2.2.2.1, .int .i64 v.2.2.2.2.2] 28)).cell? ⟨w.heap.size + 1, 3, none⟩ = some (.bool v.1) := by go_simp
  have l4 : ((w.alloc (.cells #[.bool x.1, .slice x.2.1 x.2.2.1 x.2.2.2.1, .int .i64 x.2.2.2.2.2, .bool y.1, .slice y.2.1 y.2.2.1 y.2.2.2.1, .int .i64 y.2.2.2.2.2] 28)).alloc (.cells #[.bool u.1, .slice u.2.1 u.2.2.1 u.2.2.2.1, .int .i64 u.2.2.2.2.2, .bool v.1, .slice v.2.1 v.2.2.1 v.2.2.2.1, .int .i64 v.2.2.2.2.2] 28)).cell? ⟨w.heap.size + 1, 4, none⟩ = some (.slice v.2.1 v.2.2.1 v.2.2.2.1) := by go_simp
  have l5 : ((w.alloc (.cells #[.bool x.1, .slice x.2.1 x.2.2.1 x.2.2.2.1, .int .i64 x.2.2.2.2.2, .bool y.1, .slice y.2.1 y.2.2.1 y.2.2.2.1, .int .i64 y.2.2.2.2.2] 28)).alloc (.cells #[.bool u.1, .slice u.2.1 u.2.2.1 u.2.2.2.1, .int .i64 u.2.2.2.2.2, .bool v.1, .slice v.2.1 v.2.2.1 v.2.2.2.1, .int .i64 v.2.2.2.2.2] 28)).cell? ⟨w.heap.size + 1, 5, none⟩ = some (.int .i64 v.2.2.2.2.2) := by go_simp
  have hI := IsW.keep hx.1 bA
  have hJ := IsW.keep hy.1 bA
  have iI := IsW.keep hu.1 bA
  have iJ := IsW.keep hv.1 bA
  clear hx hy hu hv
  go_enter Tryz.func12, Tryz.ntmps12
  go_wp2_with fail
  generalize ((w.alloc (.cells #[.bool x.1, .slice x.2.1 x.2.2.1 x.2.2.2.1, .int .i64 x.2.2.2.2.2, .bool y.1, .slice y.2.1 y.2.2.1 y.2.2.2.1, .int .i64 y.2.2.2.2.2] 28)).alloc (.cells #[.bool u.1, .slice u.2.1 u.2.2.1 u.2.2.2.1, .int .i64 u.2.2.2.2.2, .bool v.1, .slice v.2.1 v.2.2.1 v.2.2.2.1, .int .i64 v.2.2.2.2.2] 28)) = w0 at *
  refine Calls.mono (H1.out _ hI iI) ?_
  rintro r w1 ⟨rfl, bN⟩
  replace k0 := dcarry_cell bN k0
  replace l0 := dcarry_cell bN l0
  replace k1 := dcarry_cell bN k1
  replace l1 := dcarry_cell bN l1
  replace k2 := dcarry_cell bN k2
  replace l2 := dcarry_cell bN l2
  replace k3 := dcarry_cell bN k3
  replace l3 := dcarry_cell bN l3
  replace k4 := dcarry_cell bN k4
  replace l4 := dcarry_cell bN l4
  replace k5 := dcarry_cell bN k5
  replace l5 := dcarry_cell bN l5
  replace hI := IsW.keep hI bN
  replace hJ := IsW.keep hJ bN
  replace iI := IsW.keep iI bN
  replace iJ := IsW.keep iJ bN
  replace bA := nbelow_trans bA bN
  clear bN
  cases r1
  · go_wp2_with fail
    go_ret
    exact ⟨rfl, bA⟩
  go_wp2_with fail
  refine Calls.mono (H2.out _ hJ iJ) ?_
  rintro r w2 ⟨rfl, bN⟩
  replace k0 := dcarry_cell bN k0
  replace l0 := dcarry_cell bN l0
  replace k1 := dcarry_cell bN k1
  replace l1 := dcarry_cell bN l1
  replace k2 := dcarry_cell bN k2
  replace l2 := dcarry_cell bN l2
  replace k3 := dcarry_cell bN k3
  replace l3 := dcarry_cell bN l3
  replace k4 := dcarry_cell bN k4
  replace l4 := dcarry_cell bN l4
  replace k5 := dcarry_cell bN k5
  replace l5 := dcarry_cell bN l5
  replace hI := IsW.keep hI bN
  replace hJ := IsW.keep hJ bN
  replace iI := IsW.keep iI bN
  replace iJ := IsW.keep iJ bN
  replace bA := nbelow_trans bA bN
  clear bN
  go_wp2_with fail
  go_ret
  exact ⟨rfl, bA⟩

end Go.Proofs.YtkkldnnndlpblaaGreatDoor

namespace Go.Proofs.YtkkldnnndlpblaaGreatDoor
open Go.RowKit

theorem rt_rg {x y : DT} (h : rtT x y = true) : rgT x = true ∧ rgT y = true := by
  unfold rtT rtI at h
  rw [Bool.and_eq_true, Bool.and_eq_true] at h
  exact h.1

def cmT (x y : DT) : Int := cmpD (formD x.1 (val x.2.2.2.2.1) x.2.2.2.2.2) (formD y.1 (val y.2.2.2.2.1) y.2.2.2.2.2)

theorem rt_cm {x y : DT} (h1 : rgT x = true) (h2 : rgT y = true) : rtT x y = decide (cmT x y ≤ 0) := by
  have e : rtT x y = (rgT x && rgT y && decide (cmT x y ≤ 0)) := rfl
  rw [e, h1, h2]
  rfl

theorem ordT_calls (x y : DT) (w : World) (hx : inT w x) (hy : inT w y) (r1 : rgT x = true) (r2 : rgT y = true) :
    Calls Tryz.prog 29 #[dyV x.1 x.2.1 x.2.2.1 x.2.2.2.1 x.2.2.2.2.2, dyV y.1 y.2.1 y.2.2.1 y.2.2.2.1 y.2.2.2.2.2] w fun r w' => r = .returned (.int .i64 (cmT x y)) ∧ Below w.heap.size w w' :=
  qOrder_calls x.1 x.2.1 x.2.2.1 x.2.2.2.1 x.2.2.2.2.1 x.2.2.2.2.2 y.1 y.2.1 y.2.2.1 y.2.2.2.1 y.2.2.2.2.1 y.2.2.2.2.2 w hx.1 hx.2 hy.1 hy.2 (rg_bounds r1).1 (rg_bounds r2).1 (rg_bounds r1).2 (rg_bounds r2).2

theorem four_and (a b c d p q : Bool) (h : a = true → b = true → (c = p ∧ d = q)) : ((a && b) && c && d) = ((a && b) && p && q) := by
  cases a with
  | false => rfl
  | true =>
    cases b with
    | false => rfl
    | true => rw [(h rfl rfl).1, (h rfl rfl).2]

set_option maxRecDepth 100000 in
set_option maxHeartbeats 4000000 in
theorem vMeets_calls (x y u v : DT) (w : World) (hx : inT w x) (hy : inT w y) (hu : inT w u) (hv : inT w v) :
    Calls Tryz.prog 15 #[ivT x y, ivT u v] w fun r w' => r = .returned (.bool (((rtT x y && rtT u v) && rtT x v && rtT u y))) ∧ Below w.heap.size w w' := by
  have bA : Below w.heap.size w ((w.alloc (.cells #[.bool x.1, .slice x.2.1 x.2.2.1 x.2.2.2.1, .int .i64 x.2.2.2.2.2, .bool y.1, .slice y.2.1 y.2.2.1 y.2.2.2.1, .int .i64 y.2.2.2.2.2] 28)).alloc (.cells #[.bool u.1, .slice u.2.1 u.2.2.1 u.2.2.2.1, .int .i64 u.2.2.2.2.2, .bool v.1, .slice v.2.1 v.2.2.1 v.2.2.2.1, .int .i64 v.2.2.2.2.2] 28)) := nbelow_trans (below_one _ _) (below_one _ _)
  have HE : Hid (((rtT x y && rtT u v) && rtT x v && rtT u y) = ((rtT x y && rtT u v) && decide (cmT x v ≤ 0) && decide (cmT u y ≤ 0))) := by
    rw [Hid]
    refine four_and _ _ _ _ _ _ fun r1 r2 => ⟨rt_cm (rt_rg r1).1 (rt_rg r2).2, rt_cm (rt_rg r2).1 (rt_rg r1).2⟩
  have H1 : Hid _ := fun W (q : inT W x) (q' : inT W y) => vRight_calls x y W q q'
  have H2 : Hid _ := fun W (q : inT W u) (q' : inT W v) => vRight_calls u v W q q'
  have H3 : Hid (∀ W, inT W x → inT W v → rtT x y = true → rtT u v = true → Calls Tryz.prog 29 #[dyV x.1 x.2.1 x.2.2.1 x.2.2.2.1 x.2.2.2.2.2, dyV v.1 v.2.1 v.2.2.1 v.2.2.2.1 v.2.2.2.2.2] W fun r w' => r = .returned (.int .i64 (cmT x v)) ∧ Below W.heap.size W w') := fun W g g' r1 r2 => ordT_calls x v W g g' (rt_rg r1).1 (rt_rg r2).2
  have H4 : Hid (∀ W, inT W u → inT W y → rtT x y = true → rtT u v = true → Calls Tryz.prog 29 #[dyV u.1 u.2.1 u.2.2.1 u.2.2.2.1 u.2.2.2.2.2, dyV y.1 y.2.1 y.2.2.1 y.2.2.2.1 y.2.2.2.2.2] W fun r w' => r = .returned (.int .i64 (cmT u y)) ∧ Below W.heap.size W w') := fun W g g' r1 r2 => ordT_calls u y W g g' (rt_rg r2).1 (rt_rg r1).2
  generalize ((rtT x y && rtT u v) && rtT x v && rtT u y) = RR at *
  generalize rtT x y = r1 at *
  generalize rtT u v = r2 at *
  generalize cmT x v = o1 at *
  generalize cmT u y = o2 at *
  have k00 : ((w.alloc (.cells #[.bool x.1, .slice x.2.1 x.2.2.1 x.2.2.2.1, .int .i64 x.2.2.2.2.2, .bool y.1, .slice y.2.1 y.2.2.1 y.2.2.2.1, .int .i64 y.2.2.2.2.2] 28)).alloc (.cells #[.bool u.1, .slice u.2.1 u.2.2.1 u.2.2.2.1, .int .i64 u.2.2.2.2.2, .bool v.1, .slice v.2.1 v.2.2.1 v.2.2.2.1, .int .i64 v.2.2.2.2.2] 28)).cell? ⟨w.heap.size, 0, none⟩ = some (.bool x.1) := by go_simp
  have k01 : ((w.alloc (.cells #[.bool x.1, .slice x.2.1 x.2.2.1 x.2.2.2.1, .int .i64 x.2.2.2.2.2, .bool y.1, .slice y.2.1 y.2.2.1 y.2.2.2.1, .int .i64 y.2.2.2.2.2] 28)).alloc (.cells #[.bool u.1, .slice u.2.1 u.2.2.1 u.2.2.2.1, .int .i64 u.2.2.2.2.2, .bool v.1, .slice v.2.1 v.2.2.1 v.2.2.2.1, .int .i64 v.2.2.2.2.2] 28)).cell? ⟨w.heap.size, 1, none⟩ = some (.slice x.2.1 x.2.2.1 x.2.2.2.1) := by go_simp
  have k02 : ((w.alloc (.cells #[.bool x.1, .slice x.2.1 x.2.2.1 x.2.2.2.1, .int .i64 x.2.2.2.2.2, .bool y.1, .slice y.2.1 y.2.2.1 y.2.2.2.1, .int .i64 y.2.2.2.2.2] 28)).alloc (.cells #[.bool u.1, .slice u.2.1 u.2.2.1 u.2.2.2.1, .int .i64 u.2.2.2.2.2, .bool v.1, .slice v.2.1 v.2.2.1 v.2.2.2.1, .int .i64 v.2.2.2.2.2] 28)).cell? ⟨w.heap.size, 2, none⟩ = some (.int .i64 x.2.2.2.2.2) := by go_simp
  have k03 : ((w.alloc (.cells #[.bool x.1, .slice x.2.1 x.2.2.1 x.2.2.2.1, .int .i64 x.2.2.2.2.2, .bool y.1, .slice y.2.1 y.2.2.1 y.2.2.2.1, .int .i64 y.2.2.2.2.2] 28)).alloc (.cells #[.bool u.1, .slice u.2.1 u.2.2.1 u.2.2.2.1, .int .i64 u.2.2.2.2.2, .bool v.1, .slice v.2.1 v.2.2.1 v.2.2.2.1, .int .i64 v.2.2.2.2.2] 28)).cell? ⟨w.heap.size, 3, none⟩ = some (.bool y.1) := by go_simp
  have k04 : ((w.alloc (.cells #[.bool x.1, .slice x.2.1 x.2.2.1 x.2.2.2.1, .int .i64 x.2.2.2.2.2, .bool y.1, .slice y.2.1 y.2.2.1 y.2.2.2.1, .int .i64 y.2.2.2.2.2] 28)).alloc (.cells #[.bool u.1, .slice u.2.1 u.2.2.1 u.2.2.2.1, .int .i64 u.2.2.2.2.2, .bool v.1, .slice v.2.1 v.2.2.1 v.2.2.2.1, .int .i64 v.2.2.2.2.2] 28)).cell? ⟨w.heap.size, 4, none⟩ = some (.slice y.2.1 y.2.2.1 y.2.2.2.1) := by go_simp
  have k05 : ((w.alloc (.cells #[.bool x.1, .slice x.2.1 x.2.2.1 x.2.2.2.1, .int .i64 x.2.2.2.2.2, .bool y.1, .slice y.2.1 y.2.2.1 y.2.2.2.1, .int .i64 y.2.2.2.2.2] 28)).alloc (.cells #[.bool u.1, .slice u.2.1 u.2.2.1 u.2.2.2.1, .int .i64 u.2.2.2.2.2, .bool v.1, .slice v.2.1 v.2.2.1 v.2.2.2.1, .int .i64 v.2.2.2.2.2] 28)).cell? ⟨w.heap.size, 5, none⟩ = some (.int .i64 y.2.2.2.2.2) := by go_simp
  have k10 : ((w.alloc (.cells #[.bool x.1, .slice x.2.1 x.2.2.1 x.2.2.2.1, .int .i64 x.2.2.2.2.2, .bool y.1, .slice y.2.1 y.2.2.1 y.2.2.2.1, .int .i64 y.2.2.2.2.2] 28)).alloc (.cells #[.bool u.1, .slice u.2.1 u.2.2.1 u.2.2.2.1, .int .i64 u.2.2.2.2.2, .bool v.1, .slice v.2.1 v.2.2.1 v.2.2.2.1, .int .i64 v.2.2.2.2.2] 28)).cell? ⟨w.heap.size + 1, 0, none⟩ = some (.bool u.1) := by go_simp
  have k11 : ((w.alloc (.cells #[.bool x.1, .slice x.2.1 x.2.2.1 x.2.2.2.1, .int .i64 x.2.2.2.2.2, .bool y.1, .slice y.2.1 y.2.2.1 y.2.2.2.1, .int .i64 y.2.2.2.2.2] 28)).alloc (.cells #[.bool u.1, .slice u.2.1 u.2.2.1 u.2.2.2.1, .int .i64 u.2.2.2.2.2, .bool v.1, .slice v.2.1 v.2.2.1 v.2.2.2.1, .int .i64 v.2.2.2.2.2] 28)).cell? ⟨w.heap.size + 1, 1, none⟩ = some (.slice u.2.1 u.2.2.1 u.2.2.2.1) := by go_simp
  have k12 : ((w.alloc (.cells #[.bool x.1, .slice x.2.1 x.2.2.1 x.2.2.2.1, .int .i64 x.2.2.2.2.2, .bool y.1, .slice y.2.1 y.2.2.1 y.2.2.2.1, .int .i64 y.2.2.2.2.2] 28)).alloc (.cells #[.bool u.1, .slice u.2.1 u.2.2.1 u.2.2.2.1, .int .i64 u.2.2.2.2.2, .bool v.1, .slice v.2.1 v.2.2.1 v.2.2.2.1, .int .i64 v.2.2.2.2.2] 28)).cell? ⟨w.heap.size + 1, 2, none⟩ = some (.int .i64 u.2.2.2.2.2) := by go_simp
  have k13 : ((w.alloc (.cells #[.bool x.1, .slice x.2.1 x.2.2.1 x.2.2.2.1, .int .i64 x.2.2.2.2.2, .bool y.1, .slice y.2.1 y.2.2.1 y.2.2.2.1, .int .i64 y.2.2.2.2.2] 28)).alloc (.cells #[.bool u.1, .slice u.2.1 u.2.2.1 u.2.2.2.1, .int .i64 u.2.2.2.2.2, .bool v.1, .slice v.2.1 v.2.2.1 v.2.2.2.1, .int .i64 v.2.2.2.2.2] 28)).cell? ⟨w.heap.size + 1, 3, none⟩ = some (.bool v.1) := by go_simp
  have k14 : ((w.alloc (.cells #[.bool x.1, .slice x.2.1 x.2.2.1 x.2.2.2.1, .int .i64 x.2.2.2.2.2, .bool y.1, .slice y.2.1 y.2.2.1 y.2.2.2.1, .int .i64 y.2.2.2.2.2] 28)).alloc (.cells #[.bool u.1, .slice u.2.1 u.2.2.1 u.2.2.2.1, .int .i64 u.2.2.2.2.2, .bool v.1, .slice v.2.1 v.2.2.1 v.2.2.2.1, .int .i64 v.2.2.2.2.2] 28)).cell? ⟨w.heap.size + 1, 4, none⟩ = some (.slice v.2.1 v.2.2.1 v.2.2.2.1) := by go_simp
  have k15 : ((w.alloc (.cells #[.bool x.1, .slice x.2.1 x.2.2.1 x.2.2.2.1, .int .i64 x.2.2.2.2.2, .bool y.1, .slice y.2.1 y.2.2.1 y.2.2.2.1, .int .i64 y.2.2.2.2.2] 28)).alloc (.cells #[.bool u.1, .slice u.2.1 u.2.2.1 u.2.2.2.1, .int .i64 u.2.2.2.2.2, .bool v.1, .slice v.2.1 v.2.2.1 v.2.2.2.1, .int .i64 v.2.2.2.2.2] 28)).cell? ⟨w.heap.size + 1, 5, none⟩ = some (.int .i64 v.2.2.2.2.2) := by go_simp
  replace hx := hx.keep bA
  replace hy := hy.keep bA
  replace hu := hu.keep bA
  replace hv := hv.keep bA
  go_enter Tryz.func15, Tryz.ntmps15
  go_wp2_with fail
  generalize ((w.alloc (.cells #[.bool x.1, .slice x.2.1 x.2.2.1 x.2.2.2.1, .int .i64 x.2.2.2.2.2, .bool y.1, .slice y.2.1 y.2.2.1 y.2.2.2.1, .int .i64 y.2.2.2.2.2] 28)).alloc (.cells #[.bool u.1, .slice u.2.1 u.2.2.1 u.2.2.2.1, .int .i64 u.2.2.2.2.2, .bool v.1, .slice v.2.1 v.2.2.1 v.2.2.2.1, .int .i64 v.2.2.2.2.2] 28)) = w0 at *
  refine Calls.mono (H1.out _ hx hy) ?_
  rintro r w1 ⟨rfl, bN⟩
  replace k00 := dcarry_cell bN k00
  replace k01 := dcarry_cell bN k01
  replace k02 := dcarry_cell bN k02
  replace k03 := dcarry_cell bN k03
  replace k04 := dcarry_cell bN k04
  replace k05 := dcarry_cell bN k05
  replace k10 := dcarry_cell bN k10
  replace k11 := dcarry_cell bN k11
  replace k12 := dcarry_cell bN k12
  replace k13 := dcarry_cell bN k13
  replace k14 := dcarry_cell bN k14
  replace k15 := dcarry_cell bN k15
  replace hx := hx.keep bN
  replace hy := hy.keep bN
  replace hu := hu.keep bN
  replace hv := hv.keep bN
  replace bA := nbelow_trans bA bN
  clear bN
  cases r1
  · have e1 : Hid (RR = false) := by rw [Hid, HE.out]; rfl
    clear HE H1 H2 H3 H4
    go_wp2_with fail
    go_ret
    rw [e1.out]
    refine ⟨?_, bA⟩
    first | rfl | (simp [go_sem]; omega) | simp_all
  go_wp2_with fail
  refine Calls.mono (H2.out _ hu hv) ?_
  rintro r w2 ⟨rfl, bN⟩
  replace k00 := dcarry_cell bN k00
  replace k01 := dcarry_cell bN k01
  replace k02 := dcarry_cell bN k02
  replace k03 := dcarry_cell bN k03
  replace k04 := dcarry_cell bN k04
  replace k05 := dcarry_cell bN k05
  replace k10 := dcarry_cell bN k10
  replace k11 := dcarry_cell bN k11
  replace k12 := dcarry_cell bN k12
  replace k13 := dcarry_cell bN k13
  replace k14 := dcarry_cell bN k14
  replace k15 := dcarry_cell bN k15
  replace hx := hx.keep bN
  replace hy := hy.keep bN
  replace hu := hu.keep bN
  replace hv := hv.keep bN
  replace bA := nbelow_trans bA bN
  clear bN
  cases r2
  · have e1 : Hid (RR = false) := by rw [Hid, HE.out]; rfl
    clear HE H1 H2 H3 H4
    go_wp2_with fail
    go_ret
    rw [e1.out]
    refine ⟨?_, bA⟩
    first | rfl | (simp [go_sem]; omega) | simp_all
  go_wp2_with fail
  refine Calls.mono (H3.out _ hx hv (by simp) (by simp)) ?_
  rintro r w3 ⟨rfl, bN⟩
  replace k00 := dcarry_cell bN k00
  replace k01 := dcarry_cell bN k01
  replace k02 := dcarry_cell bN k02
  replace k03 := dcarry_cell bN k03
  replace k04 := dcarry_cell bN k04
  replace k05 := dcarry_cell bN k05
  replace k10 := dcarry_cell bN k10
  replace k11 := dcarry_cell bN k11
  replace k12 := dcarry_cell bN k12
  replace k13 := dcarry_cell bN k13
  replace k14 := dcarry_cell bN k14
  replace k15 := dcarry_cell bN k15
  replace hx := hx.keep bN
  replace hy := hy.keep bN
  replace hu := hu.keep bN
  replace hv := hv.keep bN
  replace bA := nbelow_trans bA bN
  clear bN
  rcases Int.lt_or_le 0 o1 with q1 | q1
  · have e1 : Hid (RR = false) := by rw [Hid, HE.out, decide_eq_false (show ¬ o1 ≤ 0 by omega)]; rfl
    have q2 : ¬ o1 ≤ 0 := by omega
    clear HE H1 H2 H3 H4
    go_wp2_with fail
    go_ret
    rw [e1.out]
    refine ⟨?_, bA⟩
    first | rfl | (simp [go_sem]; omega) | simp_all
  go_wp2_with fail
  refine Calls.mono (H4.out _ hu hy (by simp) (by simp)) ?_
  rintro r w4 ⟨rfl, bN⟩
  replace k00 := dcarry_cell bN k00
  replace k01 := dcarry_cell bN k01
  replace k02 := dcarry_cell bN k02
  replace k03 := dcarry_cell bN k03
  replace k04 := dcarry_cell bN k04
  replace k05 := dcarry_cell bN k05
  replace k10 := dcarry_cell bN k10
  replace k11 := dcarry_cell bN k11
  replace k12 := dcarry_cell bN k12
  replace k13 := dcarry_cell bN k13
  replace k14 := dcarry_cell bN k14
  replace k15 := dcarry_cell bN k15
  replace hx := hx.keep bN
  replace hy := hy.keep bN
  replace hu := hu.keep bN
  replace hv := hv.keep bN
  replace bA := nbelow_trans bA bN
  clear bN
  rcases Int.lt_or_le 0 o2 with q3 | q3
  · have e1 : Hid (RR = false) := by rw [Hid, HE.out, decide_eq_false (show ¬ o2 ≤ 0 by omega), Bool.and_false]
    have q4 : ¬ o2 ≤ 0 := by omega
    clear HE H1 H2 H3 H4
    go_wp2_with fail
    go_ret
    rw [e1.out]
    refine ⟨?_, bA⟩
    first | rfl | (simp [go_sem]; omega) | simp_all
  have e1 : Hid (RR = true) := by rw [Hid, HE.out, decide_eq_true q1, decide_eq_true q3]; rfl
  clear HE H1 H2 H3 H4
  go_wp2_with fail
  go_ret
  rw [e1.out]
  refine ⟨?_, bA⟩
  first | rfl | (simp [go_sem]; omega) | simp_all

end Go.Proofs.YtkkldnnndlpblaaGreatDoor
