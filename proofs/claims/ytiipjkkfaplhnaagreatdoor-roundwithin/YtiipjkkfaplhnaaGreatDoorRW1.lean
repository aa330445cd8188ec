/- Package round: the greater amount of two; Wide. -/
import Derived.Test.YtiipjkkfaplhnaaGreatDoorRNC
import Derived.Test.YtiipjkkfaplhnaaGreatDoorRDG
import Derived.Test.YtiipjkkfaplhnaaGreatDoorRDE
namespace Go.Proofs.YtiipjkkfaplhnaaGreatDoor
open Go.RowKit

theorem isW_six {w : World} {a : Option Addr} {n c r : Nat} {xs : List Int} (h : IsW w a n c xs) (z : ∀ i, i < 6 → ∃ x, w.cell? ⟨r, i, none⟩ = some x ∧ ∀ j : Int, x ≠ .int .u64 j) (v0 v1 v2 v3 v4 v5 : Value) :
    IsW ((((((w.setCell ⟨r, 0, none⟩ v0).setCell ⟨r, 1, none⟩ v1).setCell ⟨r, 2, none⟩ v2).setCell ⟨r, 3, none⟩ v3).setCell ⟨r, 4, none⟩ v4).setCell ⟨r, 5, none⟩ v5) a n c xs := by
  obtain ⟨h1, h2, h4, h3⟩ := h
  refine ⟨h1, h2, h4, fun i hi => ?_⟩
  obtain ⟨b, off, e1, e2, e3⟩ := h3 i hi
  have ne : ∀ k, k < 6 → (⟨b, off + i, none⟩ : Addr) ≠ ⟨r, k, none⟩ := fun k hk q => by
    obtain ⟨x, hx, hn⟩ := z k hk
    rw [← q, e3] at hx
    exact hn _ (Option.some.inj hx).symm
  refine ⟨b, off, e1, by simpa using e2, ?_⟩
  rw [World.cell?_setCell_other _ _ _ _ (fun q => ne 5 (by decide) q.symm), World.cell?_setCell_other _ _ _ _ (fun q => ne 4 (by decide) q.symm), World.cell?_setCell_other _ _ _ _ (fun q => ne 3 (by decide) q.symm), World.cell?_setCell_other _ _ _ _ (fun q => ne 2 (by decide) q.symm), World.cell?_setCell_other _ _ _ _ (fun q => ne 1 (by decide) q.symm), World.cell?_setCell_other _ _ _ _ (fun q => ne 0 (by decide) q.symm)]
  exact e3
theorem six_of {w : World} {r : Nat} {x0 x1 x2 x3 x4 x5 : Value} (z0 : w.cell? ⟨r, 0, none⟩ = some x0) (z1 : w.cell? ⟨r, 1, none⟩ = some x1) (z2 : w.cell? ⟨r, 2, none⟩ = some x2) (z3 : w.cell? ⟨r, 3, none⟩ = some x3) (z4 : w.cell? ⟨r, 4, none⟩ = some x4) (z5 : w.cell? ⟨r, 5, none⟩ = some x5) (n0 : ∀ j : Int, x0 ≠ .int .u64 j) (n1 : ∀ j : Int, x1 ≠ .int .u64 j) (n2 : ∀ j : Int, x2 ≠ .int .u64 j) (n3 : ∀ j : Int, x3 ≠ .int .u64 j) (n4 : ∀ j : Int, x4 ≠ .int .u64 j) (n5 : ∀ j : Int, x5 ≠ .int .u64 j) : ∀ i, i < 6 → ∃ x, w.cell? ⟨r, i, none⟩ = some x ∧ ∀ j : Int, x ≠ .int .u64 j := fun i hi =>
  match i, hi with
  | 0, _ => ⟨_, z0, n0⟩
  | 1, _ => ⟨_, z1, n1⟩
  | 2, _ => ⟨_, z2, n2⟩
  | 3, _ => ⟨_, z3, n3⟩
  | 4, _ => ⟨_, z4, n4⟩
  | 5, _ => ⟨_, z5, n5⟩

set_option maxRecDepth 100000 in
set_option maxHeartbeats 2000000 in
theorem greater_lo (s : Bool) (a : Option Addr) (len cap : Nat) (xs : List Int) (e : Int) (s' : Bool) (a' : Option Addr) (len' cap' : Nat) (ys : List Int) (e' : Int) (w : World) (h : IsW w a len cap xs) (hm : len ≤ 17592186044000) (h' : IsW w a' len' cap' ys) (hm' : len' ≤ 17592186044000) (hT : Tab w) (hr : rightB (val xs) e = true) (hr' : rightB (val ys) e' = true) (hc : 0 < cmpD (formD false (val xs) e) (formD false (val ys) e')) :
    Calls Tryz.prog 29 #[ivV s a len cap e s' a' len' cap' e'] w fun r w' => r = .returned (dyV false a len cap e) ∧ Below w.heap.size w w' := by
  have bA : Below w.heap.size w ((w.alloc (.cells #[.bool false, .slice a len cap, .int .i64 e, .bool false, .slice a' len' cap', .int .i64 e'] 27)).alloc (.cells #[.bool false, .slice none 0 0, .int .i64 0] 25)) := nbelow_trans (below_one _ _) (below_one _ _)
  have HC : Hid _ := dcmp_yes false a len cap xs e false a' len' cap' ys e' _ (h.keep bA) (by omega) (h'.keep bA) (by omega) (hT.kept bA) hr hr'
  generalize cmpD (formD false (val xs) e) (formD false (val ys) e') = cc at *
  have c0 : ((w.alloc (.cells #[.bool false, .slice a len cap, .int .i64 e, .bool false, .slice a' len' cap', .int .i64 e'] 27)).alloc (.cells #[.bool false, .slice none 0 0, .int .i64 0] 25)).cell? ⟨w.heap.size, 0, none⟩ = some (.bool false) := by go_simp
  have c1 : ((w.alloc (.cells #[.bool false, .slice a len cap, .int .i64 e, .bool false, .slice a' len' cap', .int .i64 e'] 27)).alloc (.cells #[.bool false, .slice none 0 0, .int .i64 0] 25)).cell? ⟨w.heap.size, 1, none⟩ = some (.slice a len cap) := by go_simp
  have c2 : ((w.alloc (.cells #[.bool false, .slice a len cap, .int .i64 e, .bool false, .slice a' len' cap', .int .i64 e'] 27)).alloc (.cells #[.bool false, .slice none 0 0, .int .i64 0] 25)).cell? ⟨w.heap.size, 2, none⟩ = some (.int .i64 e) := by go_simp
  have c3 : ((w.alloc (.cells #[.bool false, .slice a len cap, .int .i64 e, .bool false, .slice a' len' cap', .int .i64 e'] 27)).alloc (.cells #[.bool false, .slice none 0 0, .int .i64 0] 25)).cell? ⟨w.heap.size, 3, none⟩ = some (.bool false) := by go_simp
  have c4 : ((w.alloc (.cells #[.bool false, .slice a len cap, .int .i64 e, .bool false, .slice a' len' cap', .int .i64 e'] 27)).alloc (.cells #[.bool false, .slice none 0 0, .int .i64 0] 25)).cell? ⟨w.heap.size, 4, none⟩ = some (.slice a' len' cap') := by go_simp
  have c5 : ((w.alloc (.cells #[.bool false, .slice a len cap, .int .i64 e, .bool false, .slice a' len' cap', .int .i64 e'] 27)).alloc (.cells #[.bool false, .slice none 0 0, .int .i64 0] 25)).cell? ⟨w.heap.size, 5, none⟩ = some (.int .i64 e') := by go_simp
  have z0 : ((w.alloc (.cells #[.bool false, .slice a len cap, .int .i64 e, .bool false, .slice a' len' cap', .int .i64 e'] 27)).alloc (.cells #[.bool false, .slice none 0 0, .int .i64 0] 25)).cell? ⟨w.heap.size + 1, 0, none⟩ = some (.bool false) := by go_simp
  have z1 : ((w.alloc (.cells #[.bool false, .slice a len cap, .int .i64 e, .bool false, .slice a' len' cap', .int .i64 e'] 27)).alloc (.cells #[.bool false, .slice none 0 0, .int .i64 0] 25)).cell? ⟨w.heap.size + 1, 1, none⟩ = some (.slice none 0 0) := by go_simp
  have z2 : ((w.alloc (.cells #[.bool false, .slice a len cap, .int .i64 e, .bool false, .slice a' len' cap', .int .i64 e'] 27)).alloc (.cells #[.bool false, .slice none 0 0, .int .i64 0] 25)).cell? ⟨w.heap.size + 1, 2, none⟩ = some (.int .i64 0) := by go_simp
  have f0 : ((w.alloc (.cells #[.bool false, .slice a len cap, .int .i64 e, .bool false, .slice a' len' cap', .int .i64 e'] 27)).alloc (.cells #[.bool false, .slice none 0 0, .int .i64 0] 25)).frozen? ⟨w.heap.size + 1, 0, none⟩ = false := by go_simp
  have f1 : ((w.alloc (.cells #[.bool false, .slice a len cap, .int .i64 e, .bool false, .slice a' len' cap', .int .i64 e'] 27)).alloc (.cells #[.bool false, .slice none 0 0, .int .i64 0] 25)).frozen? ⟨w.heap.size + 1, 1, none⟩ = false := by go_simp
  have f2 : ((w.alloc (.cells #[.bool false, .slice a len cap, .int .i64 e, .bool false, .slice a' len' cap', .int .i64 e'] 27)).alloc (.cells #[.bool false, .slice none 0 0, .int .i64 0] 25)).frozen? ⟨w.heap.size + 1, 2, none⟩ = false := by go_simp
  clear hr hr' h h' hT
  go_enter Tryz.func29, Tryz.ntmps29
  go_wp2_with fail
  generalize ((w.alloc (.cells #[.bool false, .slice a len cap, .int .i64 e, .bool false, .slice a' len' cap', .int .i64 e'] 27)).alloc (.cells #[.bool false, .slice none 0 0, .int .i64 0] 25)) = w0 at *
  refine Calls.mono HC.out ?_
  rintro r w1 ⟨rfl, bN⟩
  replace f0 := dcarry_frozen bN z0 f0
  replace f1 := dcarry_frozen bN z1 f1
  replace f2 := dcarry_frozen bN z2 f2
  replace c0 := dcarry_cell bN c0
  replace c1 := dcarry_cell bN c1
  replace c2 := dcarry_cell bN c2
  replace c3 := dcarry_cell bN c3
  replace c4 := dcarry_cell bN c4
  replace c5 := dcarry_cell bN c5
  replace z0 := dcarry_cell bN z0
  replace z1 := dcarry_cell bN z1
  replace z2 := dcarry_cell bN z2
  replace bA := nbelow_trans bA bN
  clear bN
  go_wp2_with fail
  exact bodyPost_ret (v := dyV false a len cap e) (by simp [results, Tryz.results29, go_sem, z0, z1, z2]) rfl ⟨rfl, by repeat (first | (with_reducible exact bA) | (with_reducible refine Below.setCell ?_ (by simp) _))⟩

set_option maxRecDepth 100000 in
set_option maxHeartbeats 2000000 in
theorem greater_hi (s : Bool) (a : Option Addr) (len cap : Nat) (xs : List Int) (e : Int) (s' : Bool) (a' : Option Addr) (len' cap' : Nat) (ys : List Int) (e' : Int) (w : World) (h : IsW w a len cap xs) (hm : len ≤ 17592186044000) (h' : IsW w a' len' cap' ys) (hm' : len' ≤ 17592186044000) (hT : Tab w) (hr : rightB (val xs) e = true) (hr' : rightB (val ys) e' = true) (hc : ¬ 0 < cmpD (formD false (val xs) e) (formD false (val ys) e')) :
    Calls Tryz.prog 29 #[ivV s a len cap e s' a' len' cap' e'] w fun r w' => r = .returned (dyV false a' len' cap' e') ∧ Below w.heap.size w w' := by
  have bA : Below w.heap.size w ((w.alloc (.cells #[.bool false, .slice a len cap, .int .i64 e, .bool false, .slice a' len' cap', .int .i64 e'] 27)).alloc (.cells #[.bool false, .slice none 0 0, .int .i64 0] 25)) := nbelow_trans (below_one _ _) (below_one _ _)
  have HC : Hid _ := dcmp_yes false a len cap xs e false a' len' cap' ys e' _ (h.keep bA) (by omega) (h'.keep bA) (by omega) (hT.kept bA) hr hr'
  generalize cmpD (formD false (val xs) e) (formD false (val ys) e') = cc at *
  have c0 : ((w.alloc (.cells #[.bool false, .slice a len cap, .int .i64 e, .bool false, .slice a' len' cap', .int .i64 e'] 27)).alloc (.cells #[.bool false, .slice none 0 0, .int .i64 0] 25)).cell? ⟨w.heap.size, 0, none⟩ = some (.bool false) := by go_simp
  have c1 : ((w.alloc (.cells #[.bool false, .slice a len cap, .int .i64 e, .bool false, .slice a' len' cap', .int .i64 e'] 27)).alloc (.cells #[.bool false, .slice none 0 0, .int .i64 0] 25)).cell? ⟨w.heap.size, 1, none⟩ = some (.slice a len cap) := by go_simp
  have c2 : ((w.alloc (.cells #[.bool false, .slice a len cap, .int .i64 e, .bool false, .slice a' len' cap', .int .i64 e'] 27)).alloc (.cells #[.bool false, .slice none 0 0, .int .i64 0] 25)).cell? ⟨w.heap.size, 2, none⟩ = some (.int .i64 e) := by go_simp
  have c3 : ((w.alloc (.cells #[.bool false, .slice a len cap, .int .i64 e, .bool false, .slice a' len' cap', .int .i64 e'] 27)).alloc (.cells #[.bool false, .slice none 0 0, .int .i64 0] 25)).cell? ⟨w.heap.size, 3, none⟩ = some (.bool false) := by go_simp
  have c4 : ((w.alloc (.cells #[.bool false, .slice a len cap, .int .i64 e, .bool false, .slice a' len' cap', .int .i64 e'] 27)).alloc (.cells #[.bool false, .slice none 0 0, .int .i64 0] 25)).cell? ⟨w.heap.size, 4, none⟩ = some (.slice a' len' cap') := by go_simp
  have c5 : ((w.alloc (.cells #[.bool false, .slice a len cap, .int .i64 e, .bool false, .slice a' len' cap', .int .i64 e'] 27)).alloc (.cells #[.bool false, .slice none 0 0, .int .i64 0] 25)).cell? ⟨w.heap.size, 5, none⟩ = some (.int .i64 e') := by go_simp
  have z0 : ((w.alloc (.cells #[.bool false, .slice a len cap, .int .i64 e, .bool false, .slice a' len' cap', .int .i64 e'] 27)).alloc (.cells #[.bool false, .slice none 0 0, .int .i64 0] 25)).cell? ⟨w.heap.size + 1, 0, none⟩ = some (.bool false) := by go_simp
  have z1 : ((w.alloc (.cells #[.bool false, .slice a len cap, .int .i64 e, .bool false, .slice a' len' cap', .int .i64 e'] 27)).alloc (.cells #[.bool false, .slice none 0 0, .int .i64 0] 25)).cell? ⟨w.heap.size + 1, 1, none⟩ = some (.slice none 0 0) := by go_simp
  have z2 : ((w.alloc (.cells #[.bool false, .slice a len cap, .int .i64 e, .bool false, .slice a' len' cap', .int .i64 e'] 27)).alloc (.cells #[.bool false, .slice none 0 0, .int .i64 0] 25)).cell? ⟨w.heap.size + 1, 2, none⟩ = some (.int .i64 0) := by go_simp
  have f0 : ((w.alloc (.cells #[.bool false, .slice a len cap, .int .i64 e, .bool false, .slice a' len' cap', .int .i64 e'] 27)).alloc (.cells #[.bool false, .slice none 0 0, .int .i64 0] 25)).frozen? ⟨w.heap.size + 1, 0, none⟩ = false := by go_simp
  have f1 : ((w.alloc (.cells #[.bool false, .slice a len cap, .int .i64 e, .bool false, .slice a' len' cap', .int .i64 e'] 27)).alloc (.cells #[.bool false, .slice none 0 0, .int .i64 0] 25)).frozen? ⟨w.heap.size + 1, 1, none⟩ = false := by go_simp
  have f2 : ((w.alloc (.cells #[.bool false, .slice a len cap, .int .i64 e, .bool false, .slice a' len' cap', .int .i64 e'] 27)).alloc (.cells #[.bool false, .slice none 0 0, .int .i64 0] 25)).frozen? ⟨w.heap.size + 1, 2, none⟩ = false := by go_simp
  clear hr hr' h h' hT
  go_enter Tryz.func29, Tryz.ntmps29
  go_wp2_with fail
  generalize ((w.alloc (.cells #[.bool false, .slice a len cap, .int .i64 e, .bool false, .slice a' len' cap', .int .i64 e'] 27)).alloc (.cells #[.bool false, .slice none 0 0, .int .i64 0] 25)) = w0 at *
  refine Calls.mono HC.out ?_
  rintro r w1 ⟨rfl, bN⟩
  replace f0 := dcarry_frozen bN z0 f0
  replace f1 := dcarry_frozen bN z1 f1
  replace f2 := dcarry_frozen bN z2 f2
  replace c0 := dcarry_cell bN c0
  replace c1 := dcarry_cell bN c1
  replace c2 := dcarry_cell bN c2
  replace c3 := dcarry_cell bN c3
  replace c4 := dcarry_cell bN c4
  replace c5 := dcarry_cell bN c5
  replace z0 := dcarry_cell bN z0
  replace z1 := dcarry_cell bN z1
  replace z2 := dcarry_cell bN z2
  replace bA := nbelow_trans bA bN
  clear bN
  go_wp2_with fail
  exact bodyPost_ret (v := dyV false a' len' cap' e') (by simp [results, Tryz.results29, go_sem, z0, z1, z2]) rfl ⟨rfl, by repeat (first | (with_reducible exact bA) | (with_reducible refine Below.setCell ?_ (by simp) _))⟩

/-- the margin: the greater amount times 2^-p; the two ends, with their errors -/
def mgE (m : Nat) (e : Int) (m' : Nat) (e' : Int) (p : Int) : Int := if 0 < cmpD (formD false m e) (formD false m' e') then shE false m e (-p) else shE false m' e' (-p)
def mgP (m : Nat) (e : Int) (m' : Nat) (e' : Int) (p : Int) : Bool × Nat × Int := if 0 < cmpD (formD false m e) (formD false m' e') then shP false m e (-p) else shP false m' e' (-p)
def wlE (s : Bool) (m : Nat) (e : Int) (g : Bool × Nat × Int) : Int := twE (rightB m e && rightB g.2.1 g.2.2) (sumD (formD s m e) (negD (formD g.1 g.2.1 g.2.2)))
def wlP (s : Bool) (m : Nat) (e : Int) (g : Bool × Nat × Int) : Bool × Nat × Int := twP (rightB m e && rightB g.2.1 g.2.2) (sumD (formD s m e) (negD (formD g.1 g.2.1 g.2.2)))
def whE (s : Bool) (m : Nat) (e : Int) (g : Bool × Nat × Int) : Int := twE (rightB m e && rightB g.2.1 g.2.2) (sumD (formD s m e) (formD g.1 g.2.1 g.2.2))
def whP (s : Bool) (m : Nat) (e : Int) (g : Bool × Nat × Int) : Bool × Nat × Int := twP (rightB m e && rightB g.2.1 g.2.2) (sumD (formD s m e) (formD g.1 g.2.1 g.2.2))
abbrev zIv : Value := .agg #[.bool false, .slice none 0 0, .int .i64 0, .bool false, .slice none 0 0, .int .i64 0]
set_option maxRecDepth 100000 in
set_option maxHeartbeats 4000000 in
theorem wide_x (s : Bool) (a : Option Addr) (len cap : Nat) (xs : List Int) (e : Int) (s' : Bool) (a' : Option Addr) (len' cap' : Nat) (ys : List Int) (e' : Int) (p : Int) (w : World) (h : IsW w a len cap xs) (hm : len ≤ 17592186044000) (h' : IsW w a' len' cap' ys) (hm' : len' ≤ 17592186044000) (hT : Tab w) (hr : rtB s (val xs) e s' (val ys) e' = false) :
    Calls Tryz.prog 7 #[ivV s a len cap e s' a' len' cap' e', .int .i64 p] w fun r w' => r = .returned (.tuple #[zIv, .int .i64 2]) ∧ Below w.heap.size w w' := by
  have HR : Hid _ := fun w' (g : IsW w' a len cap xs) (g' : IsW w' a' len' cap' ys) t' => rright_calls s a len cap xs e s' a' len' cap' ys e' w' g hm g' hm' t'
  rw [hr] at HR
  clear hr
  have bA : Below w.heap.size w ((w.alloc (.cells #[.bool s, .slice a len cap, .int .i64 e, .bool s', .slice a' len' cap', .int .i64 e'] 27)).alloc (.cells #[.bool false, .slice none 0 0, .int .i64 0, .bool false, .slice none 0 0, .int .i64 0] 27)) := nbelow_trans (below_one _ _) (below_one _ _)
  have hI := h.keep bA
  have hJ := h'.keep bA
  have hT0 := hT.kept bA
  have c0 : ((w.alloc (.cells #[.bool s, .slice a len cap, .int .i64 e, .bool s', .slice a' len' cap', .int .i64 e'] 27)).alloc (.cells #[.bool false, .slice none 0 0, .int .i64 0, .bool false, .slice none 0 0, .int .i64 0] 27)).cell? ⟨w.heap.size, 0, none⟩ = some (.bool s) := by go_simp
  have c1 : ((w.alloc (.cells #[.bool s, .slice a len cap, .int .i64 e, .bool s', .slice a' len' cap', .int .i64 e'] 27)).alloc (.cells #[.bool false, .slice none 0 0, .int .i64 0, .bool false, .slice none 0 0, .int .i64 0] 27)).cell? ⟨w.heap.size, 1, none⟩ = some (.slice a len cap) := by go_simp
  have c2 : ((w.alloc (.cells #[.bool s, .slice a len cap, .int .i64 e, .bool s', .slice a' len' cap', .int .i64 e'] 27)).alloc (.cells #[.bool false, .slice none 0 0, .int .i64 0, .bool false, .slice none 0 0, .int .i64 0] 27)).cell? ⟨w.heap.size, 2, none⟩ = some (.int .i64 e) := by go_simp
  have c3 : ((w.alloc (.cells #[.bool s, .slice a len cap, .int .i64 e, .bool s', .slice a' len' cap', .int .i64 e'] 27)).alloc (.cells #[.bool false, .slice none 0 0, .int .i64 0, .bool false, .slice none 0 0, .int .i64 0] 27)).cell? ⟨w.heap.size, 3, none⟩ = some (.bool s') := by go_simp
  have c4 : ((w.alloc (.cells #[.bool s, .slice a len cap, .int .i64 e, .bool s', .slice a' len' cap', .int .i64 e'] 27)).alloc (.cells #[.bool false, .slice none 0 0, .int .i64 0, .bool false, .slice none 0 0, .int .i64 0] 27)).cell? ⟨w.heap.size, 4, none⟩ = some (.slice a' len' cap') := by go_simp
  have c5 : ((w.alloc (.cells #[.bool s, .slice a len cap, .int .i64 e, .bool s', .slice a' len' cap', .int .i64 e'] 27)).alloc (.cells #[.bool false, .slice none 0 0, .int .i64 0, .bool false, .slice none 0 0, .int .i64 0] 27)).cell? ⟨w.heap.size, 5, none⟩ = some (.int .i64 e') := by go_simp
  have z0 : ((w.alloc (.cells #[.bool s, .slice a len cap, .int .i64 e, .bool s', .slice a' len' cap', .int .i64 e'] 27)).alloc (.cells #[.bool false, .slice none 0 0, .int .i64 0, .bool false, .slice none 0 0, .int .i64 0] 27)).cell? ⟨w.heap.size + 1, 0, none⟩ = some (.bool false) := by go_simp
  have f0 : ((w.alloc (.cells #[.bool s, .slice a len cap, .int .i64 e, .bool s', .slice a' len' cap', .int .i64 e'] 27)).alloc (.cells #[.bool false, .slice none 0 0, .int .i64 0, .bool false, .slice none 0 0, .int .i64 0] 27)).frozen? ⟨w.heap.size + 1, 0, none⟩ = false := by go_simp
  have z1 : ((w.alloc (.cells #[.bool s, .slice a len cap, .int .i64 e, .bool s', .slice a' len' cap', .int .i64 e'] 27)).alloc (.cells #[.bool false, .slice none 0 0, .int .i64 0, .bool false, .slice none 0 0, .int .i64 0] 27)).cell? ⟨w.heap.size + 1, 1, none⟩ = some (.slice none 0 0) := by go_simp
  have f1 : ((w.alloc (.cells #[.bool s, .slice a len cap, .int .i64 e, .bool s', .slice a' len' cap', .int .i64 e'] 27)).alloc (.cells #[.bool false, .slice none 0 0, .int .i64 0, .bool false, .slice none 0 0, .int .i64 0] 27)).frozen? ⟨w.heap.size + 1, 1, none⟩ = false := by go_simp
  have z2 : ((w.alloc (.cells #[.bool s, .slice a len cap, .int .i64 e, .bool s', .slice a' len' cap', .int .i64 e'] 27)).alloc (.cells #[.bool false, .slice none 0 0, .int .i64 0, .bool false, .slice none 0 0, .int .i64 0] 27)).cell? ⟨w.heap.size + 1, 2, none⟩ = some (.int .i64 0) := by go_simp
  have f2 : ((w.alloc (.cells #[.bool s, .slice a len cap, .int .i64 e, .bool s', .slice a' len' cap', .int .i64 e'] 27)).alloc (.cells #[.bool false, .slice none 0 0, .int .i64 0, .bool false, .slice none 0 0, .int .i64 0] 27)).frozen? ⟨w.heap.size + 1, 2, none⟩ = false := by go_simp
  have z3 : ((w.alloc (.cells #[.bool s, .slice a len cap, .int .i64 e, .bool s', .slice a' len' cap', .int .i64 e'] 27)).alloc (.cells #[.bool false, .slice none 0 0, .int .i64 0, .bool false, .slice none 0 0, .int .i64 0] 27)).cell? ⟨w.heap.size + 1, 3, none⟩ = some (.bool false) := by go_simp
  have f3 : ((w.alloc (.cells #[.bool s, .slice a len cap, .int .i64 e, .bool s', .slice a' len' cap', .int .i64 e'] 27)).alloc (.cells #[.bool false, .slice none 0 0, .int .i64 0, .bool false, .slice none 0 0, .int .i64 0] 27)).frozen? ⟨w.heap.size + 1, 3, none⟩ = false := by go_simp
  have z4 : ((w.alloc (.cells #[.bool s, .slice a len cap, .int .i64 e, .bool s', .slice a' len' cap', .int .i64 e'] 27)).alloc (.cells #[.bool false, .slice none 0 0, .int .i64 0, .bool false, .slice none 0 0, .int .i64 0] 27)).cell? ⟨w.heap.size + 1, 4, none⟩ = some (.slice none 0 0) := by go_simp
  have f4 : ((w.alloc (.cells #[.bool s, .slice a len cap, .int .i64 e, .bool s', .slice a' len' cap', .int .i64 e'] 27)).alloc (.cells #[.bool false, .slice none 0 0, .int .i64 0, .bool false, .slice none 0 0, .int .i64 0] 27)).frozen? ⟨w.heap.size + 1, 4, none⟩ = false := by go_simp
  have z5 : ((w.alloc (.cells #[.bool s, .slice a len cap, .int .i64 e, .bool s', .slice a' len' cap', .int .i64 e'] 27)).alloc (.cells #[.bool false, .slice none 0 0, .int .i64 0, .bool false, .slice none 0 0, .int .i64 0] 27)).cell? ⟨w.heap.size + 1, 5, none⟩ = some (.int .i64 0) := by go_simp
  have f5 : ((w.alloc (.cells #[.bool s, .slice a len cap, .int .i64 e, .bool s', .slice a' len' cap', .int .i64 e'] 27)).alloc (.cells #[.bool false, .slice none 0 0, .int .i64 0, .bool false, .slice none 0 0, .int .i64 0] 27)).frozen? ⟨w.heap.size + 1, 5, none⟩ = false := by go_simp
  clear h h' hT
  go_enter Tryz.func7, Tryz.ntmps7
  go_wp2_with fail
  generalize ((w.alloc (.cells #[.bool s, .slice a len cap, .int .i64 e, .bool s', .slice a' len' cap', .int .i64 e'] 27)).alloc (.cells #[.bool false, .slice none 0 0, .int .i64 0, .bool false, .slice none 0 0, .int .i64 0] 27)) = w0 at *
  refine Calls.mono (HR.out _ hI hJ hT0) ?_
  rintro r w1 ⟨rfl, bN⟩
  replace f0 := dcarry_frozen bN z0 f0
  replace f1 := dcarry_frozen bN z1 f1
  replace f2 := dcarry_frozen bN z2 f2
  replace f3 := dcarry_frozen bN z3 f3
  replace f4 := dcarry_frozen bN z4 f4
  replace f5 := dcarry_frozen bN z5 f5
  replace c0 := dcarry_cell bN c0
  replace c1 := dcarry_cell bN c1
  replace c2 := dcarry_cell bN c2
  replace c3 := dcarry_cell bN c3
  replace c4 := dcarry_cell bN c4
  replace c5 := dcarry_cell bN c5
  replace z0 := dcarry_cell bN z0
  replace z1 := dcarry_cell bN z1
  replace z2 := dcarry_cell bN z2
  replace z3 := dcarry_cell bN z3
  replace z4 := dcarry_cell bN z4
  replace z5 := dcarry_cell bN z5
  replace hI := IsW.keep hI bN
  replace hJ := IsW.keep hJ bN
  replace hT0 := hT0.kept bN
  replace bA := nbelow_trans bA bN
  clear bN
  go_wp2_with fail
  exact bodyPost_ret (v := .tuple #[zIv, .int .i64 2]) (by simp [results, Tryz.results7, go_sem, zIv, z0, z1, z2, z3, z4, z5]) rfl ⟨rfl, by repeat (first | (with_reducible exact bA) | (with_reducible refine Below.setCell ?_ (by simp) _))⟩

set_option maxRecDepth 100000 in
set_option maxHeartbeats 4000000 in
theorem wide_n (s : Bool) (a : Option Addr) (len cap : Nat) (xs : List Int) (e : Int) (s' : Bool) (a' : Option Addr) (len' cap' : Nat) (ys : List Int) (e' : Int) (p : Int) (w : World) (h : IsW w a len cap xs) (hm : len ≤ 17592186044000) (h' : IsW w a' len' cap' ys) (hm' : len' ≤ 17592186044000) (hT : Tab w) (hr : rtB s (val xs) e s' (val ys) e' = true) (hp : p < 0) :
    Calls Tryz.prog 7 #[ivV s a len cap e s' a' len' cap' e', .int .i64 p] w fun r w' => r = .returned (.tuple #[zIv, .int .i64 2]) ∧ Below w.heap.size w w' := by
  have HR : Hid _ := fun w' (g : IsW w' a len cap xs) (g' : IsW w' a' len' cap' ys) t' => rright_calls s a len cap xs e s' a' len' cap' ys e' w' g hm g' hm' t'
  rw [hr] at HR
  clear hr
  have bA : Below w.heap.size w ((w.alloc (.cells #[.bool s, .slice a len cap, .int .i64 e, .bool s', .slice a' len' cap', .int .i64 e'] 27)).alloc (.cells #[.bool false, .slice none 0 0, .int .i64 0, .bool false, .slice none 0 0, .int .i64 0] 27)) := nbelow_trans (below_one _ _) (below_one _ _)
  have hI := h.keep bA
  have hJ := h'.keep bA
  have hT0 := hT.kept bA
  have c0 : ((w.alloc (.cells #[.bool s, .slice a len cap, .int .i64 e, .bool s', .slice a' len' cap', .int .i64 e'] 27)).alloc (.cells #[.bool false, .slice none 0 0, .int .i64 0, .bool false, .slice none 0 0, .int .i64 0] 27)).cell? ⟨w.heap.size, 0, none⟩ = some (.bool s) := by go_simp
  have c1 : ((w.alloc (.cells #[.bool s, .slice a len cap, .int .i64 e, .bool s', .slice a' len' cap', .int .i64 e'] 27)).alloc (.cells #[.bool false, .slice none 0 0, .int .i64 0, .bool false, .slice none 0 0, .int .i64 0] 27)).cell? ⟨w.heap.size, 1, none⟩ = some (.slice a len cap) := by go_simp
  have c2 : ((w.alloc (.cells #[.bool s, .slice a len cap, .int .i64 e, .bool s', .slice a' len' cap', .int .i64 e'] 27)).alloc (.cells #[.bool false, .slice none 0 0, .int .i64 0, .bool false, .slice none 0 0, .int .i64 0] 27)).cell? ⟨w.heap.size, 2, none⟩ = some (.int .i64 e) := by go_simp
  have c3 : ((w.alloc (.cells #[.bool s, .slice a len cap, .int .i64 e, .bool s', .slice a' len' cap', .int .i64 e'] 27)).alloc (.cells #[.bool false, .slice none 0 0, .int .i64 0, .bool false, .slice none 0 0, .int .i64 0] 27)).cell? ⟨w.heap.size, 3, none⟩ = some (.bool s') := by go_simp
  have c4 : ((w.alloc (.cells #[.bool s, .slice a len cap, .int .i64 e, .bool s', .slice a' len' cap', .int .i64 e'] 27)).alloc (.cells #[.bool false, .slice none 0 0, .int .i64 0, .bool false, .slice none 0 0, .int .i64 0] 27)).cell? ⟨w.heap.size, 4, none⟩ = some (.slice a' len' cap') := by go_simp
  have c5 : ((w.alloc (.cells #[.bool s, .slice a len cap, .int .i64 e, .bool s', .slice a' len' cap', .int .i64 e'] 27)).alloc (.cells #[.bool false, .slice none 0 0, .int .i64 0, .bool false, .slice none 0 0, .int .i64 0] 27)).cell? ⟨w.heap.size, 5, none⟩ = some (.int .i64 e') := by go_simp
  have z0 : ((w.alloc (.cells #[.bool s, .slice a len cap, .int .i64 e, .bool s', .slice a' len' cap', .int .i64 e'] 27)).alloc (.cells #[.bool false, .slice none 0 0, .int .i64 0, .bool false, .slice none 0 0, .int .i64 0] 27)).cell? ⟨w.heap.size + 1, 0, none⟩ = some (.bool false) := by go_simp
  have f0 : ((w.alloc (.cells #[.bool s, .slice a len cap, .int .i64 e, .bool s', .slice a' len' cap', .int .i64 e'] 27)).alloc (.cells #[.bool false, .slice none 0 0, .int .i64 0, .bool false, .slice none 0 0, .int .i64 0] 27)).frozen? ⟨w.heap.size + 1, 0, none⟩ = false := by go_simp
  have z1 : ((w.alloc (.cells #[.bool s, .slice a len cap, .int .i64 e, .bool s', .slice a' len' cap', .int .i64 e'] 27)).alloc (.cells #[.bool false, .slice none 0 0, .int .i64 0, .bool false, .slice none 0 0, .int .i64 0] 27)).cell? ⟨w.heap.size + 1, 1, none⟩ = some (.slice none 0 0) := by go_simp
  have f1 : ((w.alloc (.cells #[.bool s, .slice a len cap, .int .i64 e, .bool s', .slice a' len' cap', .int .i64 e'] 27)).alloc (.cells #[.bool false, .slice none 0 0, .int .i64 0, .bool false, .slice none 0 0, .int .i64 0] 27)).frozen? ⟨w.heap.size + 1, 1, none⟩ = false := by go_simp
  have z2 : ((w.alloc (.cells #[.bool s, .slice a len cap, .int .i64 e, .bool s', .slice a' len' cap', .int .i64 e'] 27)).alloc (.cells #[.bool false, .slice none 0 0, .int .i64 0, .bool false, .slice none 0 0, .int .i64 0] 27)).cell? ⟨w.heap.size + 1, 2, none⟩ = some (.int .i64 0) := by go_simp
  have f2 : ((w.alloc (.cells #[.bool s, .slice a len cap, .int .i64 e, .bool s', .slice a' len' cap', .int .i64 e'] 27)).alloc (.cells #[.bool false, .slice none 0 0, .int .i64 0, .bool false, .slice none 0 0, .int .i64 0] 27)).frozen? ⟨w.heap.size + 1, 2, none⟩ = false := by go_simp
  have z3 : ((w.alloc (.cells #[.bool s, .slice a len cap, .int .i64 e, .bool s', .slice a' len' cap', .int .i64 e'] 27)).alloc (.cells #[.bool false, .slice none 0 0, .int .i64 0, .bool false, .slice none 0 0, .int .i64 0] 27)).cell? ⟨w.heap.size + 1, 3, none⟩ = some (.bool false) := by go_simp
  have f3 : ((w.alloc (.cells #[.bool s, .slice a len cap, .int .i64 e, .bool s', .slice a' len' cap', .int .i64 e'] 27)).alloc (.cells #[.bool false, .slice none 0 0, .int .i64 0, .bool false, .slice none 0 0, .int .i64 0] 27)).frozen? ⟨w.heap.size + 1, 3, none⟩ = false := by go_simp
  have z4 : ((w.alloc (.cells #[.bool s, .slice a len cap, .int .i64 e, .bool s', .slice a' len' cap', .int .i64 e'] 27)).alloc (.cells #[.bool false, .slice none 0 0, .int .i64 0, .bool false, .slice none 0 0, .int .i64 0] 27)).cell? ⟨w.heap.size + 1, 4, none⟩ = some (.slice none 0 0) := by go_simp
  have f4 : ((w.alloc (.cells #[.bool s, .slice a len cap, .int .i64 e, .bool s', .slice a' len' cap', .int .i64 e'] 27)).alloc (.cells #[.bool false, .slice none 0 0, .int .i64 0, .bool false, .slice none 0 0, .int .i64 0] 27)).frozen? ⟨w.heap.size + 1, 4, none⟩ = false := by go_simp
  have z5 : ((w.alloc (.cells #[.bool s, .slice a len cap, .int .i64 e, .bool s', .slice a' len' cap', .int .i64 e'] 27)).alloc (.cells #[.bool false, .slice none 0 0, .int .i64 0, .bool false, .slice none 0 0, .int .i64 0] 27)).cell? ⟨w.heap.size + 1, 5, none⟩ = some (.int .i64 0) := by go_simp
  have f5 : ((w.alloc (.cells #[.bool s, .slice a len cap, .int .i64 e, .bool s', .slice a' len' cap', .int .i64 e'] 27)).alloc (.cells #[.bool false, .slice none 0 0, .int .i64 0, .bool false, .slice none 0 0, .int .i64 0] 27)).frozen? ⟨w.heap.size + 1, 5, none⟩ = false := by go_simp
  clear h h' hT
  go_enter Tryz.func7, Tryz.ntmps7
  go_wp2_with fail
  generalize ((w.alloc (.cells #[.bool s, .slice a len cap, .int .i64 e, .bool s', .slice a' len' cap', .int .i64 e'] 27)).alloc (.cells #[.bool false, .slice none 0 0, .int .i64 0, .bool false, .slice none 0 0, .int .i64 0] 27)) = w0 at *
  refine Calls.mono (HR.out _ hI hJ hT0) ?_
  rintro r w1 ⟨rfl, bN⟩
  replace f0 := dcarry_frozen bN z0 f0
  replace f1 := dcarry_frozen bN z1 f1
  replace f2 := dcarry_frozen bN z2 f2
  replace f3 := dcarry_frozen bN z3 f3
  replace f4 := dcarry_frozen bN z4 f4
  replace f5 := dcarry_frozen bN z5 f5
  replace c0 := dcarry_cell bN c0
  replace c1 := dcarry_cell bN c1
  replace c2 := dcarry_cell bN c2
  replace c3 := dcarry_cell bN c3
  replace c4 := dcarry_cell bN c4
  replace c5 := dcarry_cell bN c5
  replace z0 := dcarry_cell bN z0
  replace z1 := dcarry_cell bN z1
  replace z2 := dcarry_cell bN z2
  replace z3 := dcarry_cell bN z3
  replace z4 := dcarry_cell bN z4
  replace z5 := dcarry_cell bN z5
  replace hI := IsW.keep hI bN
  replace hJ := IsW.keep hJ bN
  replace hT0 := hT0.kept bN
  replace bA := nbelow_trans bA bN
  clear bN
  go_wp2_with fail
  exact bodyPost_ret (v := .tuple #[zIv, .int .i64 2]) (by simp [results, Tryz.results7, go_sem, zIv, z0, z1, z2, z3, z4, z5]) rfl ⟨rfl, by repeat (first | (with_reducible exact bA) | (with_reducible refine Below.setCell ?_ (by simp) _))⟩

set_option maxRecDepth 100000 in
set_option maxHeartbeats 4000000 in
theorem wide_g (s : Bool) (a : Option Addr) (len cap : Nat) (xs : List Int) (e : Int) (s' : Bool) (a' : Option Addr) (len' cap' : Nat) (ys : List Int) (e' : Int) (p : Int) (w : World) (h : IsW w a len cap xs) (hm : len ≤ 17592186044000) (h' : IsW w a' len' cap' ys) (hm' : len' ≤ 17592186044000) (hT : Tab w) (hr : rtB s (val xs) e s' (val ys) e' = true) (hp : 2048 < p) :
    Calls Tryz.prog 7 #[ivV s a len cap e s' a' len' cap' e', .int .i64 p] w fun r w' => r = .returned (.tuple #[zIv, .int .i64 2]) ∧ Below w.heap.size w w' := by
  have HR : Hid _ := fun w' (g : IsW w' a len cap xs) (g' : IsW w' a' len' cap' ys) t' => rright_calls s a len cap xs e s' a' len' cap' ys e' w' g hm g' hm' t'
  rw [hr] at HR
  clear hr
  have hp2 : ¬ p < 0 := by omega
  have bA : Below w.heap.size w ((w.alloc (.cells #[.bool s, .slice a len cap, .int .i64 e, .bool s', .slice a' len' cap', .int .i64 e'] 27)).alloc (.cells #[.bool false, .slice none 0 0, .int .i64 0, .bool false, .slice none 0 0, .int .i64 0] 27)) := nbelow_trans (below_one _ _) (below_one _ _)
  have hI := h.keep bA
  have hJ := h'.keep bA
  have hT0 := hT.kept bA
  have c0 : ((w.alloc (.cells #[.bool s, .slice a len cap, .int .i64 e, .bool s', .slice a' len' cap', .int .i64 e'] 27)).alloc (.cells #[.bool false, .slice none 0 0, .int .i64 0, .bool false, .slice none 0 0, .int .i64 0] 27)).cell? ⟨w.heap.size, 0, none⟩ = some (.bool s) := by go_simp
  have c1 : ((w.alloc (.cells #[.bool s, .slice a len cap, .int .i64 e, .bool s', .slice a' len' cap', .int .i64 e'] 27)).alloc (.cells #[.bool false, .slice none 0 0, .int .i64 0, .bool false, .slice none 0 0, .int .i64 0] 27)).cell? ⟨w.heap.size, 1, none⟩ = some (.slice a len cap) := by go_simp
  have c2 : ((w.alloc (.cells #[.bool s, .slice a len cap, .int .i64 e, .bool s', .slice a' len' cap', .int .i64 e'] 27)).alloc (.cells #[.bool false, .slice none 0 0, .int .i64 0, .bool false, .slice none 0 0, .int .i64 0] 27)).cell? ⟨w.heap.size, 2, none⟩ = some (.int .i64 e) := by go_simp
  have c3 : ((w.alloc (.cells #[.bool s, .slice a len cap, .int .i64 e, .bool s', .slice a' len' cap', .int .i64 e'] 27)).alloc (.cells #[.bool false, .slice none 0 0, .int .i64 0, .bool false, .slice none 0 0, .int .i64 0] 27)).cell? ⟨w.heap.size, 3, none⟩ = some (.bool s') := by go_simp
  have c4 : ((w.alloc (.cells #[.bool s, .slice a len cap, .int .i64 e, .bool s', .slice a' len' cap', .int .i64 e'] 27)).alloc (.cells #[.bool false, .slice none 0 0, .int .i64 0, .bool false, .slice none 0 0, .int .i64 0] 27)).cell? ⟨w.heap.size, 4, none⟩ = some (.slice a' len' cap') := by go_simp
  have c5 : ((w.alloc (.cells #[.bool s, .slice a len cap, .int .i64 e, .bool s', .slice a' len' cap', .int .i64 e'] 27)).alloc (.cells #[.bool false, .slice none 0 0, .int .i64 0, .bool false, .slice none 0 0, .int .i64 0] 27)).cell? ⟨w.heap.size, 5, none⟩ = some (.int .i64 e') := by go_simp
  have z0 : ((w.alloc (.cells #[.bool s, .slice a len cap, .int .i64 e, .bool s', .slice a' len' cap', .int .i64 e'] 27)).alloc (.cells #[.bool false, .slice none 0 0, .int .i64 0, .bool false, .slice none 0 0, .int .i64 0] 27)).cell? ⟨w.heap.size + 1, 0, none⟩ = some (.bool false) := by go_simp
  have f0 : ((w.alloc (.cells #[.bool s, .slice a len cap, .int .i64 e, .bool s', .slice a' len' cap', .int .i64 e'] 27)).alloc (.cells #[.bool false, .slice none 0 0, .int .i64 0, .bool false, .slice none 0 0, .int .i64 0] 27)).frozen? ⟨w.heap.size + 1, 0, none⟩ = false := by go_simp
  have z1 : ((w.alloc (.cells #[.bool s, .slice a len cap, .int .i64 e, .bool s', .slice a' len' cap', .int .i64 e'] 27)).alloc (.cells #[.bool false, .slice none 0 0, .int .i64 0, .bool false, .slice none 0 0, .int .i64 0] 27)).cell? ⟨w.heap.size + 1, 1, none⟩ = some (.slice none 0 0) := by go_simp
  have f1 : ((w.alloc (.cells #[.bool s, .slice a len cap, .int .i64 e, .bool s', .slice a' len' cap', .int .i64 e'] 27)).alloc (.cells #[.bool false, .slice none 0 0, .int .i64 0, .bool false, .slice none 0 0, .int .i64 0] 27)).frozen? ⟨w.heap.size + 1, 1, none⟩ = false := by go_simp
  have z2 : ((w.alloc (.cells #[.bool s, .slice a len cap, .int .i64 e, .bool s', .slice a' len' cap', .int .i64 e'] 27)).alloc (.cells #[.bool false, .slice none 0 0, .int .i64 0, .bool false, .slice none 0 0, .int .i64 0] 27)).cell? ⟨w.heap.size + 1, 2, none⟩ = some (.int .i64 0) := by go_simp
  have f2 : ((w.alloc (.cells #[.bool s, .slice a len cap, .int .i64 e, .bool s', .slice a' len' cap', .int .i64 e'] 27)).alloc (.cells #[.bool false, .slice none 0 0, .int .i64 0, .bool false, .slice none 0 0, .int .i64 0] 27)).frozen? ⟨w.heap.size + 1, 2, none⟩ = false := by go_simp
  have z3 : ((w.alloc (.cells #[.bool s, .slice a len cap, .int .i64 e, .bool s', .slice a' len' cap', .int .i64 e'] 27)).alloc (.cells #[.bool false, .slice none 0 0, .int .i64 0, .bool false, .slice none 0 0, .int .i64 0] 27)).cell? ⟨w.heap.size + 1, 3, none⟩ = some (.bool false) := by go_simp
  have f3 : ((w.alloc (.cells #[.bool s, .slice a len cap, .int .i64 e, .bool s', .slice a' len' cap', .int .i64 e'] 27)).alloc (.cells #[.bool false, .slice none 0 0, .int .i64 0, .bool false, .slice none 0 0, .int .i64 0] 27)).frozen? ⟨w.heap.size + 1, 3, none⟩ = false := by go_simp
  have z4 : ((w.alloc (.cells #[.bool s, .slice a len cap, .int .i64 e, .bool s', .slice a' len' cap', .int .i64 e'] 27)).alloc (.cells #[.bool false, .slice none 0 0, .int .i64 0, .bool false, .slice none 0 0, .int .i64 0] 27)).cell? ⟨w.heap.size + 1, 4, none⟩ = some (.slice none 0 0) := by go_simp
  have f4 : ((w.alloc (.cells #[.bool s, .slice a len cap, .int .i64 e, .bool s', .slice a' len' cap', .int .i64 e'] 27)).alloc (.cells #[.bool false, .slice none 0 0, .int .i64 0, .bool false, .slice none 0 0, .int .i64 0] 27)).frozen? ⟨w.heap.size + 1, 4, none⟩ = false := by go_simp
  have z5 : ((w.alloc (.cells #[.bool s, .slice a len cap, .int .i64 e, .bool s', .slice a' len' cap', .int .i64 e'] 27)).alloc (.cells #[.bool false, .slice none 0 0, .int .i64 0, .bool false, .slice none 0 0, .int .i64 0] 27)).cell? ⟨w.heap.size + 1, 5, none⟩ = some (.int .i64 0) := by go_simp
  have f5 : ((w.alloc (.cells #[.bool s, .slice a len cap, .int .i64 e, .bool s', .slice a' len' cap', .int .i64 e'] 27)).alloc (.cells #[.bool false, .slice none 0 0, .int .i64 0, .bool false, .slice none 0 0, .int .i64 0] 27)).frozen? ⟨w.heap.size + 1, 5, none⟩ = false := by go_simp
  clear h h' hT
  go_enter Tryz.func7, Tryz.ntmps7
  go_wp2_with fail
  generalize ((w.alloc (.cells #[.bool s, .slice a len cap, .int .i64 e, .bool s', .slice a' len' cap', .int .i64 e'] 27)).alloc (.cells #[.bool false, .slice none 0 0, .int .i64 0, .bool false, .slice none 0 0, .int .i64 0] 27)) = w0 at *
  refine Calls.mono (HR.out _ hI hJ hT0) ?_
  rintro r w1 ⟨rfl, bN⟩
  replace f0 := dcarry_frozen bN z0 f0
  replace f1 := dcarry_frozen bN z1 f1
  replace f2 := dcarry_frozen bN z2 f2
  replace f3 := dcarry_frozen bN z3 f3
  replace f4 := dcarry_frozen bN z4 f4
  replace f5 := dcarry_frozen bN z5 f5
  replace c0 := dcarry_cell bN c0
  replace c1 := dcarry_cell bN c1
  replace c2 := dcarry_cell bN c2
  replace c3 := dcarry_cell bN c3
  replace c4 := dcarry_cell bN c4
  replace c5 := dcarry_cell bN c5
  replace z0 := dcarry_cell bN z0
  replace z1 := dcarry_cell bN z1
  replace z2 := dcarry_cell bN z2
  replace z3 := dcarry_cell bN z3
  replace z4 := dcarry_cell bN z4
  replace z5 := dcarry_cell bN z5
  replace hI := IsW.keep hI bN
  replace hJ := IsW.keep hJ bN
  replace hT0 := hT0.kept bN
  replace bA := nbelow_trans bA bN
  clear bN
  go_wp2_with fail
  exact bodyPost_ret (v := .tuple #[zIv, .int .i64 2]) (by simp [results, Tryz.results7, go_sem, zIv, z0, z1, z2, z3, z4, z5]) rfl ⟨rfl, by repeat (first | (with_reducible exact bA) | (with_reducible refine Below.setCell ?_ (by simp) _))⟩

end Go.Proofs.YtiipjkkfaplhnaaGreatDoor
