/- Package round: the greater amount of two; what Wide begins with. -/
import Derived.Test.YtognliaoonkmiaaGreatDoorRNC
import Derived.Test.YtognliaoonkmiaaGreatDoorRDG
import Derived.Test.YtognliaoonkmiaaGreatDoorRDE
import Derived.Test.YtognliaoonkmiaaGreatDoorFX
namespace Go.Proofs.YtognliaoonkmiaaGreatDoor
open Go.RowKit

theorem isW_six {w : World} {a : Option Addr} {n c r : Nat} {xs : List Int} (h : IsW w a n c xs) (z : ∀ i, i < 6 → ∃ x, w.cell? ⟨r, i, none⟩ = some x ∧ ∀ j : Int, x ≠ .int .u64 j) (v0 v1 v2 v3 v4 v5 : Value) :
    IsW ((((((w.setCell ⟨r, 0, none⟩ v0).setCell ⟨r, 1, none⟩ v1).setCell ⟨r, 2, none⟩ v2).setCell ⟨r, 3, none⟩ v3).setCell ⟨r, 4, none⟩ v4).setCell ⟨r, 5, none⟩ v5) a n c xs := by
  obtain ⟨h1, h2, h4, h3⟩ := h
  refine ⟨h1, h2, h4, fun i hi => ?_⟩
  obtain ⟨b, off, e1, e2, e3⟩ := h3 i hi
  have ne : ∀ k, k < 6 → (⟨b, off + i, none⟩ : Addr) ≠ ⟨r, k, none⟩ := fun k hk q => by
    obtain ⟨x, hx, hn⟩ := z k hk
    rw [← q, e3] at hx
    exact hn _ (Option.some.inj hx).symm
  refine ⟨b, off, e1, by simpa using e2, ?_⟩
  rw [World.cell?_setCell_other _ _ _ _ (fun q => ne 5 (by decide) q.symm), World.cell?_setCell_other _ _ _ _ (fun q => ne 4 (by decide) q.symm), World.cell?_setCell_other _ _ _ _ (fun q => ne 3 (by decide) q.symm), World.cell?_setCell_other _ _ _ _ (fun q => ne 2 (by decide) q.symm), World.cell?_setCell_other _ _ _ _ (fun q => ne 1 (by decide) q.symm), World.cell?_setCell_other _ _ _ _ (fun q => ne 0 (by decide) q.symm)]
  exact e3
theorem six_of {w : World} {r : Nat} {x0 x1 x2 x3 x4 x5 : Value} (z0 : w.cell? ⟨r, 0, none⟩ = some x0) (z1 : w.cell? ⟨r, 1, none⟩ = some x1) (z2 : w.cell? ⟨r, 2, none⟩ = some x2) (z3 : w.cell? ⟨r, 3, none⟩ = some x3) (z4 : w.cell? ⟨r, 4, none⟩ = some x4) (z5 : w.cell? ⟨r, 5, none⟩ = some x5) (n0 : ∀ j : Int, x0 ≠ .int .u64 j) (n1 : ∀ j : Int, x1 ≠ .int .u64 j) (n2 : ∀ j : Int, x2 ≠ .int .u64 j) (n3 : ∀ j : Int, x3 ≠ .int .u64 j) (n4 : ∀ j : Int, x4 ≠ .int .u64 j) (n5 : ∀ j : Int, x5 ≠ .int .u64 j) : ∀ i, i < 6 → ∃ x, w.cell? ⟨r, i, none⟩ = some x ∧ ∀ j : Int, x ≠ .int .u64 j := fun i hi =>
  match i, hi with
  | 0, _ => ⟨_, z0, n0⟩
  | 1, _ => ⟨_, z1, n1⟩
  | 2, _ => ⟨_, z2, n2⟩
  | 3, _ => ⟨_, z3, n3⟩
  | 4, _ => ⟨_, z4, n4⟩
  | 5, _ => ⟨_, z5, n5⟩

set_option maxRecDepth 100000 in
set_option maxHeartbeats 2000000 in
theorem greater_lo (s : Bool) (a : Option Addr) (len cap : Nat) (xs : List Int) (e : Int) (s' : Bool) (a' : Option Addr) (len' cap' : Nat) (ys : List Int) (e' : Int) (w : World) (h : IsW w a len cap xs) (hm : len ≤ 17592186044000) (h' : IsW w a' len' cap' ys) (hm' : len' ≤ 17592186044000) (hT : Tab w) (hr : rightB (val xs) e = true) (hr' : rightB (val ys) e' = true) (hc : 0 < cmpD (formD false (val xs) e) (formD false (val ys) e')) :
    Calls Tryz.prog 26 #[ivV s a len cap e s' a' len' cap' e'] w fun r w' => r = .returned (dyV false a len cap e) ∧ Below w.heap.size w w' := by
  have bA : Below w.heap.size w ((w.alloc (.cells #[.bool false, .slice a len cap, .int .i64 e, .bool false, .slice a' len' cap', .int .i64 e'] 27)).alloc (.cells #[.bool false, .slice none 0 0, .int .i64 0] 25)) := nT (below_one _ _) (below_one _ _)
  have HC : Hid _ := dcmp_yes false a len cap xs e false a' len' cap' ys e' _ (h.keep bA) (by omega) (h'.keep bA) (by omega) (hT.kept bA) hr hr'
  generalize cmpD (formD false (val xs) e) (formD false (val ys) e') = cc at *
  obtain ⟨c0, c1, c2, c3, c4, c5, z0, z1, z2, f0, f1, f2⟩ := fX8 w a len cap e a' len' cap' e'
  clear hr hr' h h' hT
  go_enter Tryz.func26, Tryz.ntmps26
  go_wp2_with fail
  generalize ((w.alloc (.cells #[.bool false, .slice a len cap, .int .i64 e, .bool false, .slice a' len' cap', .int .i64 e'] 27)).alloc (.cells #[.bool false, .slice none 0 0, .int .i64 0] 25)) = w0 at *
  refine Calls.mono HC.out ?_
  rintro r w1 ⟨rfl, bN⟩
  replace f0 := kF bN z0 f0
  replace f1 := kF bN z1 f1
  replace f2 := kF bN z2 f2
  replace c0 := kC bN c0
  replace c1 := kC bN c1
  replace c2 := kC bN c2
  replace c3 := kC bN c3
  replace c4 := kC bN c4
  replace c5 := kC bN c5
  replace z0 := kC bN z0
  replace z1 := kC bN z1
  replace z2 := kC bN z2
  replace bA := nT bA bN
  clear bN
  go_wp2_with fail
  exact bodyPost_ret (v := dyV false a len cap e) (by simp [results, Tryz.results26, go_sem, z0, z1, z2]) rfl ⟨rfl, by repeat (first | (with_reducible exact bA) | (with_reducible refine Below.setCell ?_ (by simp) _))⟩

set_option maxRecDepth 100000 in
set_option maxHeartbeats 2000000 in
theorem greater_hi (s : Bool) (a : Option Addr) (len cap : Nat) (xs : List Int) (e : Int) (s' : Bool) (a' : Option Addr) (len' cap' : Nat) (ys : List Int) (e' : Int) (w : World) (h : IsW w a len cap xs) (hm : len ≤ 17592186044000) (h' : IsW w a' len' cap' ys) (hm' : len' ≤ 17592186044000) (hT : Tab w) (hr : rightB (val xs) e = true) (hr' : rightB (val ys) e' = true) (hc : ¬ 0 < cmpD (formD false (val xs) e) (formD false (val ys) e')) :
    Calls Tryz.prog 26 #[ivV s a len cap e s' a' len' cap' e'] w fun r w' => r = .returned (dyV false a' len' cap' e') ∧ Below w.heap.size w w' := by
  have bA : Below w.heap.size w ((w.alloc (.cells #[.bool false, .slice a len cap, .int .i64 e, .bool false, .slice a' len' cap', .int .i64 e'] 27)).alloc (.cells #[.bool false, .slice none 0 0, .int .i64 0] 25)) := nT (below_one _ _) (below_one _ _)
  have HC : Hid _ := dcmp_yes false a len cap xs e false a' len' cap' ys e' _ (h.keep bA) (by omega) (h'.keep bA) (by omega) (hT.kept bA) hr hr'
  generalize cmpD (formD false (val xs) e) (formD false (val ys) e') = cc at *
  obtain ⟨c0, c1, c2, c3, c4, c5, z0, z1, z2, f0, f1, f2⟩ := fX8 w a len cap e a' len' cap' e'
  clear hr hr' h h' hT
  go_enter Tryz.func26, Tryz.ntmps26
  go_wp2_with fail
  generalize ((w.alloc (.cells #[.bool false, .slice a len cap, .int .i64 e, .bool false, .slice a' len' cap', .int .i64 e'] 27)).alloc (.cells #[.bool false, .slice none 0 0, .int .i64 0] 25)) = w0 at *
  refine Calls.mono HC.out ?_
  rintro r w1 ⟨rfl, bN⟩
  replace f0 := kF bN z0 f0
  replace f1 := kF bN z1 f1
  replace f2 := kF bN z2 f2
  replace c0 := kC bN c0
  replace c1 := kC bN c1
  replace c2 := kC bN c2
  replace c3 := kC bN c3
  replace c4 := kC bN c4
  replace c5 := kC bN c5
  replace z0 := kC bN z0
  replace z1 := kC bN z1
  replace z2 := kC bN z2
  replace bA := nT bA bN
  clear bN
  go_wp2_with fail
  exact bodyPost_ret (v := dyV false a' len' cap' e') (by simp [results, Tryz.results26, go_sem, z0, z1, z2]) rfl ⟨rfl, by repeat (first | (with_reducible exact bA) | (with_reducible refine Below.setCell ?_ (by simp) _))⟩

/-- the margin: the greater amount times 2^-p; the two ends, with their errors -/
def mgE (m : Nat) (e : Int) (m' : Nat) (e' : Int) (p : Int) : Int := if 0 < cmpD (formD false m e) (formD false m' e') then shE false m e (-p) else shE false m' e' (-p)
def mgP (m : Nat) (e : Int) (m' : Nat) (e' : Int) (p : Int) : Bool × Nat × Int := if 0 < cmpD (formD false m e) (formD false m' e') then shP false m e (-p) else shP false m' e' (-p)
def wlE (s : Bool) (m : Nat) (e : Int) (g : Bool × Nat × Int) : Int := twE (rightB m e && rightB g.2.1 g.2.2) (sumD (formD s m e) (negD (formD g.1 g.2.1 g.2.2)))
def wlP (s : Bool) (m : Nat) (e : Int) (g : Bool × Nat × Int) : Bool × Nat × Int := twP (rightB m e && rightB g.2.1 g.2.2) (sumD (formD s m e) (negD (formD g.1 g.2.1 g.2.2)))
def whE (s : Bool) (m : Nat) (e : Int) (g : Bool × Nat × Int) : Int := twE (rightB m e && rightB g.2.1 g.2.2) (sumD (formD s m e) (formD g.1 g.2.1 g.2.2))
def whP (s : Bool) (m : Nat) (e : Int) (g : Bool × Nat × Int) : Bool × Nat × Int := twP (rightB m e && rightB g.2.1 g.2.2) (sumD (formD s m e) (formD g.1 g.2.1 g.2.2))
abbrev zIv : Value := .agg #[.bool false, .slice none 0 0, .int .i64 0, .bool false, .slice none 0 0, .int .i64 0]
theorem ownW_six {B : Nat} {w : World} {a : Option Addr} {n c r : Nat} {xs : List Int} (h : OwnW B w a n c xs) (z : ∀ i, i < 6 → ∃ x, w.cell? ⟨r, i, none⟩ = some x ∧ ∀ j : Int, x ≠ .int .u64 j) (v0 v1 v2 v3 v4 v5 : Value) :
    OwnW B ((((((w.setCell ⟨r, 0, none⟩ v0).setCell ⟨r, 1, none⟩ v1).setCell ⟨r, 2, none⟩ v2).setCell ⟨r, 3, none⟩ v3).setCell ⟨r, 4, none⟩ v4).setCell ⟨r, 5, none⟩ v5) a n c xs := by
  refine ⟨isW_six h.1 z _ _ _ _ _ _, fun b off i e hi => ?_⟩
  obtain ⟨h6, h7⟩ := h.2 b off i e hi
  refine ⟨h6, ?_⟩
  rw [World.frozen?_setCell, World.frozen?_setCell, World.frozen?_setCell, World.frozen?_setCell, World.frozen?_setCell, World.frozen?_setCell]
  exact h7

theorem wide0 (s : Bool) (a : Option Addr) (len cap : Nat) (e : Int) (s' : Bool) (a' : Option Addr) (len' cap' : Nat) (e' : Int) (w : World) : Below w.heap.size w ((w.alloc (.cells #[.bool s, .slice a len cap, .int .i64 e, .bool s', .slice a' len' cap', .int .i64 e'] 27)).alloc (.cells #[.bool false, .slice none 0 0, .int .i64 0, .bool false, .slice none 0 0, .int .i64 0] 27)) ∧ ((w.alloc (.cells #[.bool s, .slice a len cap, .int .i64 e, .bool s', .slice a' len' cap', .int .i64 e'] 27)).alloc (.cells #[.bool false, .slice none 0 0, .int .i64 0, .bool false, .slice none 0 0, .int .i64 0] 27)).cell? ⟨w.heap.size, 0, none⟩ = some (.bool s) ∧ ((w.alloc (.cells #[.bool s, .slice a len cap, .int .i64 e, .bool s', .slice a' len' cap', .int .i64 e'] 27)).alloc (.cells #[.bool false, .slice none 0 0, .int .i64 0, .bool false, .slice none 0 0, .int .i64 0] 27)).cell? ⟨w.heap.size, 1, none⟩ = some (.slice a len cap) ∧ ((w.alloc (.cells #[.bool s, .slice a len cap, .int .i64 e, .bool s', .slice a' len' cap', .int .i64 e'] 27)).alloc (.cells #[.bool false, .slice none 0 0, .int .i64 0, .bool false, .slice none 0 0, .int .i64 0] 27)).cell? ⟨w.heap.size, 2, none⟩ = some (.int .i64 e) ∧ ((w.alloc (.cells #[.bool s, .slice a len cap, .int .i64 e, .bool s', .slice a' len' cap', .int .i64 e'] 27)).alloc (.cells #[.bool false, .slice none 0 0, .int .i64 0, .bool false, .slice none 0 0, .int .i64 0] 27)).cell? ⟨w.heap.size, 3, none⟩ = some (.bool s') ∧ ((w.alloc (.cells #[.bool s, .slice a len cap, .int .i64 e, .bool s', .slice a' len' cap', .int .i64 e'] 27)).alloc (.cells #[.bool false, .slice none 0 0, .int .i64 0, .bool false, .slice none 0 0, .int .i64 0] 27)).cell? ⟨w.heap.size, 4, none⟩ = some (.slice a' len' cap') ∧ ((w.alloc (.cells #[.bool s, .slice a len cap, .int .i64 e, .bool s', .slice a' len' cap', .int .i64 e'] 27)).alloc (.cells #[.bool false, .slice none 0 0, .int .i64 0, .bool false, .slice none 0 0, .int .i64 0] 27)).cell? ⟨w.heap.size, 5, none⟩ = some (.int .i64 e') ∧ ((w.alloc (.cells #[.bool s, .slice a len cap, .int .i64 e, .bool s', .slice a' len' cap', .int .i64 e'] 27)).alloc (.cells #[.bool false, .slice none 0 0, .int .i64 0, .bool false, .slice none 0 0, .int .i64 0] 27)).cell? ⟨w.heap.size + 1, 0, none⟩ = some (.bool false) ∧ ((w.alloc (.cells #[.bool s, .slice a len cap, .int .i64 e, .bool s', .slice a' len' cap', .int .i64 e'] 27)).alloc (.cells #[.bool false, .slice none 0 0, .int .i64 0, .bool false, .slice none 0 0, .int .i64 0] 27)).cell? ⟨w.heap.size + 1, 1, none⟩ = some (.slice none 0 0) ∧ ((w.alloc (.cells #[.bool s, .slice a len cap, .int .i64 e, .bool s', .slice a' len' cap', .int .i64 e'] 27)).alloc (.cells #[.bool false, .slice none 0 0, .int .i64 0, .bool false, .slice none 0 0, .int .i64 0] 27)).cell? ⟨w.heap.size + 1, 2, none⟩ = some (.int .i64 0) ∧ ((w.alloc (.cells #[.bool s, .slice a len cap, .int .i64 e, .bool s', .slice a' len' cap', .int .i64 e'] 27)).alloc (.cells #[.bool false, .slice none 0 0, .int .i64 0, .bool false, .slice none 0 0, .int .i64 0] 27)).cell? ⟨w.heap.size + 1, 3, none⟩ = some (.bool false) ∧ ((w.alloc (.cells #[.bool s, .slice a len cap, .int .i64 e, .bool s', .slice a' len' cap', .int .i64 e'] 27)).alloc (.cells #[.bool false, .slice none 0 0, .int .i64 0, .bool false, .slice none 0 0, .int .i64 0] 27)).cell? ⟨w.heap.size + 1, 4, none⟩ = some (.slice none 0 0) ∧ ((w.alloc (.cells #[.bool s, .slice a len cap, .int .i64 e, .bool s', .slice a' len' cap', .int .i64 e'] 27)).alloc (.cells #[.bool false, .slice none 0 0, .int .i64 0, .bool false, .slice none 0 0, .int .i64 0] 27)).cell? ⟨w.heap.size + 1, 5, none⟩ = some (.int .i64 0) ∧ ((w.alloc (.cells #[.bool s, .slice a len cap, .int .i64 e, .bool s', .slice a' len' cap', .int .i64 e'] 27)).alloc (.cells #[.bool false, .slice none 0 0, .int .i64 0, .bool false, .slice none 0 0, .int .i64 0] 27)).frozen? ⟨w.heap.size + 1, 0, none⟩ = false ∧ ((w.alloc (.cells #[.bool s, .slice a len cap, .int .i64 e, .bool s', .slice a' len' cap', .int .i64 e'] 27)).alloc (.cells #[.bool false, .slice none 0 0, .int .i64 0, .bool false, .slice none 0 0, .int .i64 0] 27)).frozen? ⟨w.heap.size + 1, 1, none⟩ = false ∧ ((w.alloc (.cells #[.bool s, .slice a len cap, .int .i64 e, .bool s', .slice a' len' cap', .int .i64 e'] 27)).alloc (.cells #[.bool false, .slice none 0 0, .int .i64 0, .bool false, .slice none 0 0, .int .i64 0] 27)).frozen? ⟨w.heap.size + 1, 2, none⟩ = false ∧ ((w.alloc (.cells #[.bool s, .slice a len cap, .int .i64 e, .bool s', .slice a' len' cap', .int .i64 e'] 27)).alloc (.cells #[.bool false, .slice none 0 0, .int .i64 0, .bool false, .slice none 0 0, .int .i64 0] 27)).frozen? ⟨w.heap.size + 1, 3, none⟩ = false ∧ ((w.alloc (.cells #[.bool s, .slice a len cap, .int .i64 e, .bool s', .slice a' len' cap', .int .i64 e'] 27)).alloc (.cells #[.bool false, .slice none 0 0, .int .i64 0, .bool false, .slice none 0 0, .int .i64 0] 27)).frozen? ⟨w.heap.size + 1, 4, none⟩ = false ∧ ((w.alloc (.cells #[.bool s, .slice a len cap, .int .i64 e, .bool s', .slice a' len' cap', .int .i64 e'] 27)).alloc (.cells #[.bool false, .slice none 0 0, .int .i64 0, .bool false, .slice none 0 0, .int .i64 0] 27)).frozen? ⟨w.heap.size + 1, 5, none⟩ = false :=
  ⟨nT (below_one _ _) (below_one _ _), by go_simp, by go_simp, by go_simp, by go_simp, by go_simp, by go_simp, by go_simp, by go_simp, by go_simp, by go_simp, by go_simp, by go_simp, by go_simp, by go_simp, by go_simp, by go_simp, by go_simp, by go_simp⟩
theorem bx3 (w : World) (x y z : Value) (t : Nat) : (w.alloc (.cells #[x, y, z] t)).cell? ⟨w.heap.size, 0, none⟩ = some x ∧ (w.alloc (.cells #[x, y, z] t)).cell? ⟨w.heap.size, 1, none⟩ = some y ∧ (w.alloc (.cells #[x, y, z] t)).cell? ⟨w.heap.size, 2, none⟩ = some z := ⟨by go_simp, by go_simp, by go_simp⟩
theorem bf3 (w : World) (x y z : Value) (t : Nat) : (w.alloc (.cells #[x, y, z] t)).frozen? ⟨w.heap.size, 0, none⟩ = false ∧ (w.alloc (.cells #[x, y, z] t)).frozen? ⟨w.heap.size, 1, none⟩ = false ∧ (w.alloc (.cells #[x, y, z] t)).frozen? ⟨w.heap.size, 2, none⟩ = false := ⟨by go_simp, by go_simp, by go_simp⟩
end Go.Proofs.YtognliaoonkmiaaGreatDoor
