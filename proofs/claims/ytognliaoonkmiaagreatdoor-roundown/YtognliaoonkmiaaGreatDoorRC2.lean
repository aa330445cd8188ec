/- The document's intervals: which are none; whether two are one; the point of change. -/
import Derived.Test.YtognliaoonkmiaaGreatDoorRC0
import Derived.Test.YtognliaoonkmiaaGreatDoorRCX
import Derived.Test.YtognliaoonkmiaaGreatDoorFX
namespace Go.Proofs.YtognliaoonkmiaaGreatDoor
open Go.RowKit

theorem order_turn {m : Nat} {e : Int} {m' : Nat} {e' : Int} (s s' : Bool) (h : rightB m e = true) (h' : rightB m' e' = true) : cmpD (formD s' m' e') (formD s m e) < 0 ↔ ¬ cmpD (formD s m e) (formD s' m' e') ≤ 0 := by
  have b1 := (rightB_yes h).2
  have b2 := (rightB_yes h').2
  have l1 := form_lo s m e (-32768) b1.1 (by decide)
  have l2 := form_lo s' m' e' (-32768) b2.1 (by decide)
  rw [vI_cmp _ _ 32768 l1 l2, vI_cmp _ _ 32768 l2 l1, cmp_le, cmp_neg]
  omega
theorem isW_set1 {w : World} {a : Option Addr} {n c : Nat} {xs : List Int} (h : IsW w a n c xs) (p : Addr) (v u : Value) (k : w.cell? p = some v) (hv : ∀ j : Int, v ≠ .int .u64 j) : IsW (w.setCell p u) a n c xs := by
  obtain ⟨h1, h2, h4, h3⟩ := h
  refine ⟨h1, h2, h4, fun i hi => ?_⟩
  obtain ⟨b, off, e1, e2, e3⟩ := h3 i hi
  refine ⟨b, off, e1, by simpa using e2, ?_⟩
  rw [World.cell?_setCell_other]
  · exact e3
  · intro q
    rw [← q, k] at e3
    injection e3 with e3
    exact hv _ e3

set_option maxRecDepth 100000 in
set_option maxHeartbeats 4000000 in
theorem wrong_a (s : Bool) (a : Option Addr) (len cap : Nat) (xs : List Int) (e : Int) (s' : Bool) (a' : Option Addr) (len' cap' : Nat) (ys : List Int) (e' : Int) (w : World) (h : IsW w a len cap xs) (hm : len ≤ 17592186044000) (h' : IsW w a' len' cap' ys) (hm' : len' ≤ 17592186044000) (hr : rightB (val xs) e = false) :
    Calls Tryz.prog 20 #[ivV s a len cap e s' a' len' cap' e'] w fun r w' => r = .returned (.int .i64 2) ∧ Below w.heap.size w w' := by
  have bA : Below w.heap.size w (w.alloc (.cells #[.bool s, .slice a len cap, .int .i64 e, .bool s', .slice a' len' cap', .int .i64 e'] 27)) := below_one _ _
  have hI := h.keep bA
  have hJ := h'.keep bA
  obtain ⟨c0, c1, c2, c3, c4, c5⟩ := fX11 w s a len cap e s' a' len' cap' e'
  have HR1 : Hid _ := fun w' (g : IsW w' a len cap xs) => qRight_calls s a len cap xs e w' g (by omega)
  have HR2 : Hid _ := fun w' (g : IsW w' a' len' cap' ys) => qRight_calls s' a' len' cap' ys e' w' g (by omega)
  rw [hr] at HR1
  clear h h' hm hm' hr
  go_enter Tryz.func20, Tryz.ntmps20
  go_wp2_with fail
  generalize (w.alloc (.cells #[.bool s, .slice a len cap, .int .i64 e, .bool s', .slice a' len' cap', .int .i64 e'] 27)) = w0 at *
  refine Calls.mono (HR1.out _ hI) ?_
  rintro r w1 ⟨rfl, bN⟩
  replace c0 := kC bN c0
  replace c1 := kC bN c1
  replace c2 := kC bN c2
  replace c3 := kC bN c3
  replace c4 := kC bN c4
  replace c5 := kC bN c5
  replace hI := IsW.keep hI bN
  replace hJ := IsW.keep hJ bN
  replace bA := nT bA bN
  clear bN
  go_wp2_with fail
  go_ret
  exact ⟨rfl, bA⟩

set_option maxRecDepth 100000 in
set_option maxHeartbeats 4000000 in
theorem wrong_b (s : Bool) (a : Option Addr) (len cap : Nat) (xs : List Int) (e : Int) (s' : Bool) (a' : Option Addr) (len' cap' : Nat) (ys : List Int) (e' : Int) (w : World) (h : IsW w a len cap xs) (hm : len ≤ 17592186044000) (h' : IsW w a' len' cap' ys) (hm' : len' ≤ 17592186044000) (hr : rightB (val xs) e = true) (hr' : rightB (val ys) e' = false) :
    Calls Tryz.prog 20 #[ivV s a len cap e s' a' len' cap' e'] w fun r w' => r = .returned (.int .i64 2) ∧ Below w.heap.size w w' := by
  have bA : Below w.heap.size w (w.alloc (.cells #[.bool s, .slice a len cap, .int .i64 e, .bool s', .slice a' len' cap', .int .i64 e'] 27)) := below_one _ _
  have hI := h.keep bA
  have hJ := h'.keep bA
  obtain ⟨c0, c1, c2, c3, c4, c5⟩ := fX11 w s a len cap e s' a' len' cap' e'
  have HR1 : Hid _ := fun w' (g : IsW w' a len cap xs) => qRight_calls s a len cap xs e w' g (by omega)
  have HR2 : Hid _ := fun w' (g : IsW w' a' len' cap' ys) => qRight_calls s' a' len' cap' ys e' w' g (by omega)
  rw [hr] at HR1
  rw [hr'] at HR2
  clear h h' hm hm' hr hr'
  go_enter Tryz.func20, Tryz.ntmps20
  go_wp2_with fail
  generalize (w.alloc (.cells #[.bool s, .slice a len cap, .int .i64 e, .bool s', .slice a' len' cap', .int .i64 e'] 27)) = w0 at *
  refine Calls.mono (HR1.out _ hI) ?_
  rintro r w1 ⟨rfl, bN⟩
  replace c0 := kC bN c0
  replace c1 := kC bN c1
  replace c2 := kC bN c2
  replace c3 := kC bN c3
  replace c4 := kC bN c4
  replace c5 := kC bN c5
  replace hI := IsW.keep hI bN
  replace hJ := IsW.keep hJ bN
  replace bA := nT bA bN
  clear bN
  go_wp2_with fail
  refine Calls.mono (HR2.out _ hJ) ?_
  rintro r w2 ⟨rfl, bN⟩
  replace c0 := kC bN c0
  replace c1 := kC bN c1
  replace c2 := kC bN c2
  replace c3 := kC bN c3
  replace c4 := kC bN c4
  replace c5 := kC bN c5
  replace hI := IsW.keep hI bN
  replace hJ := IsW.keep hJ bN
  replace bA := nT bA bN
  clear bN
  go_wp2_with fail
  go_ret
  exact ⟨rfl, bA⟩

set_option maxRecDepth 100000 in
set_option maxHeartbeats 4000000 in
theorem wrong_c1 (s : Bool) (a : Option Addr) (len cap : Nat) (xs : List Int) (e : Int) (s' : Bool) (a' : Option Addr) (len' cap' : Nat) (ys : List Int) (e' : Int) (w : World) (h : IsW w a len cap xs) (hm : len ≤ 17592186044000) (h' : IsW w a' len' cap' ys) (hm' : len' ≤ 17592186044000) (hr : rightB (val xs) e = true) (hr' : rightB (val ys) e' = true) (hc : cmpD (formD s' (val ys) e') (formD s (val xs) e) < 0) :
    Calls Tryz.prog 20 #[ivV s a len cap e s' a' len' cap' e'] w fun r w' => r = .returned (.int .i64 2) ∧ Below w.heap.size w w' := by
  have bA : Below w.heap.size w (w.alloc (.cells #[.bool s, .slice a len cap, .int .i64 e, .bool s', .slice a' len' cap', .int .i64 e'] 27)) := below_one _ _
  have hI := h.keep bA
  have hJ := h'.keep bA
  obtain ⟨c0, c1, c2, c3, c4, c5⟩ := fX11 w s a len cap e s' a' len' cap' e'
  have HR1 : Hid _ := fun w' (g : IsW w' a len cap xs) => qRight_calls s a len cap xs e w' g (by omega)
  have HR2 : Hid _ := fun w' (g : IsW w' a' len' cap' ys) => qRight_calls s' a' len' cap' ys e' w' g (by omega)
  rw [hr] at HR1
  rw [hr'] at HR2
  have b1 := (rightB_yes hr).2
  have b2 := (rightB_yes hr').2
  have g1 := (great_not _).1 (rightB_yes hr).1
  have g2 := (great_not _).1 (rightB_yes hr').1
  have HO : Hid _ := fun w' (g : IsW w' a' len' cap' ys) (g' : IsW w' a len cap xs) => qOrder_calls s' a' len' cap' ys e' s a len cap xs e w' g hm' g' hm (by omega) (by omega) (by omega) (by omega)
  generalize cmpD (formD s' (val ys) e') (formD s (val xs) e) = cc at *
  clear b1 b2 g1 g2
  clear h h' hm hm' hr hr'
  go_enter Tryz.func20, Tryz.ntmps20
  go_wp2_with fail
  generalize (w.alloc (.cells #[.bool s, .slice a len cap, .int .i64 e, .bool s', .slice a' len' cap', .int .i64 e'] 27)) = w0 at *
  refine Calls.mono (HR1.out _ hI) ?_
  rintro r w1 ⟨rfl, bN⟩
  replace c0 := kC bN c0
  replace c1 := kC bN c1
  replace c2 := kC bN c2
  replace c3 := kC bN c3
  replace c4 := kC bN c4
  replace c5 := kC bN c5
  replace hI := IsW.keep hI bN
  replace hJ := IsW.keep hJ bN
  replace bA := nT bA bN
  clear bN
  go_wp2_with fail
  refine Calls.mono (HR2.out _ hJ) ?_
  rintro r w2 ⟨rfl, bN⟩
  replace c0 := kC bN c0
  replace c1 := kC bN c1
  replace c2 := kC bN c2
  replace c3 := kC bN c3
  replace c4 := kC bN c4
  replace c5 := kC bN c5
  replace hI := IsW.keep hI bN
  replace hJ := IsW.keep hJ bN
  replace bA := nT bA bN
  clear bN
  go_wp2_with fail
  refine Calls.mono (HO.out _ hJ hI) ?_
  rintro r w3 ⟨rfl, bN⟩
  replace c0 := kC bN c0
  replace c1 := kC bN c1
  replace c2 := kC bN c2
  replace c3 := kC bN c3
  replace c4 := kC bN c4
  replace c5 := kC bN c5
  replace hI := IsW.keep hI bN
  replace hJ := IsW.keep hJ bN
  replace bA := nT bA bN
  clear bN
  go_wp2_with fail
  go_ret
  exact ⟨rfl, bA⟩

set_option maxRecDepth 100000 in
set_option maxHeartbeats 4000000 in
theorem wrong_c2 (s : Bool) (a : Option Addr) (len cap : Nat) (xs : List Int) (e : Int) (s' : Bool) (a' : Option Addr) (len' cap' : Nat) (ys : List Int) (e' : Int) (w : World) (h : IsW w a len cap xs) (hm : len ≤ 17592186044000) (h' : IsW w a' len' cap' ys) (hm' : len' ≤ 17592186044000) (hr : rightB (val xs) e = true) (hr' : rightB (val ys) e' = true) (hc : ¬ cmpD (formD s' (val ys) e') (formD s (val xs) e) < 0) :
    Calls Tryz.prog 20 #[ivV s a len cap e s' a' len' cap' e'] w fun r w' => r = .returned (.int .i64 0) ∧ Below w.heap.size w w' := by
  have bA : Below w.heap.size w (w.alloc (.cells #[.bool s, .slice a len cap, .int .i64 e, .bool s', .slice a' len' cap', .int .i64 e'] 27)) := below_one _ _
  have hI := h.keep bA
  have hJ := h'.keep bA
  obtain ⟨c0, c1, c2, c3, c4, c5⟩ := fX11 w s a len cap e s' a' len' cap' e'
  have HR1 : Hid _ := fun w' (g : IsW w' a len cap xs) => qRight_calls s a len cap xs e w' g (by omega)
  have HR2 : Hid _ := fun w' (g : IsW w' a' len' cap' ys) => qRight_calls s' a' len' cap' ys e' w' g (by omega)
  rw [hr] at HR1
  rw [hr'] at HR2
  have b1 := (rightB_yes hr).2
  have b2 := (rightB_yes hr').2
  have g1 := (great_not _).1 (rightB_yes hr).1
  have g2 := (great_not _).1 (rightB_yes hr').1
  have HO : Hid _ := fun w' (g : IsW w' a' len' cap' ys) (g' : IsW w' a len cap xs) => qOrder_calls s' a' len' cap' ys e' s a len cap xs e w' g hm' g' hm (by omega) (by omega) (by omega) (by omega)
  generalize cmpD (formD s' (val ys) e') (formD s (val xs) e) = cc at *
  clear b1 b2 g1 g2
  clear h h' hm hm' hr hr'
  go_enter Tryz.func20, Tryz.ntmps20
  go_wp2_with fail
  generalize (w.alloc (.cells #[.bool s, .slice a len cap, .int .i64 e, .bool s', .slice a' len' cap', .int .i64 e'] 27)) = w0 at *
  refine Calls.mono (HR1.out _ hI) ?_
  rintro r w1 ⟨rfl, bN⟩
  replace c0 := kC bN c0
  replace c1 := kC bN c1
  replace c2 := kC bN c2
  replace c3 := kC bN c3
  replace c4 := kC bN c4
  replace c5 := kC bN c5
  replace hI := IsW.keep hI bN
  replace hJ := IsW.keep hJ bN
  replace bA := nT bA bN
  clear bN
  go_wp2_with fail
  refine Calls.mono (HR2.out _ hJ) ?_
  rintro r w2 ⟨rfl, bN⟩
  replace c0 := kC bN c0
  replace c1 := kC bN c1
  replace c2 := kC bN c2
  replace c3 := kC bN c3
  replace c4 := kC bN c4
  replace c5 := kC bN c5
  replace hI := IsW.keep hI bN
  replace hJ := IsW.keep hJ bN
  replace bA := nT bA bN
  clear bN
  go_wp2_with fail
  refine Calls.mono (HO.out _ hJ hI) ?_
  rintro r w3 ⟨rfl, bN⟩
  replace c0 := kC bN c0
  replace c1 := kC bN c1
  replace c2 := kC bN c2
  replace c3 := kC bN c3
  replace c4 := kC bN c4
  replace c5 := kC bN c5
  replace hI := IsW.keep hI bN
  replace hJ := IsW.keep hJ bN
  replace bA := nT bA bN
  clear bN
  go_wp2_with fail
  go_ret
  exact ⟨rfl, bA⟩

theorem qwrong_calls (s : Bool) (a : Option Addr) (len cap : Nat) (xs : List Int) (e : Int) (s' : Bool) (a' : Option Addr) (len' cap' : Nat) (ys : List Int) (e' : Int) (w : World) (h : IsW w a len cap xs) (hm : len ≤ 17592186044000) (h' : IsW w a' len' cap' ys) (hm' : len' ≤ 17592186044000) :
    Calls Tryz.prog 20 #[ivV s a len cap e s' a' len' cap' e'] w fun r w' => r = .returned (.int .i64 (dcE s (val xs) e s' (val ys) e')) ∧ Below w.heap.size w w' := by
  cases hr : rightB (val xs) e with
  | false =>
    have e1 : dcE s (val xs) e s' (val ys) e' = 2 := by unfold dcE rtB; rw [hr]; rfl
    rw [e1]
    exact wrong_a s a len cap xs e s' a' len' cap' ys e' w h hm h' hm' hr
  | true =>
    cases hr' : rightB (val ys) e' with
    | false =>
      have e1 : dcE s (val xs) e s' (val ys) e' = 2 := by unfold dcE rtB; rw [hr, hr']; rfl
      rw [e1]
      exact wrong_b s a len cap xs e s' a' len' cap' ys e' w h hm h' hm' hr hr'
    | true =>
      have ot := order_turn s s' hr hr'
      by_cases hc : cmpD (formD s' (val ys) e') (formD s (val xs) e) < 0
      · have e1 : dcE s (val xs) e s' (val ys) e' = 2 := by unfold dcE rtB; rw [hr, hr', decide_eq_false (ot.1 hc)]; rfl
        rw [e1]
        exact wrong_c1 s a len cap xs e s' a' len' cap' ys e' w h hm h' hm' hr hr' hc
      · have e1 : dcE s (val xs) e s' (val ys) e' = 0 := by unfold dcE rtB; rw [hr, hr', decide_eq_true (Decidable.byContradiction fun q => hc (ot.2 q))]; rfl
        rw [e1]
        exact wrong_c2 s a len cap xs e s' a' len' cap' ys e' w h hm h' hm' hr hr' hc

set_option maxRecDepth 100000 in
set_option maxHeartbeats 4000000 in
theorem qSameI_calls (s : Bool) (a : Option Addr) (len cap : Nat) (xs : List Int) (e : Int) (s' : Bool) (a' : Option Addr) (len' cap' : Nat) (ys : List Int) (e' : Int) (t : Bool) (b : Option Addr) (bl bc : Nat) (zs : List Int) (f : Int) (t' : Bool) (b' : Option Addr) (bl' bc' : Nat) (us : List Int) (f' : Int) (w : World) (h : IsW w a len cap xs) (hm : len ≤ 17592186044000) (h' : IsW w a' len' cap' ys) (hm' : len' ≤ 17592186044000) (g : IsW w b bl bc zs) (gm : bl ≤ 17592186044000) (g' : IsW w b' bl' bc' us) (gm' : bl' ≤ 17592186044000) :
    Calls Tryz.prog 12 #[ivV s a len cap e s' a' len' cap' e', ivV t b bl bc f t' b' bl' bc' f'] w fun r w' => r = .returned (.bool (sameB s e xs t f zs && sameB s' e' ys t' f' us)) ∧ Below w.heap.size w w' := by
  have bA : Below w.heap.size w ((w.alloc (.cells #[.bool s, .slice a len cap, .int .i64 e, .bool s', .slice a' len' cap', .int .i64 e'] 27)).alloc (.cells #[.bool t, .slice b bl bc, .int .i64 f, .bool t', .slice b' bl' bc', .int .i64 f'] 27)) := nT (below_one _ _) (below_one _ _)
  replace h := h.keep bA
  replace h' := h'.keep bA
  replace g := g.keep bA
  replace g' := g'.keep bA
  have c0 : ((w.alloc (.cells #[.bool s, .slice a len cap, .int .i64 e, .bool s', .slice a' len' cap', .int .i64 e'] 27)).alloc (.cells #[.bool t, .slice b bl bc, .int .i64 f, .bool t', .slice b' bl' bc', .int .i64 f'] 27)).cell? ⟨w.heap.size, 0, none⟩ = some (.bool s) := by go_simp
  have c1 : ((w.alloc (.cells #[.bool s, .slice a len cap, .int .i64 e, .bool s', .slice a' len' cap', .int .i64 e'] 27)).alloc (.cells #[.bool t, .slice b bl bc, .int .i64 f, .bool t', .slice b' bl' bc', .int .i64 f'] 27)).cell? ⟨w.heap.size, 1, none⟩ = some (.slice a len cap) := by go_simp
  have c2 : ((w.alloc (.cells #[.bool s, .slice a len cap, .int .i64 e, .bool s', .slice a' len' cap', .int .i64 e'] 27)).alloc (.cells #[.bool t, .slice b bl bc, .int .i64 f, .bool t', .slice b' bl' bc', .int .i64 f'] 27)).cell? ⟨w.heap.size, 2, none⟩ = some (.int .i64 e) := by go_simp
  have c3 : ((w.alloc (.cells #[.bool s, .slice a len cap, .int .i64 e, .bool s', .slice a' len' cap', .int .i64 e'] 27)).alloc (.cells #[.bool t, .slice b bl bc, .int .i64 f, .bool t', .slice b' bl' bc', .int .i64 f'] 27)).cell? ⟨w.heap.size, 3, none⟩ = some (.bool s') := by go_simp
  have c4 : ((w.alloc (.cells #[.bool s, .slice a len cap, .int .i64 e, .bool s', .slice a' len' cap', .int .i64 e'] 27)).alloc (.cells #[.bool t, .slice b bl bc, .int .i64 f, .bool t', .slice b' bl' bc', .int .i64 f'] 27)).cell? ⟨w.heap.size, 4, none⟩ = some (.slice a' len' cap') := by go_simp
  have c5 : ((w.alloc (.cells #[.bool s, .slice a len cap, .int .i64 e, .bool s', .slice a' len' cap', .int .i64 e'] 27)).alloc (.cells #[.bool t, .slice b bl bc, .int .i64 f, .bool t', .slice b' bl' bc', .int .i64 f'] 27)).cell? ⟨w.heap.size, 5, none⟩ = some (.int .i64 e') := by go_simp
  have d0 : ((w.alloc (.cells #[.bool s, .slice a len cap, .int .i64 e, .bool s', .slice a' len' cap', .int .i64 e'] 27)).alloc (.cells #[.bool t, .slice b bl bc, .int .i64 f, .bool t', .slice b' bl' bc', .int .i64 f'] 27)).cell? ⟨w.heap.size + 1, 0, none⟩ = some (.bool t) := by go_simp
  have d1 : ((w.alloc (.cells #[.bool s, .slice a len cap, .int .i64 e, .bool s', .slice a' len' cap', .int .i64 e'] 27)).alloc (.cells #[.bool t, .slice b bl bc, .int .i64 f, .bool t', .slice b' bl' bc', .int .i64 f'] 27)).cell? ⟨w.heap.size + 1, 1, none⟩ = some (.slice b bl bc) := by go_simp
  have d2 : ((w.alloc (.cells #[.bool s, .slice a len cap, .int .i64 e, .bool s', .slice a' len' cap', .int .i64 e'] 27)).alloc (.cells #[.bool t, .slice b bl bc, .int .i64 f, .bool t', .slice b' bl' bc', .int .i64 f'] 27)).cell? ⟨w.heap.size + 1, 2, none⟩ = some (.int .i64 f) := by go_simp
  have d3 : ((w.alloc (.cells #[.bool s, .slice a len cap, .int .i64 e, .bool s', .slice a' len' cap', .int .i64 e'] 27)).alloc (.cells #[.bool t, .slice b bl bc, .int .i64 f, .bool t', .slice b' bl' bc', .int .i64 f'] 27)).cell? ⟨w.heap.size + 1, 3, none⟩ = some (.bool t') := by go_simp
  have d4 : ((w.alloc (.cells #[.bool s, .slice a len cap, .int .i64 e, .bool s', .slice a' len' cap', .int .i64 e'] 27)).alloc (.cells #[.bool t, .slice b bl bc, .int .i64 f, .bool t', .slice b' bl' bc', .int .i64 f'] 27)).cell? ⟨w.heap.size + 1, 4, none⟩ = some (.slice b' bl' bc') := by go_simp
  have d5 : ((w.alloc (.cells #[.bool s, .slice a len cap, .int .i64 e, .bool s', .slice a' len' cap', .int .i64 e'] 27)).alloc (.cells #[.bool t, .slice b bl bc, .int .i64 f, .bool t', .slice b' bl' bc', .int .i64 f'] 27)).cell? ⟨w.heap.size + 1, 5, none⟩ = some (.int .i64 f') := by go_simp
  have HS1 : Hid _ := fun w' q q' => qSame_calls s a len cap xs e t b bl bc zs f w' q (by omega) q' (by omega)
  have HS2 : Hid _ := fun w' q q' => qSame_calls s' a' len' cap' ys e' t' b' bl' bc' us f' w' q (by omega) q' (by omega)
  generalize sameB s e xs t f zs = A at *
  generalize sameB s' e' ys t' f' us = B at *
  clear hm hm' gm gm'
  cases A
  all_goals
    go_enter Tryz.func12, Tryz.ntmps12
    go_wp2_with fail
    generalize ((w.alloc (.cells #[.bool s, .slice a len cap, .int .i64 e, .bool s', .slice a' len' cap', .int .i64 e'] 27)).alloc (.cells #[.bool t, .slice b bl bc, .int .i64 f, .bool t', .slice b' bl' bc', .int .i64 f'] 27)) = w0 at *
    refine Calls.mono (HS1.out _ h g) ?_
    rintro r w1 ⟨rfl, bN⟩
    replace c0 := kC bN c0
    replace c1 := kC bN c1
    replace c2 := kC bN c2
    replace c3 := kC bN c3
    replace c4 := kC bN c4
    replace c5 := kC bN c5
    replace d0 := kC bN d0
    replace d1 := kC bN d1
    replace d2 := kC bN d2
    replace d3 := kC bN d3
    replace d4 := kC bN d4
    replace d5 := kC bN d5
    replace h' := IsW.keep h' bN
    replace g' := IsW.keep g' bN
    replace bA := nT bA bN
    clear bN
    go_wp2_with fail
  · go_ret
    exact ⟨rfl, bA⟩
  · refine Calls.mono (HS2.out _ h' g') ?_
    rintro r w2 ⟨rfl, bN⟩
    replace bA := nT bA bN
    go_wp2_with fail
    go_ret
    exact ⟨rfl, bA⟩

set_option maxRecDepth 100000 in
set_option maxHeartbeats 4000000 in
theorem qmid_bad (x : Int) (w : World) (ux : U x) (hx : finB x = false) :
    Calls Tryz.prog 10 #[.int .u64 x] w fun r w' => r = .returned (.tuple #[dyV false none 0 0 0, .int .i64 5]) ∧ Below w.heap.size w w' := by
  have HF : Hid _ := fun w' => rFinite_calls x w' ux
  rw [hx] at HF
  clear hx
  have bA : Below w.heap.size w (w.alloc (.cells #[.bool false, .slice none 0 0, .int .i64 0] 25)) := below_one _ _
  obtain ⟨z0, f0, z1, f1, z2, f2⟩ := fX9 w
  have hs : Hid (w.heap.size + 1 ≤ (w.alloc (.cells #[.bool false, .slice none 0 0, .int .i64 0] 25)).heap.size) := by show w.heap.size + 1 ≤ _; simp
  go_enter Tryz.func10, Tryz.ntmps10
  go_wp2_with fail
  generalize (w.alloc (.cells #[.bool false, .slice none 0 0, .int .i64 0] 25)) = w1 at *
  refine Calls.mono (HF.out _) ?_
  rintro r w2 ⟨rfl, rfl⟩
  go_wp2_with fail
  exact bodyPost_ret (v := .tuple #[dyV false none 0 0 0, .int .i64 5]) (by simp [results, Tryz.results10, go_sem, z0, z1, z2]) rfl ⟨rfl, by repeat (first | with_reducible exact bA | refine Below.setCell ?_ (by simp) _)⟩

set_option maxRecDepth 100000 in
set_option maxHeartbeats 4000000 in
theorem qmid_a (x : Int) (w : World) (ux : U x) (hx : finB x = true) (h1 : x < 9223372036854775808) :
    Calls Tryz.prog 10 #[.int .u64 x] w fun r w' => ∃ v', r = .returned (.tuple #[v', .int .i64 0]) ∧ DyQ w.heap.size w' v' (formD false (2 * countV x + 1).toNat (unitV x - 1)) ∧ Below w.heap.size w w' := by
  have HF : Hid _ := fun w' => rFinite_calls x w' ux
  rw [hx] at HF
  have HP : Hid _ := fun w' => rParts_calls x w' ux
  have HU : Hid _ := fun w' => rUp_calls x w' ux
  have k1 : 0 ≤ countV x ∧ countV x < 9007199254740992 := by unfold countV fracV; split <;> omega
  have k2 : -1074 ≤ unitV x ∧ unitV x ≤ 972 := by unfold unitV expV; split <;> omega
  have HK : Hid _ := fun w' => nOf_calls (2 * countV x + 1) w' (by omega) (by omega)
  have HO : Hid _ := fun aa cc w' q => qOne_calls false aa (wordsOf (2 * countV x + 1).toNat).length cc (wordsOf (2 * countV x + 1).toNat) (unitV x - 1) w' q (by have : (wordsOf (2 * countV x + 1).toNat).length ≤ 1 := (words_len 1 _).2 (by rw [Nat.pow_one]; omega); omega) (by omega)
  rw [val_words] at HO
  have HW : Hid (AllU (wordsOf (2 * countV x + 1).toNat)) := words_U _
  have v1 : IntKind.u64.wrap (2 * countV x) = 2 * countV x := by rw [IntKind.wrap_u64]; omega
  have v2 : IntKind.u64.wrap (2 * countV x + 1) = 2 * countV x + 1 := by rw [IntKind.wrap_u64]; omega
  have v3 : IntKind.i64.wrap (unitV x - 1) = unitV x - 1 := by rw [IntKind.wrap_i64]; omega
  skip
  generalize formD false (2 * countV x + 1).toNat (unitV x - 1) = M at *
  generalize (wordsOf (2 * countV x + 1).toNat) = ws at *
  generalize countV x = cn at *
  generalize unitV x = un at *
  clear k1 k2 ux hx
  have bA : Below w.heap.size w (w.alloc (.cells #[.bool false, .slice none 0 0, .int .i64 0] 25)) := below_one _ _
  obtain ⟨z0, f0, z1, f1, z2, f2⟩ := fX9 w
  have hs : Hid (w.heap.size + 1 ≤ (w.alloc (.cells #[.bool false, .slice none 0 0, .int .i64 0] 25)).heap.size) := by show w.heap.size + 1 ≤ _; simp
  go_enter Tryz.func10, Tryz.ntmps10
  go_wp2_with fail
  generalize (w.alloc (.cells #[.bool false, .slice none 0 0, .int .i64 0] 25)) = w1 at *
  refine Calls.mono (HF.out _) ?_
  rintro r w2 ⟨rfl, rfl⟩
  go_wp2_with fail
  skip
  refine Calls.mono (HP.out _) ?_
  rintro r w2 ⟨rfl, bN⟩
  replace f0 := kF bN z0 f0
  replace f1 := kF bN z1 f1
  replace f2 := kF bN z2 f2
  replace z0 := kC bN z0
  replace z1 := kC bN z1
  replace z2 := kC bN z2
  replace bA := nT bA bN
  replace hs := le_hidP hs bN.size
  clear bN
  have HS2 := hs
  have bB := below_one w2 (.cells #[.bool false, .slice none 0 0, .int .i64 (un - 1)] 25)
  obtain ⟨d0, df0, d1, df1, d2, df2⟩ := fX12 w2 un
  replace f0 := kF bB z0 f0
  replace f1 := kF bB z1 f1
  replace f2 := kF bB z2 f2
  replace z0 := kC bB z0
  replace z1 := kC bB z1
  replace z2 := kC bB z2
  replace bA := nT bA bB
  replace hs := le_hidP hs bB.size
  clear bB
  go_wp2_with fail
  generalize (w2.alloc (.cells #[.bool false, .slice none 0 0, .int .i64 (un - 1)] 25)) = w3 at *
  have hs2 : Hid (w.heap.size < w2.heap.size) := HS2
  have l5 : w2.heap.size < w3.heap.size := World.block_lt_of_cell? _ _ d0
  have lz : w.heap.size < w2.heap.size := hs2.out
  have ne1 : w.heap.size ≠ w2.heap.size := Nat.ne_of_lt lz
  have ne2 : w2.heap.size ≠ w.heap.size := Nat.ne_of_gt lz
  refine Calls.mono (HK.out _) ?_
  rintro r w4 ⟨ao, cv, rfl, hO, bN⟩
  have IO := hO.isW HW.out
  clear hO
  replace f0 := kF bN z0 f0
  replace f1 := kF bN z1 f1
  replace f2 := kF bN z2 f2
  replace df0 := kF bN d0 df0
  replace df1 := kF bN d1 df1
  replace df2 := kF bN d2 df2
  replace z0 := kC bN z0
  replace z1 := kC bN z1
  replace z2 := kC bN z2
  replace d0 := kC bN d0
  replace d1 := kC bN d1
  replace d2 := kC bN d2
  replace bA := nT bA bN
  replace hs := le_hidP hs bN.size
  clear bN
  go_wp2_with fail
  have bS : Below w2.heap.size w4 (w4.setCell ⟨w2.heap.size, 1, none⟩ (.slice ao ws.length cv)) := (Below.refl _ _).setCell (p := ⟨w2.heap.size, 1, none⟩) (Nat.le_refl _) _
  replace f0 := (bS.frozen (p := ⟨w.heap.size, 0, none⟩) lz).trans f0
  replace z0 := (bS.cell (p := ⟨w.heap.size, 0, none⟩) lz).trans z0
  replace f1 := (bS.frozen (p := ⟨w.heap.size, 1, none⟩) lz).trans f1
  replace z1 := (bS.cell (p := ⟨w.heap.size, 1, none⟩) lz).trans z1
  replace f2 := (bS.frozen (p := ⟨w.heap.size, 2, none⟩) lz).trans f2
  replace z2 := (bS.cell (p := ⟨w.heap.size, 2, none⟩) lz).trans z2
  replace IO := isW_set1 IO ⟨w2.heap.size, 1, none⟩ _ (.slice ao ws.length cv) d1 (fun _ q => by cases q)
  replace bA := bA.setCell (p := ⟨w2.heap.size, 1, none⟩) (Nat.le_of_lt lz) (.slice ao ws.length cv)
  replace hs : Hid (w.heap.size + 1 ≤ (w4.setCell ⟨w2.heap.size, 1, none⟩ (.slice ao ws.length cv)).heap.size) := Nat.le_trans hs.out bS.size
  clear bS d0 d1 d2 df0 df1 df2
  generalize (w4.setCell ⟨w2.heap.size, 1, none⟩ (.slice ao ws.length cv)) = w5 at *
  have hlow : w.heap.size + 1 ≤ w5.heap.size := hs
  refine Calls.mono (HO.out _ _ _ IO) ?_
  rintro r w6 ⟨_, rfl, ⟨a9, n9, c9, rfl, HN9, hO9⟩, bN⟩
  have hO9' := hO9.low hlow
  clear hO9 hlow
  replace f0 := kF bN z0 f0
  replace f1 := kF bN z1 f1
  replace f2 := kF bN z2 f2
  replace z0 := kC bN z0
  replace z1 := kC bN z1
  replace z2 := kC bN z2
  replace IO := IsW.keep IO bN
  replace bA := nT bA bN
  replace hs := le_hidP hs bN.size
  clear bN
  go_wp2_with fail
  refine bodyPost_ret (v := .tuple #[dyV M.1 a9 n9 c9 M.2.2, .int .i64 0]) (by simp [results, Tryz.results10, go_sem, z0, z1, z2]) rfl ⟨_, rfl, ⟨a9, n9, c9, rfl, HN9, ?_⟩, ?_⟩
  · exact (((hO9'.far _ _ (by simp)).far _ _ (by simp)).far _ _ (by simp)).low (by omega)
  · repeat (first | with_reducible exact bA | refine Below.setCell ?_ (by simp) _)

set_option maxRecDepth 100000 in
set_option maxHeartbeats 4000000 in
theorem qmid_b (x : Int) (w : World) (ux : U x) (hx : finB x = true) (h1 : ¬ x < 9223372036854775808) (h2 : countV x = 0) :
    Calls Tryz.prog 10 #[.int .u64 x] w fun r w' => ∃ v', r = .returned (.tuple #[v', .int .i64 0]) ∧ DyQ w.heap.size w' v' (formD false (2 * countV x + 1).toNat (unitV x - 1)) ∧ Below w.heap.size w w' := by
  have HF : Hid _ := fun w' => rFinite_calls x w' ux
  rw [hx] at HF
  have HP : Hid _ := fun w' => rParts_calls x w' ux
  have HU : Hid _ := fun w' => rUp_calls x w' ux
  have k1 : 0 ≤ countV x ∧ countV x < 9007199254740992 := by unfold countV fracV; split <;> omega
  have k2 : -1074 ≤ unitV x ∧ unitV x ≤ 972 := by unfold unitV expV; split <;> omega
  have HK : Hid _ := fun w' => nOf_calls (2 * countV x + 1) w' (by omega) (by omega)
  have HO : Hid _ := fun aa cc w' q => qOne_calls false aa (wordsOf (2 * countV x + 1).toNat).length cc (wordsOf (2 * countV x + 1).toNat) (unitV x - 1) w' q (by have : (wordsOf (2 * countV x + 1).toNat).length ≤ 1 := (words_len 1 _).2 (by rw [Nat.pow_one]; omega); omega) (by omega)
  rw [val_words] at HO
  have HW : Hid (AllU (wordsOf (2 * countV x + 1).toNat)) := words_U _
  have v1 : IntKind.u64.wrap (2 * countV x) = 2 * countV x := by rw [IntKind.wrap_u64]; omega
  have v2 : IntKind.u64.wrap (2 * countV x + 1) = 2 * countV x + 1 := by rw [IntKind.wrap_u64]; omega
  have v3 : IntKind.i64.wrap (unitV x - 1) = unitV x - 1 := by rw [IntKind.wrap_i64]; omega
  have hz : (countV x == 0) = true := by simp [h2]
  clear h2
  generalize formD false (2 * countV x + 1).toNat (unitV x - 1) = M at *
  generalize (wordsOf (2 * countV x + 1).toNat) = ws at *
  generalize countV x = cn at *
  generalize unitV x = un at *
  clear k1 k2 ux hx
  have bA : Below w.heap.size w (w.alloc (.cells #[.bool false, .slice none 0 0, .int .i64 0] 25)) := below_one _ _
  obtain ⟨z0, f0, z1, f1, z2, f2⟩ := fX9 w
  have hs : Hid (w.heap.size + 1 ≤ (w.alloc (.cells #[.bool false, .slice none 0 0, .int .i64 0] 25)).heap.size) := by show w.heap.size + 1 ≤ _; simp
  go_enter Tryz.func10, Tryz.ntmps10
  go_wp2_with fail
  generalize (w.alloc (.cells #[.bool false, .slice none 0 0, .int .i64 0] 25)) = w1 at *
  refine Calls.mono (HF.out _) ?_
  rintro r w2 ⟨rfl, rfl⟩
  go_wp2_with fail
  skip
  refine Calls.mono (HP.out _) ?_
  rintro r w2 ⟨rfl, bN⟩
  replace f0 := kF bN z0 f0
  replace f1 := kF bN z1 f1
  replace f2 := kF bN z2 f2
  replace z0 := kC bN z0
  replace z1 := kC bN z1
  replace z2 := kC bN z2
  replace bA := nT bA bN
  replace hs := le_hidP hs bN.size
  clear bN
  have HS2 := hs
  have bB := below_one w2 (.cells #[.bool false, .slice none 0 0, .int .i64 (un - 1)] 25)
  obtain ⟨d0, df0, d1, df1, d2, df2⟩ := fX12 w2 un
  replace f0 := kF bB z0 f0
  replace f1 := kF bB z1 f1
  replace f2 := kF bB z2 f2
  replace z0 := kC bB z0
  replace z1 := kC bB z1
  replace z2 := kC bB z2
  replace bA := nT bA bB
  replace hs := le_hidP hs bB.size
  clear bB
  go_wp2_with fail
  generalize (w2.alloc (.cells #[.bool false, .slice none 0 0, .int .i64 (un - 1)] 25)) = w3 at *
  have hs2 : Hid (w.heap.size < w2.heap.size) := HS2
  have l5 : w2.heap.size < w3.heap.size := World.block_lt_of_cell? _ _ d0
  have lz : w.heap.size < w2.heap.size := hs2.out
  have ne1 : w.heap.size ≠ w2.heap.size := Nat.ne_of_lt lz
  have ne2 : w2.heap.size ≠ w.heap.size := Nat.ne_of_gt lz
  refine Calls.mono (HK.out _) ?_
  rintro r w4 ⟨ao, cv, rfl, hO, bN⟩
  have IO := hO.isW HW.out
  clear hO
  replace f0 := kF bN z0 f0
  replace f1 := kF bN z1 f1
  replace f2 := kF bN z2 f2
  replace df0 := kF bN d0 df0
  replace df1 := kF bN d1 df1
  replace df2 := kF bN d2 df2
  replace z0 := kC bN z0
  replace z1 := kC bN z1
  replace z2 := kC bN z2
  replace d0 := kC bN d0
  replace d1 := kC bN d1
  replace d2 := kC bN d2
  replace bA := nT bA bN
  replace hs := le_hidP hs bN.size
  clear bN
  go_wp2_with fail
  have bS : Below w2.heap.size w4 (w4.setCell ⟨w2.heap.size, 1, none⟩ (.slice ao ws.length cv)) := (Below.refl _ _).setCell (p := ⟨w2.heap.size, 1, none⟩) (Nat.le_refl _) _
  replace f0 := (bS.frozen (p := ⟨w.heap.size, 0, none⟩) lz).trans f0
  replace z0 := (bS.cell (p := ⟨w.heap.size, 0, none⟩) lz).trans z0
  replace f1 := (bS.frozen (p := ⟨w.heap.size, 1, none⟩) lz).trans f1
  replace z1 := (bS.cell (p := ⟨w.heap.size, 1, none⟩) lz).trans z1
  replace f2 := (bS.frozen (p := ⟨w.heap.size, 2, none⟩) lz).trans f2
  replace z2 := (bS.cell (p := ⟨w.heap.size, 2, none⟩) lz).trans z2
  replace IO := isW_set1 IO ⟨w2.heap.size, 1, none⟩ _ (.slice ao ws.length cv) d1 (fun _ q => by cases q)
  replace bA := bA.setCell (p := ⟨w2.heap.size, 1, none⟩) (Nat.le_of_lt lz) (.slice ao ws.length cv)
  replace hs : Hid (w.heap.size + 1 ≤ (w4.setCell ⟨w2.heap.size, 1, none⟩ (.slice ao ws.length cv)).heap.size) := Nat.le_trans hs.out bS.size
  clear bS d0 d1 d2 df0 df1 df2
  generalize (w4.setCell ⟨w2.heap.size, 1, none⟩ (.slice ao ws.length cv)) = w5 at *
  have hlow : w.heap.size + 1 ≤ w5.heap.size := hs
  refine Calls.mono (HO.out _ _ _ IO) ?_
  rintro r w6 ⟨_, rfl, ⟨a9, n9, c9, rfl, HN9, hO9⟩, bN⟩
  have hO9' := hO9.low hlow
  clear hO9 hlow
  replace f0 := kF bN z0 f0
  replace f1 := kF bN z1 f1
  replace f2 := kF bN z2 f2
  replace z0 := kC bN z0
  replace z1 := kC bN z1
  replace z2 := kC bN z2
  replace IO := IsW.keep IO bN
  replace bA := nT bA bN
  replace hs := le_hidP hs bN.size
  clear bN
  go_wp2_with fail
  refine bodyPost_ret (v := .tuple #[dyV M.1 a9 n9 c9 M.2.2, .int .i64 0]) (by simp [results, Tryz.results10, go_sem, z0, z1, z2]) rfl ⟨_, rfl, ⟨a9, n9, c9, rfl, HN9, ?_⟩, ?_⟩
  · exact (((hO9'.far _ _ (by simp)).far _ _ (by simp)).far _ _ (by simp)).low (by omega)
  · repeat (first | with_reducible exact bA | refine Below.setCell ?_ (by simp) _)

set_option maxRecDepth 100000 in
set_option maxHeartbeats 4000000 in
theorem qmid_c (x : Int) (w : World) (ux : U x) (hx : finB x = true) (h1 : ¬ x < 9223372036854775808) (h2 : countV x ≠ 0) (hu : upV x = x - 1) (hu2 : U (x - 1)) :
    Calls Tryz.prog 10 #[.int .u64 x] w fun r w' => ∃ v', r = .returned (.tuple #[v', .int .i64 0]) ∧ DyQ w.heap.size w' v' (formD true (2 * countV (x - 1) + 1).toNat (unitV (x - 1) - 1)) ∧ Below w.heap.size w w' := by
  have HF : Hid _ := fun w' => rFinite_calls x w' ux
  rw [hx] at HF
  have HP : Hid _ := fun w' => rParts_calls x w' ux
  have HU : Hid _ := fun w' => rUp_calls x w' ux
  rw [hu] at HU
  have HQ : Hid _ := fun w' => rParts_calls (x - 1) w' hu2
  have k1 : 0 ≤ countV (x - 1) ∧ countV (x - 1) < 9007199254740992 := by unfold countV fracV; split <;> omega
  have k2 : -1074 ≤ unitV (x - 1) ∧ unitV (x - 1) ≤ 972 := by unfold unitV expV; split <;> omega
  have HK : Hid _ := fun w' => nOf_calls (2 * countV (x - 1) + 1) w' (by omega) (by omega)
  have HO : Hid _ := fun aa cc w' q => qOne_calls true aa (wordsOf (2 * countV (x - 1) + 1).toNat).length cc (wordsOf (2 * countV (x - 1) + 1).toNat) (unitV (x - 1) - 1) w' q (by have : (wordsOf (2 * countV (x - 1) + 1).toNat).length ≤ 1 := (words_len 1 _).2 (by rw [Nat.pow_one]; omega); omega) (by omega)
  rw [val_words] at HO
  have HW : Hid (AllU (wordsOf (2 * countV (x - 1) + 1).toNat)) := words_U _
  have v1 : IntKind.u64.wrap (2 * countV (x - 1)) = 2 * countV (x - 1) := by rw [IntKind.wrap_u64]; omega
  have v2 : IntKind.u64.wrap (2 * countV (x - 1) + 1) = 2 * countV (x - 1) + 1 := by rw [IntKind.wrap_u64]; omega
  have v3 : IntKind.i64.wrap (unitV (x - 1) - 1) = unitV (x - 1) - 1 := by rw [IntKind.wrap_i64]; omega
  have k4 : -1074 ≤ unitV x ∧ unitV x ≤ 972 := by unfold unitV expV; split <;> omega
  have v4 : IntKind.i64.wrap (unitV x - 1) = unitV x - 1 := by rw [IntKind.wrap_i64]; omega
  have hz : (countV x == 0) = false := by simp [h2]
  clear h2
  generalize formD true (2 * countV (x - 1) + 1).toNat (unitV (x - 1) - 1) = M at *
  generalize (wordsOf (2 * countV (x - 1) + 1).toNat) = ws at *
  generalize countV (x - 1) = cn at *
  generalize unitV (x - 1) = un at *
  generalize countV x = cx at *
  generalize unitV x = ue at *
  clear hu hu2 k4
  clear k1 k2 ux hx
  have bA : Below w.heap.size w (w.alloc (.cells #[.bool false, .slice none 0 0, .int .i64 0] 25)) := below_one _ _
  obtain ⟨z0, f0, z1, f1, z2, f2⟩ := fX9 w
  have hs : Hid (w.heap.size + 1 ≤ (w.alloc (.cells #[.bool false, .slice none 0 0, .int .i64 0] 25)).heap.size) := by show w.heap.size + 1 ≤ _; simp
  go_enter Tryz.func10, Tryz.ntmps10
  go_wp2_with fail
  generalize (w.alloc (.cells #[.bool false, .slice none 0 0, .int .i64 0] 25)) = w1 at *
  refine Calls.mono (HF.out _) ?_
  rintro r w2 ⟨rfl, rfl⟩
  go_wp2_with fail
  skip
  refine Calls.mono (HP.out _) ?_
  rintro r w2 ⟨rfl, bN⟩
  replace f0 := kF bN z0 f0
  replace f1 := kF bN z1 f1
  replace f2 := kF bN z2 f2
  replace z0 := kC bN z0
  replace z1 := kC bN z1
  replace z2 := kC bN z2
  replace bA := nT bA bN
  replace hs := le_hidP hs bN.size
  clear bN
  have HS2 := hs
  have bB := below_one w2 (.cells #[.bool false, .slice none 0 0, .int .i64 (ue - 1)] 25)
  obtain ⟨d0, df0, d1, df1, d2, df2⟩ := fX12 w2 ue
  replace f0 := kF bB z0 f0
  replace f1 := kF bB z1 f1
  replace f2 := kF bB z2 f2
  replace z0 := kC bB z0
  replace z1 := kC bB z1
  replace z2 := kC bB z2
  replace bA := nT bA bB
  replace hs := le_hidP hs bB.size
  clear bB
  go_wp2_with fail
  generalize (w2.alloc (.cells #[.bool false, .slice none 0 0, .int .i64 (ue - 1)] 25)) = w3 at *
  refine Calls.mono (HU.out _) ?_
  rintro r w9 ⟨rfl, rfl⟩
  go_wp2_with fail
  refine Calls.mono (HQ.out _) ?_
  rintro r w4 ⟨rfl, bN⟩
  replace f0 := kF bN z0 f0
  replace f1 := kF bN z1 f1
  replace f2 := kF bN z2 f2
  replace df0 := kF bN d0 df0
  replace df1 := kF bN d1 df1
  replace df2 := kF bN d2 df2
  replace z0 := kC bN z0
  replace z1 := kC bN z1
  replace z2 := kC bN z2
  replace d0 := kC bN d0
  replace d1 := kC bN d1
  replace d2 := kC bN d2
  replace bA := nT bA bN
  replace hs := le_hidP hs bN.size
  clear bN
  go_wp2_with fail
  have hs2 : Hid (w.heap.size < w2.heap.size) := HS2
  have l5 : w2.heap.size < w4.heap.size := World.block_lt_of_cell? _ _ d0
  have lz : w.heap.size < w2.heap.size := hs2.out
  have ne1 : w.heap.size ≠ w2.heap.size := Nat.ne_of_lt lz
  have ne2 : w2.heap.size ≠ w.heap.size := Nat.ne_of_gt lz
  refine Calls.mono (HK.out _) ?_
  rintro r w5 ⟨ao, cv, rfl, hO, bN⟩
  have IO := hO.isW HW.out
  clear hO
  replace f0 := kF bN z0 f0
  replace f1 := kF bN z1 f1
  replace f2 := kF bN z2 f2
  replace df0 := kF bN d0 df0
  replace df1 := kF bN d1 df1
  replace df2 := kF bN d2 df2
  replace z0 := kC bN z0
  replace z1 := kC bN z1
  replace z2 := kC bN z2
  replace d0 := kC bN d0
  replace d1 := kC bN d1
  replace d2 := kC bN d2
  replace bA := nT bA bN
  replace hs := le_hidP hs bN.size
  clear bN
  go_wp2_with fail
  have bS : Below w2.heap.size w5 (((w5.setCell ⟨w2.heap.size, 0, none⟩ (.bool true)).setCell ⟨w2.heap.size, 1, none⟩ (.slice ao ws.length cv)).setCell ⟨w2.heap.size, 2, none⟩ (.int .i64 (un - 1))) := (((Below.refl _ _).setCell (p := ⟨w2.heap.size, 0, none⟩) (Nat.le_refl _) _).setCell (p := ⟨w2.heap.size, 1, none⟩) (Nat.le_refl _) _).setCell (p := ⟨w2.heap.size, 2, none⟩) (Nat.le_refl _) _
  replace f0 := (bS.frozen (p := ⟨w.heap.size, 0, none⟩) lz).trans f0
  replace z0 := (bS.cell (p := ⟨w.heap.size, 0, none⟩) lz).trans z0
  replace f1 := (bS.frozen (p := ⟨w.heap.size, 1, none⟩) lz).trans f1
  replace z1 := (bS.cell (p := ⟨w.heap.size, 1, none⟩) lz).trans z1
  replace f2 := (bS.frozen (p := ⟨w.heap.size, 2, none⟩) lz).trans f2
  replace z2 := (bS.cell (p := ⟨w.heap.size, 2, none⟩) lz).trans z2
  replace IO := isW_set1 (isW_set1 (isW_set1 IO ⟨w2.heap.size, 0, none⟩ _ (.bool true) d0 (fun _ q => by cases q)) ⟨w2.heap.size, 1, none⟩ _ (.slice ao ws.length cv) ((World.cell?_setCell_other _ _ _ _ (by simp)).trans d1) (fun _ q => by cases q)) ⟨w2.heap.size, 2, none⟩ _ (.int .i64 (un - 1)) ((World.cell?_setCell_other _ _ _ _ (by simp)).trans ((World.cell?_setCell_other _ _ _ _ (by simp)).trans d2)) (fun _ q => by cases q)
  replace bA := ((bA.setCell (p := ⟨w2.heap.size, 0, none⟩) (Nat.le_of_lt lz) (.bool true)).setCell (p := ⟨w2.heap.size, 1, none⟩) (Nat.le_of_lt lz) (.slice ao ws.length cv)).setCell (p := ⟨w2.heap.size, 2, none⟩) (Nat.le_of_lt lz) (.int .i64 (un - 1))
  replace hs : Hid (w.heap.size + 1 ≤ (((w5.setCell ⟨w2.heap.size, 0, none⟩ (.bool true)).setCell ⟨w2.heap.size, 1, none⟩ (.slice ao ws.length cv)).setCell ⟨w2.heap.size, 2, none⟩ (.int .i64 (un - 1))).heap.size) := Nat.le_trans hs.out bS.size
  clear bS d0 d1 d2 df0 df1 df2
  generalize (((w5.setCell ⟨w2.heap.size, 0, none⟩ (.bool true)).setCell ⟨w2.heap.size, 1, none⟩ (.slice ao ws.length cv)).setCell ⟨w2.heap.size, 2, none⟩ (.int .i64 (un - 1))) = w6 at *
  have hlow : w.heap.size + 1 ≤ w6.heap.size := hs
  refine Calls.mono (HO.out _ _ _ IO) ?_
  rintro r w7 ⟨_, rfl, ⟨a9, n9, c9, rfl, HN9, hO9⟩, bN⟩
  have hO9' := hO9.low hlow
  clear hO9 hlow
  replace f0 := kF bN z0 f0
  replace f1 := kF bN z1 f1
  replace f2 := kF bN z2 f2
  replace z0 := kC bN z0
  replace z1 := kC bN z1
  replace z2 := kC bN z2
  replace IO := IsW.keep IO bN
  replace bA := nT bA bN
  replace hs := le_hidP hs bN.size
  clear bN
  go_wp2_with fail
  refine bodyPost_ret (v := .tuple #[dyV M.1 a9 n9 c9 M.2.2, .int .i64 0]) (by simp [results, Tryz.results10, go_sem, z0, z1, z2]) rfl ⟨_, rfl, ⟨a9, n9, c9, rfl, HN9, ?_⟩, ?_⟩
  · exact (((hO9'.far _ _ (by simp)).far _ _ (by simp)).far _ _ (by simp)).low (by omega)
  · repeat (first | with_reducible exact bA | refine Below.setCell ?_ (by simp) _)

theorem dyQ_at {B : Nat} {w : World} {v : Value} {p : Bool × Nat × Int} (h : DyQ B w v p) (hr : rightB p.2.1 p.2.2 = true) : DyAt B w v p := by
  obtain ⟨ao, n, c, h1, h2, h3⟩ := h
  exact ⟨ao, n, c, h1, h2, by rw [h2.out]; exact (great_len _).1 (rightB_yes hr).1, h3⟩
theorem qMid_calls (x : Int) (w : World) (ux : U x) :
    Calls Tryz.prog 10 #[.int .u64 x] w fun r w' => ∃ v', r = .returned (.tuple #[v', .int .i64 (lastE x)]) ∧ DyAt w.heap.size w' v' (midP x) ∧ Below w.heap.size w w' := by
  cases hx : finB x with
  | false =>
    have e1 : lastE x = 5 := by unfold lastE; rw [hx]; rfl
    have e2 : midP x = (false, 0, 0) := by unfold midP; rw [hx]; rfl
    rw [e1, e2]
    refine Calls.mono (qmid_bad x w ux hx) ?_
    rintro r w' ⟨rfl, hb⟩
    exact ⟨_, rfl, dyAt_zero _ _, hb⟩
  | true =>
    have e1 : lastE x = 0 := by unfold lastE; rw [hx]; rfl
    have e2 : midP x = midQ x := by unfold midP; rw [hx]; rfl
    have hr := mid_right x ux hx
    obtain ⟨d1, d2⟩ := mid_doc x ux hx
    rw [e1, e2]
    by_cases h1 : x < 9223372036854775808
    · have := qmid_a x w ux hx h1
      rw [← d1 (.inl h1)] at this
      refine Calls.mono this ?_
      rintro r w' ⟨v', rfl, q, hb⟩
      exact ⟨_, rfl, dyQ_at q hr, hb⟩
    · by_cases h2 : countV x = 0
      · have := qmid_b x w ux hx h1 h2
        rw [← d1 (.inr h2)] at this
        refine Calls.mono this ?_
        rintro r w' ⟨v', rfl, q, hb⟩
        exact ⟨_, rfl, dyQ_at q hr, hb⟩
      · obtain ⟨u1, u2⟩ := d2 (fun q => q.elim h1 h2)
        have := qmid_c x w ux hx h1 h2 u1 (by obtain ⟨q1, q2⟩ := ux; unfold U; omega)
        rw [← u2] at this
        refine Calls.mono this ?_
        rintro r w' ⟨v', rfl, q, hb⟩
        exact ⟨_, rfl, dyQ_at q hr, hb⟩
end Go.Proofs.YtognliaoonkmiaaGreatDoor
