/- Package ival: which numbers are in their order, which enclosures are right, which have a number. Package ival: both ends cut to p bits, each the way it goes. Package ival: the one form of both ends. Package ival: Canon, Point, Sign. -/
import Derived.Test.YtkkldnnndlpblaaGreatDoorRDC
import Derived.Test.YtkkldnnndlpblaaGreatDoorDGB
import Derived.Laws.EntriesVeiled
import Derived.Deep.RegionHeld3
import Derived.BigQuiet
import Derived.Deep.CutRange
import Derived.Test.YtkkldnnndlpblaaGreatDoorRDA

namespace Go.Proofs.YtkkldnnndlpblaaGreatDoor
open Go.RowKit
attribute [local go_sem ↓] Go.wp_at_zero Go.wp_at_succ

abbrev ivI (s : Bool) (a : Option Addr) (n c : Nat) (e : Int) (s' : Bool) (a' : Option Addr) (n' c' : Nat) (e' : Int) : Value := .agg #[.bool s, .slice a n c, .int .i64 e, .bool s', .slice a' n' c', .int .i64 e']

abbrev zIvI : Value := .agg #[.bool false, .slice none 0 0, .int .i64 0, .bool false, .slice none 0 0, .int .i64 0]

def rtI (s : Bool) (m : Nat) (e : Int) (s' : Bool) (m' : Nat) (e' : Int) : Bool := (rightB m e && rightB m' e') && decide (cmpD (formD s m e) (formD s' m' e') ≤ 0)

set_option maxRecDepth 100000 in
set_option maxHeartbeats 2000000 in
theorem atMost_calls (s : Bool) (a : Option Addr) (len cap : Nat) (xs : List Int) (e : Int) (s' : Bool) (a' : Option Addr) (len' cap' : Nat) (ys : List Int) (e' : Int) (w : World) (h : IsW w a len cap xs) (hm : len ≤ 17592186044000) (h' : IsW w a' len' cap' ys) (hm' : len' ≤ 17592186044000) (hT : Tab w) :
    Calls Tryz.prog 170 #[dyV s a len cap e, dyV s' a' len' cap' e'] w fun r w' => r = .returned (.bool (rtI s (val xs) e s' (val ys) e')) ∧ Below w.heap.size w w' := by
  have bA : Below w.heap.size w ((w.alloc (.cells #[.bool s, .slice a len cap, .int .i64 e] 26)).alloc (.cells #[.bool s', .slice a' len' cap', .int .i64 e'] 26)) := nbelow_trans (below_one _ _) (below_one _ _)
  cases hr : (rightB (val xs) e && rightB (val ys) e') with
  | false =>
    have HC : Hid _ := dcmp_not s a len cap xs e s' a' len' cap' ys e' _ (h.keep bA) (by omega) (h'.keep bA) (by omega) hr
    have e1 : Hid (rtI s (val xs) e s' (val ys) e' = false) := by rw [Hid]; unfold rtI; rw [hr]; rfl
    clear hr h h' hT
    go_enter Tryz.func170, Tryz.ntmps170
    go_wp2_with fail
    refine Calls.mono HC.out ?_
    rintro r w1 ⟨rfl, bN⟩
    go_wp2_with fail
    go_ret
    rw [e1.out]
    exact ⟨rfl, nbelow_trans bA bN⟩
  | true =>
    rw [Bool.and_eq_true] at hr
    have HC : Hid _ := dcmp_yes s a len cap xs e s' a' len' cap' ys e' _ (h.keep bA) (by omega) (h'.keep bA) (by omega) (hT.kept bA) hr.1 hr.2
    have e1 : Hid (rtI s (val xs) e s' (val ys) e' = decide (cmpD (formD s (val xs) e) (formD s' (val ys) e') ≤ 0)) := by rw [Hid]; unfold rtI; rw [hr.1, hr.2]; rfl
    generalize cmpD (formD s (val xs) e) (formD s' (val ys) e') = cc at *
    clear hr h h' hT
    go_enter Tryz.func170, Tryz.ntmps170
    go_wp2_with fail
    refine Calls.mono HC.out ?_
    rintro r w1 ⟨rfl, bN⟩
    go_wp2_with fail
    go_ret
    rw [e1.out]
    exact ⟨rfl, nbelow_trans bA bN⟩

set_option maxRecDepth 100000 in
set_option maxHeartbeats 4000000 in
theorem iright1_calls (s : Bool) (a : Option Addr) (len cap : Nat) (xs : List Int) (e : Int) (s' : Bool) (a' : Option Addr) (len' cap' : Nat) (ys : List Int) (e' : Int) (B : Nat) (w : World) (h : IsW w a len cap xs) (hm : len ≤ 17592186044000) (h' : IsW w a' len' cap' ys) (hm' : len' ≤ 17592186044000) (c0 : w.cell? ⟨B, 0, none⟩ = some (.bool s)) (c1 : w.cell? ⟨B, 1, none⟩ = some (.slice a len cap)) (c2 : w.cell? ⟨B, 2, none⟩ = some (.int .i64 e)) (c3 : w.cell? ⟨B, 3, none⟩ = some (.bool s')) (c4 : w.cell? ⟨B, 4, none⟩ = some (.slice a' len' cap')) (c5 : w.cell? ⟨B, 5, none⟩ = some (.int .i64 e')) (hT : Tab w) :
    Calls Tryz.prog 142 #[.slice (some ⟨B, 0, none⟩) 1 1] w fun r w' => r = .returned (.bool (rtI s (val xs) e s' (val ys) e')) ∧ Below w.heap.size w w' := by
  have HM1 : Hid _ := fun w' (q : IsW w' a len cap xs) (q' : IsW w' a' len' cap' ys) t' => atMost_calls s a len cap xs e s' a' len' cap' ys e' w' q hm q' hm' t'
  generalize rtI s (val xs) e s' (val ys) e' = R1 at *
  clear hm hm'
  go_enter Tryz.func142, Tryz.ntmps142
  go_wp2_with fail
  go_loopw [7] (fun vi wr => ∃ k : Nat, k ≤ 1 ∧ vi = .int .i64 (k : Int) ∧ Below w.heap.size w wr ∧ Hid (1 ≤ k → R1 = true)) (fun vi _ => 1 - (intOf vi).toNat)
  case atStart => exact ⟨0, by omega, rfl, Below.refl _ _, fun q => absurd q (by omega)⟩
  case round =>
    obtain ⟨k, hk, rfl, bw, K1⟩ := hrel
    rcases (show k = 0 ∨ k = 1 by omega) with q | q
    · subst q
      have k0 := dcarry_cell bw c0
      have k1 := dcarry_cell bw c1
      have k2 := dcarry_cell bw c2
      have k3 := dcarry_cell bw c3
      have k4 := dcarry_cell bw c4
      have k5 := dcarry_cell bw c5
      have i1 := IsW.keep h bw
      have i2 := IsW.keep h' bw
      have tt := hT.kept bw
      have bB := below_one wr (.cells #[.bool s, .slice a len cap, .int .i64 e, .bool s', .slice a' len' cap', .int .i64 e'] 28)
      have y0 : (wr.alloc (.cells #[.bool s, .slice a len cap, .int .i64 e, .bool s', .slice a' len' cap', .int .i64 e'] 28)).cell? ⟨wr.heap.size, 0, none⟩ = some (.bool s) := by go_simp
      have y1 : (wr.alloc (.cells #[.bool s, .slice a len cap, .int .i64 e, .bool s', .slice a' len' cap', .int .i64 e'] 28)).cell? ⟨wr.heap.size, 1, none⟩ = some (.slice a len cap) := by go_simp
      have y2 : (wr.alloc (.cells #[.bool s, .slice a len cap, .int .i64 e, .bool s', .slice a' len' cap', .int .i64 e'] 28)).cell? ⟨wr.heap.size, 2, none⟩ = some (.int .i64 e) := by go_simp
      have y3 : (wr.alloc (.cells #[.bool s, .slice a len cap, .int .i64 e, .bool s', .slice a' len' cap', .int .i64 e'] 28)).cell? ⟨wr.heap.size, 3, none⟩ = some (.bool s') := by go_simp
      have y4 : (wr.alloc (.cells #[.bool s, .slice a len cap, .int .i64 e, .bool s', .slice a' len' cap', .int .i64 e'] 28)).cell? ⟨wr.heap.size, 4, none⟩ = some (.slice a' len' cap') := by go_simp
      have y5 : (wr.alloc (.cells #[.bool s, .slice a len cap, .int .i64 e, .bool s', .slice a' len' cap', .int .i64 e'] 28)).cell? ⟨wr.heap.size, 5, none⟩ = some (.int .i64 e') := by go_simp
      replace i1 := IsW.keep i1 bB
      replace i2 := IsW.keep i2 bB
      replace tt := tt.kept bB
      replace bw := nbelow_trans bw bB
      clear bB
      go_wp2_with fail
      generalize (wr.alloc (.cells #[.bool s, .slice a len cap, .int .i64 e, .bool s', .slice a' len' cap', .int .i64 e'] 28)) = w2 at *
      refine Calls.mono (HM1.out _ i1 i2 tt) ?_
      rintro r w3 ⟨rfl, bN⟩
      replace bw := nbelow_trans bw bN
      clear bN k0 k1 k2 k3 k4 k5 y0 y1 y2 y3 y4 y5 i1 i2 tt
      cases R1
      · go_wp2_with fail
        go_ret
        exact ⟨by first | rfl | simp, bw⟩
      · go_wp2_with fail
        exact ⟨⟨1, by omega, by first | rfl | go_num, bw, fun _ => by first | rfl | trivial⟩, by simp [intOf]⟩
    · subst q
      have e1 : Hid _ := K1.out (by omega)
      go_wp2_with fail
      go_ret
      rw [e1.out]
      exact ⟨rfl, bw⟩

end Go.Proofs.YtkkldnnndlpblaaGreatDoor

namespace Go.Proofs.YtkkldnnndlpblaaGreatDoor
open Go.RowKit

theorem isW_sixI {w : World} {a : Option Addr} {n c r : Nat} {xs : List Int} (h : IsW w a n c xs) (z : ∀ i, i < 6 → ∃ x, w.cell? ⟨r, i, none⟩ = some x ∧ ∀ j : Int, x ≠ .int .u64 j) (v0 v1 v2 v3 v4 v5 : Value) :
    IsW ((((((w.setCell ⟨r, 0, none⟩ v0).setCell ⟨r, 1, none⟩ v1).setCell ⟨r, 2, none⟩ v2).setCell ⟨r, 3, none⟩ v3).setCell ⟨r, 4, none⟩ v4).setCell ⟨r, 5, none⟩ v5) a n c xs := by
  obtain ⟨h1, h2, h4, h3⟩ := h
  refine ⟨h1, h2, h4, fun i hi => ?_⟩
  obtain ⟨b, off, e1, e2, e3⟩ := h3 i hi
  have ne : ∀ k, k < 6 → (⟨b, off + i, none⟩ : Addr) ≠ ⟨r, k, none⟩ := fun k hk q => by
    obtain ⟨x, hx, hn⟩ := z k hk
    rw [← q, e3] at hx
    exact hn _ (Option.some.inj hx).symm
  refine ⟨b, off, e1, by simpa using e2, ?_⟩
  rw [World.cell?_setCell_other _ _ _ _ (fun q => ne 5 (by decide) q.symm), World.cell?_setCell_other _ _ _ _ (fun q => ne 4 (by decide) q.symm), World.cell?_setCell_other _ _ _ _ (fun q => ne 3 (by decide) q.symm), World.cell?_setCell_other _ _ _ _ (fun q => ne 2 (by decide) q.symm), World.cell?_setCell_other _ _ _ _ (fun q => ne 1 (by decide) q.symm), World.cell?_setCell_other _ _ _ _ (fun q => ne 0 (by decide) q.symm)]
  exact e3

theorem six_ofI {w : World} {r : Nat} {x0 x1 x2 x3 x4 x5 : Value} (z0 : w.cell? ⟨r, 0, none⟩ = some x0) (z1 : w.cell? ⟨r, 1, none⟩ = some x1) (z2 : w.cell? ⟨r, 2, none⟩ = some x2) (z3 : w.cell? ⟨r, 3, none⟩ = some x3) (z4 : w.cell? ⟨r, 4, none⟩ = some x4) (z5 : w.cell? ⟨r, 5, none⟩ = some x5) (n0 : ∀ j : Int, x0 ≠ .int .u64 j) (n1 : ∀ j : Int, x1 ≠ .int .u64 j) (n2 : ∀ j : Int, x2 ≠ .int .u64 j) (n3 : ∀ j : Int, x3 ≠ .int .u64 j) (n4 : ∀ j : Int, x4 ≠ .int .u64 j) (n5 : ∀ j : Int, x5 ≠ .int .u64 j) : ∀ i, i < 6 → ∃ x, w.cell? ⟨r, i, none⟩ = some x ∧ ∀ j : Int, x ≠ .int .u64 j := fun i hi =>
  match i, hi with
  | 0, _ => ⟨_, z0, n0⟩
  | 1, _ => ⟨_, z1, n1⟩
  | 2, _ => ⟨_, z2, n2⟩
  | 3, _ => ⟨_, z3, n3⟩
  | 4, _ => ⟨_, z4, n4⟩
  | 5, _ => ⟨_, z5, n5⟩

theorem ownW_sixI {B : Nat} {w : World} {a : Option Addr} {n c r : Nat} {xs : List Int} (h : OwnW B w a n c xs) (z : ∀ i, i < 6 → ∃ x, w.cell? ⟨r, i, none⟩ = some x ∧ ∀ j : Int, x ≠ .int .u64 j) (v0 v1 v2 v3 v4 v5 : Value) :
    OwnW B ((((((w.setCell ⟨r, 0, none⟩ v0).setCell ⟨r, 1, none⟩ v1).setCell ⟨r, 2, none⟩ v2).setCell ⟨r, 3, none⟩ v3).setCell ⟨r, 4, none⟩ v4).setCell ⟨r, 5, none⟩ v5) a n c xs := by
  refine ⟨isW_sixI h.1 z _ _ _ _ _ _, fun b off i e hi => ?_⟩
  obtain ⟨h6, h7⟩ := h.2 b off i e hi
  refine ⟨h6, ?_⟩
  rw [World.frozen?_setCell, World.frozen?_setCell, World.frozen?_setCell, World.frozen?_setCell, World.frozen?_setCell, World.frozen?_setCell]
  exact h7

theorem nil_ow {L H : Bool × Nat × Int} {E k : Int} {w w' : World} (h : E = k ∧ L = (false, 0, 0) ∧ H = (false, 0, 0)) (hb : Below w.heap.size w w') : ∃ al nl cl ah nh ch, (Ending.returned (.tuple #[zIvI, .int .i64 k])) = .returned (.tuple #[ivI L.1 al nl cl L.2.2 H.1 ah nh ch H.2.2, .int .i64 E]) ∧ nl ≤ 1024 ∧ nh ≤ 1024 ∧ OwnW w.heap.size w' al nl cl (wordsOf L.2.1) ∧ OwnW w.heap.size w' ah nh ch (wordsOf H.2.1) ∧ Below w.heap.size w w' := by
  obtain ⟨rfl, rfl, rfl⟩ := h
  exact ⟨.none, 0, 0, .none, 0, 0, rfl, by decide, by decide, by rw [words_zero]; exact ownW_nil _ _, by rw [words_zero]; exact ownW_nil _ _, hb⟩

end Go.Proofs.YtkkldnnndlpblaaGreatDoor

namespace Go.Proofs.YtkkldnnndlpblaaGreatDoor
open Go.RowKit

theorem bx3 (w : World) (x y z : Value) (t : Nat) : (w.alloc (.cells #[x, y, z] t)).cell? ⟨w.heap.size, 0, none⟩ = some x ∧ (w.alloc (.cells #[x, y, z] t)).cell? ⟨w.heap.size, 1, none⟩ = some y ∧ (w.alloc (.cells #[x, y, z] t)).cell? ⟨w.heap.size, 2, none⟩ = some z := ⟨by go_simp, by go_simp, by go_simp⟩

def cnE (s : Bool) (m : Nat) (e : Int) (s' : Bool) (m' : Nat) (e' : Int) : Int := if rtI s m e s' m' e' = true then (if canE s m e ≠ 0 then canE s m e else canE s' m' e') else 2

def cnL (s : Bool) (m : Nat) (e : Int) (s' : Bool) (m' : Nat) (e' : Int) : Bool × Nat × Int := if cnE s m e s' m' e' = 0 then canP s m e else (false, 0, 0)

def cnH (s : Bool) (m : Nat) (e : Int) (s' : Bool) (m' : Nat) (e' : Int) : Bool × Nat × Int := if cnE s m e s' m' e' = 0 then canP s' m' e' else (false, 0, 0)

set_option maxRecDepth 100000 in
set_option maxHeartbeats 4000000 in
theorem eachCanon_calls (s : Bool) (a : Option Addr) (len cap : Nat) (xs : List Int) (e : Int) (s' : Bool) (a' : Option Addr) (len' cap' : Nat) (ys : List Int) (e' : Int) (w : World) (h : IsW w a len cap xs) (hm : len ≤ 17592186044000) (h' : IsW w a' len' cap' ys) (hm' : len' ≤ 17592186044000) (hT : Tab w) :
    Calls Tryz.prog 107 #[.func (.func 108) #[] #[], ivI s a len cap e s' a' len' cap' e'] w fun r w' => ∃ al nl cl ah nh ch, r = .returned (.tuple #[ivI (cnL s (val xs) e s' (val ys) e').1 al nl cl (cnL s (val xs) e s' (val ys) e').2.2 (cnH s (val xs) e s' (val ys) e').1 ah nh ch (cnH s (val xs) e s' (val ys) e').2.2, .int .i64 (cnE s (val xs) e s' (val ys) e')]) ∧ nl ≤ 1024 ∧ nh ≤ 1024 ∧ OwnW w.heap.size w' al nl cl (wordsOf (cnL s (val xs) e s' (val ys) e').2.1) ∧ OwnW w.heap.size w' ah nh ch (wordsOf (cnH s (val xs) e s' (val ys) e').2.1) ∧ Below w.heap.size w w' := by
  have bA : Below w.heap.size w (((w.alloc (.cells #[.bool s, .slice a len cap, .int .i64 e, .bool s', .slice a' len' cap', .int .i64 e'] 28)).alloc (.cells #[.bool false, .slice none 0 0, .int .i64 0, .bool false, .slice none 0 0, .int .i64 0] 28)).alloc (.cells #[.bool s, .slice a len cap, .int .i64 e, .bool s', .slice a' len' cap', .int .i64 e'] 28)) := nbelow_trans (nbelow_trans (below_one _ _) (below_one _ _)) (below_one _ _)
  have HR : Hid _ := iright1_calls s a len cap xs e s' a' len' cap' ys e' (w.heap.size + 1 + 1) (((w.alloc (.cells #[.bool s, .slice a len cap, .int .i64 e, .bool s', .slice a' len' cap', .int .i64 e'] 28)).alloc (.cells #[.bool false, .slice none 0 0, .int .i64 0, .bool false, .slice none 0 0, .int .i64 0] 28)).alloc (.cells #[.bool s, .slice a len cap, .int .i64 e, .bool s', .slice a' len' cap', .int .i64 e'] 28)) (h.keep bA) hm (h'.keep bA) hm' (by go_simp) (by go_simp) (by go_simp) (by go_simp) (by go_simp) (by go_simp) (hT.kept bA)
  have HC1 : Hid _ := fun w' (k : IsW w' a len cap xs) tt => pCanon_calls s a len cap xs e w' k (by omega) tt
  have HC2 : Hid _ := fun w' (k : IsW w' a' len' cap' ys) tt => pCanon_calls s' a' len' cap' ys e' w' k (by omega) tt
  have HA : Hid (cnE s (val xs) e s' (val ys) e' = if rtI s (val xs) e s' (val ys) e' = true then (if canE s (val xs) e ≠ 0 then canE s (val xs) e else canE s' (val ys) e') else 2) := by rw [Hid]; rfl
  have HAL : Hid (cnL s (val xs) e s' (val ys) e' = if cnE s (val xs) e s' (val ys) e' = 0 then canP s (val xs) e else (false, 0, 0)) := by rw [Hid]; rfl
  have HAH : Hid (cnH s (val xs) e s' (val ys) e' = if cnE s (val xs) e s' (val ys) e' = 0 then canP s' (val ys) e' else (false, 0, 0)) := by rw [Hid]; rfl
  generalize cnE s (val xs) e s' (val ys) e' = EE at *
  generalize cnL s (val xs) e s' (val ys) e' = LL at *
  generalize cnH s (val xs) e s' (val ys) e' = HH at *
  generalize rtI s (val xs) e s' (val ys) e' = rr at *
  generalize canE s (val xs) e = el at *
  generalize canE s' (val ys) e' = eh at *
  generalize canP s (val xs) e = PL at *
  generalize canP s' (val ys) e' = PH at *
  have hI := h.keep bA
  have hJ := h'.keep bA
  have hT0 := hT.kept bA
  have c0 : (((w.alloc (.cells #[.bool s, .slice a len cap, .int .i64 e, .bool s', .slice a' len' cap', .int .i64 e'] 28)).alloc (.cells #[.bool false, .slice none 0 0, .int .i64 0, .bool false, .slice none 0 0, .int .i64 0] 28)).alloc (.cells #[.bool s, .slice a len cap, .int .i64 e, .bool s', .slice a' len' cap', .int .i64 e'] 28)).cell? ⟨w.heap.size, 0, none⟩ = some (.bool s) := by go_simp
  have c1 : (((w.alloc (.cells #[.bool s, .slice a len cap, .int .i64 e, .bool s', .slice a' len' cap', .int .i64 e'] 28)).alloc (.cells #[.bool false, .slice none 0 0, .int .i64 0, .bool false, .slice none 0 0, .int .i64 0] 28)).alloc (.cells #[.bool s, .slice a len cap, .int .i64 e, .bool s', .slice a' len' cap', .int .i64 e'] 28)).cell? ⟨w.heap.size, 1, none⟩ = some (.slice a len cap) := by go_simp
  have c2 : (((w.alloc (.cells #[.bool s, .slice a len cap, .int .i64 e, .bool s', .slice a' len' cap', .int .i64 e'] 28)).alloc (.cells #[.bool false, .slice none 0 0, .int .i64 0, .bool false, .slice none 0 0, .int .i64 0] 28)).alloc (.cells #[.bool s, .slice a len cap, .int .i64 e, .bool s', .slice a' len' cap', .int .i64 e'] 28)).cell? ⟨w.heap.size, 2, none⟩ = some (.int .i64 e) := by go_simp
  have c3 : (((w.alloc (.cells #[.bool s, .slice a len cap, .int .i64 e, .bool s', .slice a' len' cap', .int .i64 e'] 28)).alloc (.cells #[.bool false, .slice none 0 0, .int .i64 0, .bool false, .slice none 0 0, .int .i64 0] 28)).alloc (.cells #[.bool s, .slice a len cap, .int .i64 e, .bool s', .slice a' len' cap', .int .i64 e'] 28)).cell? ⟨w.heap.size, 3, none⟩ = some (.bool s') := by go_simp
  have c4 : (((w.alloc (.cells #[.bool s, .slice a len cap, .int .i64 e, .bool s', .slice a' len' cap', .int .i64 e'] 28)).alloc (.cells #[.bool false, .slice none 0 0, .int .i64 0, .bool false, .slice none 0 0, .int .i64 0] 28)).alloc (.cells #[.bool s, .slice a len cap, .int .i64 e, .bool s', .slice a' len' cap', .int .i64 e'] 28)).cell? ⟨w.heap.size, 4, none⟩ = some (.slice a' len' cap') := by go_simp
  have c5 : (((w.alloc (.cells #[.bool s, .slice a len cap, .int .i64 e, .bool s', .slice a' len' cap', .int .i64 e'] 28)).alloc (.cells #[.bool false, .slice none 0 0, .int .i64 0, .bool false, .slice none 0 0, .int .i64 0] 28)).alloc (.cells #[.bool s, .slice a len cap, .int .i64 e, .bool s', .slice a' len' cap', .int .i64 e'] 28)).cell? ⟨w.heap.size, 5, none⟩ = some (.int .i64 e') := by go_simp
  have z0 : (((w.alloc (.cells #[.bool s, .slice a len cap, .int .i64 e, .bool s', .slice a' len' cap', .int .i64 e'] 28)).alloc (.cells #[.bool false, .slice none 0 0, .int .i64 0, .bool false, .slice none 0 0, .int .i64 0] 28)).alloc (.cells #[.bool s, .slice a len cap, .int .i64 e, .bool s', .slice a' len' cap', .int .i64 e'] 28)).cell? ⟨w.heap.size + 1, 0, none⟩ = some (.bool false) := by go_simp
  have f0 : (((w.alloc (.cells #[.bool s, .slice a len cap, .int .i64 e, .bool s', .slice a' len' cap', .int .i64 e'] 28)).alloc (.cells #[.bool false, .slice none 0 0, .int .i64 0, .bool false, .slice none 0 0, .int .i64 0] 28)).alloc (.cells #[.bool s, .slice a len cap, .int .i64 e, .bool s', .slice a' len' cap', .int .i64 e'] 28)).frozen? ⟨w.heap.size + 1, 0, none⟩ = false := by go_simp
  have z1 : (((w.alloc (.cells #[.bool s, .slice a len cap, .int .i64 e, .bool s', .slice a' len' cap', .int .i64 e'] 28)).alloc (.cells #[.bool false, .slice none 0 0, .int .i64 0, .bool false, .slice none 0 0, .int .i64 0] 28)).alloc (.cells #[.bool s, .slice a len cap, .int .i64 e, .bool s', .slice a' len' cap', .int .i64 e'] 28)).cell? ⟨w.heap.size + 1, 1, none⟩ = some (.slice none 0 0) := by go_simp
  have f1 : (((w.alloc (.cells #[.bool s, .slice a len cap, .int .i64 e, .bool s', .slice a' len' cap', .int .i64 e'] 28)).alloc (.cells #[.bool false, .slice none 0 0, .int .i64 0, .bool false, .slice none 0 0, .int .i64 0] 28)).alloc (.cells #[.bool s, .slice a len cap, .int .i64 e, .bool s', .slice a' len' cap', .int .i64 e'] 28)).frozen? ⟨w.heap.size + 1, 1, none⟩ = false := by go_simp
  have z2 : (((w.alloc (.cells #[.bool s, .slice a len cap, .int .i64 e, .bool s', .slice a' len' cap', .int .i64 e'] 28)).alloc (.cells #[.bool false, .slice none 0 0, .int .i64 0, .bool false, .slice none 0 0, .int .i64 0] 28)).alloc (.cells #[.bool s, .slice a len cap, .int .i64 e, .bool s', .slice a' len' cap', .int .i64 e'] 28)).cell? ⟨w.heap.size + 1, 2, none⟩ = some (.int .i64 0) := by go_simp
  have f2 : (((w.alloc (.cells #[.bool s, .slice a len cap, .int .i64 e, .bool s', .slice a' len' cap', .int .i64 e'] 28)).alloc (.cells #[.bool false, .slice none 0 0, .int .i64 0, .bool false, .slice none 0 0, .int .i64 0] 28)).alloc (.cells #[.bool s, .slice a len cap, .int .i64 e, .bool s', .slice a' len' cap', .int .i64 e'] 28)).frozen? ⟨w.heap.size + 1, 2, none⟩ = false := by go_simp
  have z3 : (((w.alloc (.cells #[.bool s, .slice a len cap, .int .i64 e, .bool s', .slice a' len' cap', .int .i64 e'] 28)).alloc (.cells #[.bool false, .slice none 0 0, .int .i64 0, .bool false, .slice none 0 0, .int .i64 0] 28)).alloc (.cells #[.bool s, .slice a len cap, .int .i64 e, .bool s', .slice a' len' cap', .int .i64 e'] 28)).cell? ⟨w.heap.size + 1, 3, none⟩ = some (.bool false) := by go_simp
  have f3 : (((w.alloc (.cells #[.bool s, .slice a len cap, .int .i64 e, .bool s', .slice a' len' cap', .int .i64 e'] 28)).alloc (.cells #[.bool false, .slice none 0 0, .int .i64 0, .bool false, .slice none 0 0, .int .i64 0] 28)).alloc (.cells #[.bool s, .slice a len cap, .int .i64 e, .bool s', .slice a' len' cap', .int .i64 e'] 28)).frozen? ⟨w.heap.size + 1, 3, none⟩ = false := by go_simp
  have z4 : (((w.alloc (.cells #[.bool s, .slice a len cap, .int .i64 e, .bool s', .slice a' len' cap', .int .i64 e'] 28)).alloc (.cells #[.bool false, .slice none 0 0, .int .i64 0, .bool false, .slice none 0 0, .int .i64 0] 28)).alloc (.cells #[.bool s, .slice a len cap, .int .i64 e, .bool s', .slice a' len' cap', .int .i64 e'] 28)).cell? ⟨w.heap.size + 1, 4, none⟩ = some (.slice none 0 0) := by go_simp
  have f4 : (((w.alloc (.cells #[.bool s, .slice a len cap, .int .i64 e, .bool s', .slice a' len' cap', .int .i64 e'] 28)).alloc (.cells #[.bool false, .slice none 0 0, .int .i64 0, .bool false, .slice none 0 0, .int .i64 0] 28)).alloc (.cells #[.bool s, .slice a len cap, .int .i64 e, .bool s', .slice a' len' cap', .int .i64 e'] 28)).frozen? ⟨w.heap.size + 1, 4, none⟩ = false := by go_simp
  have z5 : (((w.alloc (.cells #[.bool s, .slice a len cap, .int .i64 e, .bool s', .slice a' len' cap', .int .i64 e'] 28)).alloc (.cells #[.bool false, .slice none 0 0, .int .i64 0, .bool false, .slice none 0 0, .int .i64 0] 28)).alloc (.cells #[.bool s, .slice a len cap, .int .i64 e, .bool s', .slice a' len' cap', .int .i64 e'] 28)).cell? ⟨w.heap.size + 1, 5, none⟩ = some (.int .i64 0) := by go_simp
  have f5 : (((w.alloc (.cells #[.bool s, .slice a len cap, .int .i64 e, .bool s', .slice a' len' cap', .int .i64 e'] 28)).alloc (.cells #[.bool false, .slice none 0 0, .int .i64 0, .bool false, .slice none 0 0, .int .i64 0] 28)).alloc (.cells #[.bool s, .slice a len cap, .int .i64 e, .bool s', .slice a' len' cap', .int .i64 e'] 28)).frozen? ⟨w.heap.size + 1, 5, none⟩ = false := by go_simp
  clear h h' hT hm hm'
  go_enter Tryz.func107, Tryz.ntmps107
  go_wp2_with fail
  generalize (((w.alloc (.cells #[.bool s, .slice a len cap, .int .i64 e, .bool s', .slice a' len' cap', .int .i64 e'] 28)).alloc (.cells #[.bool false, .slice none 0 0, .int .i64 0, .bool false, .slice none 0 0, .int .i64 0] 28)).alloc (.cells #[.bool s, .slice a len cap, .int .i64 e, .bool s', .slice a' len' cap', .int .i64 e'] 28)) = w0 at *
  refine Calls.mono (HR.out) ?_
  rintro r w1 ⟨rfl, bN⟩
  replace f0 := dcarry_frozen bN z0 f0
  replace f1 := dcarry_frozen bN z1 f1
  replace f2 := dcarry_frozen bN z2 f2
  replace f3 := dcarry_frozen bN z3 f3
  replace f4 := dcarry_frozen bN z4 f4
  replace f5 := dcarry_frozen bN z5 f5
  replace c0 := dcarry_cell bN c0
  replace c1 := dcarry_cell bN c1
  replace c2 := dcarry_cell bN c2
  replace c3 := dcarry_cell bN c3
  replace c4 := dcarry_cell bN c4
  replace c5 := dcarry_cell bN c5
  replace z0 := dcarry_cell bN z0
  replace z1 := dcarry_cell bN z1
  replace z2 := dcarry_cell bN z2
  replace z3 := dcarry_cell bN z3
  replace z4 := dcarry_cell bN z4
  replace z5 := dcarry_cell bN z5
  replace hI := IsW.keep hI bN
  replace hJ := IsW.keep hJ bN
  replace hT0 := hT0.kept bN
  replace bA := nbelow_trans bA bN
  clear bN
  clear HR
  cases rr
  · have e1 : EE = 2 := by rw [HA.out]; rfl
    have KK : Hid (EE = 2 ∧ LL = (false, 0, 0) ∧ HH = (false, 0, 0)) := ⟨e1, by rw [HAL.out, e1]; rfl, by rw [HAH.out, e1]; rfl⟩
    clear HA HAL HAH e1 HC1 HC2
    go_wp2_with fail
    exact bodyPost_ret (v := .tuple #[zIvI, .int .i64 2]) (by simp [results, Tryz.results107, go_sem, zIvI, z0, z1, z2, z3, z4, z5]) rfl (nil_ow (KK.out) (by repeat (first | (with_reducible exact bA) | (with_reducible refine Below.setCell ?_ (by simp) _))))
  have HB : Hid (EE = if el ≠ 0 then el else eh) := by rw [Hid, HA.out]; rfl
  clear HA
  go_wp2_with fail
  have lw1 : Hid (_ ≤ _) := bA.size
  refine Calls.mono (HC1.out _ hI hT0) ?_
  rintro r w2 ⟨v, rfl, ⟨al, nl, cl, rfl, -, hll, hOl⟩, bN⟩
  have hl0 := hOl.low lw1.out
  clear hOl lw1
  replace f0 := dcarry_frozen bN z0 f0
  replace f1 := dcarry_frozen bN z1 f1
  replace f2 := dcarry_frozen bN z2 f2
  replace f3 := dcarry_frozen bN z3 f3
  replace f4 := dcarry_frozen bN z4 f4
  replace f5 := dcarry_frozen bN z5 f5
  replace c0 := dcarry_cell bN c0
  replace c1 := dcarry_cell bN c1
  replace c2 := dcarry_cell bN c2
  replace c3 := dcarry_cell bN c3
  replace c4 := dcarry_cell bN c4
  replace c5 := dcarry_cell bN c5
  replace z0 := dcarry_cell bN z0
  replace z1 := dcarry_cell bN z1
  replace z2 := dcarry_cell bN z2
  replace z3 := dcarry_cell bN z3
  replace z4 := dcarry_cell bN z4
  replace z5 := dcarry_cell bN z5
  replace hI := IsW.keep hI bN
  replace hJ := IsW.keep hJ bN
  replace hT0 := hT0.kept bN
  replace bA := nbelow_trans bA bN
  clear bN
  by_cases jl : el ≠ 0
  · skip
    have e1 : EE = el := by rw [HB.out, if_pos jl]
    have KK : Hid (EE = el ∧ LL = (false, 0, 0) ∧ HH = (false, 0, 0)) := ⟨e1, by rw [HAL.out, e1, if_neg jl], by rw [HAH.out, e1, if_neg jl]⟩
    have d1 : (el != 0) = true := by simp [jl]
    clear HB HAL HAH e1
    have bB := below_one w2 (.cells #[.bool PL.1, .slice al nl cl, .int .i64 PL.2.2] 26)
    obtain ⟨l0, l1, l2⟩ := bx3 w2 (.bool PL.1) (.slice al nl cl) (.int .i64 PL.2.2) 26
    replace hl0 := hl0.keep bB
    replace f0 := dcarry_frozen bB z0 f0
    replace f1 := dcarry_frozen bB z1 f1
    replace f2 := dcarry_frozen bB z2 f2
    replace f3 := dcarry_frozen bB z3 f3
    replace f4 := dcarry_frozen bB z4 f4
    replace f5 := dcarry_frozen bB z5 f5
    replace c0 := dcarry_cell bB c0
    replace c1 := dcarry_cell bB c1
    replace c2 := dcarry_cell bB c2
    replace c3 := dcarry_cell bB c3
    replace c4 := dcarry_cell bB c4
    replace c5 := dcarry_cell bB c5
    replace z0 := dcarry_cell bB z0
    replace z1 := dcarry_cell bB z1
    replace z2 := dcarry_cell bB z2
    replace z3 := dcarry_cell bB z3
    replace z4 := dcarry_cell bB z4
    replace z5 := dcarry_cell bB z5
    replace hI := IsW.keep hI bB
    replace hJ := IsW.keep hJ bB
    replace hT0 := hT0.kept bB
    replace bA := nbelow_trans bA bB
    clear bB
    go_wp2_with fail
    exact bodyPost_ret (v := .tuple #[zIvI, .int .i64 el]) (by simp [results, Tryz.results107, go_sem, zIvI, z0, z1, z2, z3, z4, z5]) rfl (nil_ow (KK.out) (by repeat (first | (with_reducible exact bA) | (with_reducible refine Below.setCell ?_ (by simp) _))))
  replace jl : el = 0 := Decidable.of_not_not jl
  subst jl
  have bB := below_one w2 (.cells #[.bool PL.1, .slice al nl cl, .int .i64 PL.2.2] 26)
  obtain ⟨l0, l1, l2⟩ := bx3 w2 (.bool PL.1) (.slice al nl cl) (.int .i64 PL.2.2) 26
  replace hl0 := hl0.keep bB
  replace f0 := dcarry_frozen bB z0 f0
  replace f1 := dcarry_frozen bB z1 f1
  replace f2 := dcarry_frozen bB z2 f2
  replace f3 := dcarry_frozen bB z3 f3
  replace f4 := dcarry_frozen bB z4 f4
  replace f5 := dcarry_frozen bB z5 f5
  replace c0 := dcarry_cell bB c0
  replace c1 := dcarry_cell bB c1
  replace c2 := dcarry_cell bB c2
  replace c3 := dcarry_cell bB c3
  replace c4 := dcarry_cell bB c4
  replace c5 := dcarry_cell bB c5
  replace z0 := dcarry_cell bB z0
  replace z1 := dcarry_cell bB z1
  replace z2 := dcarry_cell bB z2
  replace z3 := dcarry_cell bB z3
  replace z4 := dcarry_cell bB z4
  replace z5 := dcarry_cell bB z5
  replace hI := IsW.keep hI bB
  replace hJ := IsW.keep hJ bB
  replace hT0 := hT0.kept bB
  replace bA := nbelow_trans bA bB
  clear bB
  go_wp2_with fail
  generalize (w2.alloc (.cells #[.bool PL.1, .slice al nl cl, .int .i64 PL.2.2] 26)) = w3 at *
  have lw2 : Hid (_ ≤ _) := bA.size
  refine Calls.mono (HC2.out _ hJ hT0) ?_
  rintro r w4 ⟨v, rfl, ⟨ah, nh, ch, rfl, -, hlh, hOh⟩, bN⟩
  have hh0 := hOh.low lw2.out
  clear hOh lw2
  replace hl0 := hl0.keep bN
  replace f0 := dcarry_frozen bN z0 f0
  replace f1 := dcarry_frozen bN z1 f1
  replace f2 := dcarry_frozen bN z2 f2
  replace f3 := dcarry_frozen bN z3 f3
  replace f4 := dcarry_frozen bN z4 f4
  replace f5 := dcarry_frozen bN z5 f5
  replace c0 := dcarry_cell bN c0
  replace c1 := dcarry_cell bN c1
  replace c2 := dcarry_cell bN c2
  replace c3 := dcarry_cell bN c3
  replace c4 := dcarry_cell bN c4
  replace c5 := dcarry_cell bN c5
  replace z0 := dcarry_cell bN z0
  replace z1 := dcarry_cell bN z1
  replace z2 := dcarry_cell bN z2
  replace z3 := dcarry_cell bN z3
  replace z4 := dcarry_cell bN z4
  replace z5 := dcarry_cell bN z5
  replace l0 := dcarry_cell bN l0
  replace l1 := dcarry_cell bN l1
  replace l2 := dcarry_cell bN l2
  replace hI := IsW.keep hI bN
  replace hJ := IsW.keep hJ bN
  replace hT0 := hT0.kept bN
  replace bA := nbelow_trans bA bN
  clear bN
  by_cases jk : eh ≠ 0
  · skip
    have e1 : EE = eh := by rw [HB.out, if_neg (by decide)]
    have KK : Hid (EE = eh ∧ LL = (false, 0, 0) ∧ HH = (false, 0, 0)) := ⟨e1, by rw [HAL.out, e1, if_neg jk], by rw [HAH.out, e1, if_neg jk]⟩
    have d1 : (eh != 0) = true := by simp [jk]
    clear HB HAL HAH e1
    have bB := below_one w4 (.cells #[.bool PH.1, .slice ah nh ch, .int .i64 PH.2.2] 26)
    obtain ⟨k0, k1, k2⟩ := bx3 w4 (.bool PH.1) (.slice ah nh ch) (.int .i64 PH.2.2) 26
    replace hl0 := hl0.keep bB
    replace hh0 := hh0.keep bB
    replace f0 := dcarry_frozen bB z0 f0
    replace f1 := dcarry_frozen bB z1 f1
    replace f2 := dcarry_frozen bB z2 f2
    replace f3 := dcarry_frozen bB z3 f3
    replace f4 := dcarry_frozen bB z4 f4
    replace f5 := dcarry_frozen bB z5 f5
    replace c0 := dcarry_cell bB c0
    replace c1 := dcarry_cell bB c1
    replace c2 := dcarry_cell bB c2
    replace c3 := dcarry_cell bB c3
    replace c4 := dcarry_cell bB c4
    replace c5 := dcarry_cell bB c5
    replace z0 := dcarry_cell bB z0
    replace z1 := dcarry_cell bB z1
    replace z2 := dcarry_cell bB z2
    replace z3 := dcarry_cell bB z3
    replace z4 := dcarry_cell bB z4
    replace z5 := dcarry_cell bB z5
    replace l0 := dcarry_cell bB l0
    replace l1 := dcarry_cell bB l1
    replace l2 := dcarry_cell bB l2
    replace hI := IsW.keep hI bB
    replace hJ := IsW.keep hJ bB
    replace hT0 := hT0.kept bB
    replace bA := nbelow_trans bA bB
    clear bB
    go_wp2_with fail
    exact bodyPost_ret (v := .tuple #[zIvI, .int .i64 eh]) (by simp [results, Tryz.results107, go_sem, zIvI, z0, z1, z2, z3, z4, z5]) rfl (nil_ow (KK.out) (by repeat (first | (with_reducible exact bA) | (with_reducible refine Below.setCell ?_ (by simp) _))))
  replace jk : eh = 0 := Decidable.of_not_not jk
  subst jk
  have bB := below_one w4 (.cells #[.bool PH.1, .slice ah nh ch, .int .i64 PH.2.2] 26)
  obtain ⟨k0, k1, k2⟩ := bx3 w4 (.bool PH.1) (.slice ah nh ch) (.int .i64 PH.2.2) 26
  replace hl0 := hl0.keep bB
  replace hh0 := hh0.keep bB
  replace f0 := dcarry_frozen bB z0 f0
  replace f1 := dcarry_frozen bB z1 f1
  replace f2 := dcarry_frozen bB z2 f2
  replace f3 := dcarry_frozen bB z3 f3
  replace f4 := dcarry_frozen bB z4 f4
  replace f5 := dcarry_frozen bB z5 f5
  replace c0 := dcarry_cell bB c0
  replace c1 := dcarry_cell bB c1
  replace c2 := dcarry_cell bB c2
  replace c3 := dcarry_cell bB c3
  replace c4 := dcarry_cell bB c4
  replace c5 := dcarry_cell bB c5
  replace z0 := dcarry_cell bB z0
  replace z1 := dcarry_cell bB z1
  replace z2 := dcarry_cell bB z2
  replace z3 := dcarry_cell bB z3
  replace z4 := dcarry_cell bB z4
  replace z5 := dcarry_cell bB z5
  replace l0 := dcarry_cell bB l0
  replace l1 := dcarry_cell bB l1
  replace l2 := dcarry_cell bB l2
  replace hI := IsW.keep hI bB
  replace hJ := IsW.keep hJ bB
  replace hT0 := hT0.kept bB
  replace bA := nbelow_trans bA bB
  clear bB
  go_wp2_with fail
  generalize (w4.alloc (.cells #[.bool PH.1, .slice ah nh ch, .int .i64 PH.2.2] 26)) = w5 at *
  have e1 : EE = 0 := by rw [HB.out, if_neg (by decide)]
  have KK : Hid (EE = 0 ∧ LL = PL ∧ HH = PH) := ⟨e1, by rw [HAL.out, if_pos e1], by rw [HAH.out, if_pos e1]⟩
  clear HB HAL HAH e1
  have s6 := six_ofI z0 z1 z2 z3 z4 z5 (fun _ q => by cases q) (fun _ q => by cases q) (fun _ q => by cases q) (fun _ q => by cases q) (fun _ q => by cases q) (fun _ q => by cases q)
  exact bodyPost_ret (v := .tuple #[ivI PL.1 al nl cl PL.2.2 PH.1 ah nh ch PH.2.2, .int .i64 0]) (by simp [results, Tryz.results107, go_sem, z0, z1, z2, z3, z4, z5]) rfl ⟨al, nl, cl, ah, nh, ch, by rw [KK.out.1, KK.out.2.1, KK.out.2.2], hll, hlh, by rw [KK.out.2.1]; exact ownW_sixI hl0 s6 _ _ _ _ _ _, by rw [KK.out.2.2]; exact ownW_sixI hh0 s6 _ _ _ _ _ _, by repeat (first | (with_reducible exact bA) | (with_reducible refine Below.setCell ?_ (by simp) _))⟩

end Go.Proofs.YtkkldnnndlpblaaGreatDoor

namespace Go.Proofs.YtkkldnnndlpblaaGreatDoor
open Go.RowKit

set_option maxRecDepth 100000 in
set_option maxHeartbeats 2000000 in
theorem icanon_calls (s : Bool) (a : Option Addr) (len cap : Nat) (xs : List Int) (e : Int) (s' : Bool) (a' : Option Addr) (len' cap' : Nat) (ys : List Int) (e' : Int) (w : World) (h : IsW w a len cap xs) (hm : len ≤ 17592186044000) (h' : IsW w a' len' cap' ys) (hm' : len' ≤ 17592186044000) (hT : Tab w) :
    Calls Tryz.prog 69 #[ivI s a len cap e s' a' len' cap' e'] w fun r w' => ∃ al nl cl ah nh ch, r = .returned (.tuple #[ivI (cnL s (val xs) e s' (val ys) e').1 al nl cl (cnL s (val xs) e s' (val ys) e').2.2 (cnH s (val xs) e s' (val ys) e').1 ah nh ch (cnH s (val xs) e s' (val ys) e').2.2, .int .i64 (cnE s (val xs) e s' (val ys) e')]) ∧ nl ≤ 1024 ∧ nh ≤ 1024 ∧ OwnW w.heap.size w' al nl cl (wordsOf (cnL s (val xs) e s' (val ys) e').2.1) ∧ OwnW w.heap.size w' ah nh ch (wordsOf (cnH s (val xs) e s' (val ys) e').2.1) ∧ Below w.heap.size w w' := by
  have bA : Below w.heap.size w ((w.alloc (.cells #[.bool s, .slice a len cap, .int .i64 e, .bool s', .slice a' len' cap', .int .i64 e'] 28)).alloc (.cells #[.bool false, .slice none 0 0, .int .i64 0, .bool false, .slice none 0 0, .int .i64 0] 28)) := nbelow_trans (below_one _ _) (below_one _ _)
  have HC : Hid _ := eachCanon_calls s a len cap xs e s' a' len' cap' ys e' _ (h.keep bA) hm (h'.keep bA) hm' (hT.kept bA)
  generalize cnE s (val xs) e s' (val ys) e' = EE at *
  generalize cnL s (val xs) e s' (val ys) e' = LL at *
  generalize cnH s (val xs) e s' (val ys) e' = HH at *
  have z0 : ((w.alloc (.cells #[.bool s, .slice a len cap, .int .i64 e, .bool s', .slice a' len' cap', .int .i64 e'] 28)).alloc (.cells #[.bool false, .slice none 0 0, .int .i64 0, .bool false, .slice none 0 0, .int .i64 0] 28)).cell? ⟨w.heap.size + 1, 0, none⟩ = some (.bool false) := by go_simp
  have f0 : ((w.alloc (.cells #[.bool s, .slice a len cap, .int .i64 e, .bool s', .slice a' len' cap', .int .i64 e'] 28)).alloc (.cells #[.bool false, .slice none 0 0, .int .i64 0, .bool false, .slice none 0 0, .int .i64 0] 28)).frozen? ⟨w.heap.size + 1, 0, none⟩ = false := by go_simp
  have z1 : ((w.alloc (.cells #[.bool s, .slice a len cap, .int .i64 e, .bool s', .slice a' len' cap', .int .i64 e'] 28)).alloc (.cells #[.bool false, .slice none 0 0, .int .i64 0, .bool false, .slice none 0 0, .int .i64 0] 28)).cell? ⟨w.heap.size + 1, 1, none⟩ = some (.slice none 0 0) := by go_simp
  have f1 : ((w.alloc (.cells #[.bool s, .slice a len cap, .int .i64 e, .bool s', .slice a' len' cap', .int .i64 e'] 28)).alloc (.cells #[.bool false, .slice none 0 0, .int .i64 0, .bool false, .slice none 0 0, .int .i64 0] 28)).frozen? ⟨w.heap.size + 1, 1, none⟩ = false := by go_simp
  have z2 : ((w.alloc (.cells #[.bool s, .slice a len cap, .int .i64 e, .bool s', .slice a' len' cap', .int .i64 e'] 28)).alloc (.cells #[.bool false, .slice none 0 0, .int .i64 0, .bool false, .slice none 0 0, .int .i64 0] 28)).cell? ⟨w.heap.size + 1, 2, none⟩ = some (.int .i64 0) := by go_simp
  have f2 : ((w.alloc (.cells #[.bool s, .slice a len cap, .int .i64 e, .bool s', .slice a' len' cap', .int .i64 e'] 28)).alloc (.cells #[.bool false, .slice none 0 0, .int .i64 0, .bool false, .slice none 0 0, .int .i64 0] 28)).frozen? ⟨w.heap.size + 1, 2, none⟩ = false := by go_simp
  have z3 : ((w.alloc (.cells #[.bool s, .slice a len cap, .int .i64 e, .bool s', .slice a' len' cap', .int .i64 e'] 28)).alloc (.cells #[.bool false, .slice none 0 0, .int .i64 0, .bool false, .slice none 0 0, .int .i64 0] 28)).cell? ⟨w.heap.size + 1, 3, none⟩ = some (.bool false) := by go_simp
  have f3 : ((w.alloc (.cells #[.bool s, .slice a len cap, .int .i64 e, .bool s', .slice a' len' cap', .int .i64 e'] 28)).alloc (.cells #[.bool false, .slice none 0 0, .int .i64 0, .bool false, .slice none 0 0, .int .i64 0] 28)).frozen? ⟨w.heap.size + 1, 3, none⟩ = false := by go_simp
  have z4 : ((w.alloc (.cells #[.bool s, .slice a len cap, .int .i64 e, .bool s', .slice a' len' cap', .int .i64 e'] 28)).alloc (.cells #[.bool false, .slice none 0 0, .int .i64 0, .bool false, .slice none 0 0, .int .i64 0] 28)).cell? ⟨w.heap.size + 1, 4, none⟩ = some (.slice none 0 0) := by go_simp
  have f4 : ((w.alloc (.cells #[.bool s, .slice a len cap, .int .i64 e, .bool s', .slice a' len' cap', .int .i64 e'] 28)).alloc (.cells #[.bool false, .slice none 0 0, .int .i64 0, .bool false, .slice none 0 0, .int .i64 0] 28)).frozen? ⟨w.heap.size + 1, 4, none⟩ = false := by go_simp
  have z5 : ((w.alloc (.cells #[.bool s, .slice a len cap, .int .i64 e, .bool s', .slice a' len' cap', .int .i64 e'] 28)).alloc (.cells #[.bool false, .slice none 0 0, .int .i64 0, .bool false, .slice none 0 0, .int .i64 0] 28)).cell? ⟨w.heap.size + 1, 5, none⟩ = some (.int .i64 0) := by go_simp
  have f5 : ((w.alloc (.cells #[.bool s, .slice a len cap, .int .i64 e, .bool s', .slice a' len' cap', .int .i64 e'] 28)).alloc (.cells #[.bool false, .slice none 0 0, .int .i64 0, .bool false, .slice none 0 0, .int .i64 0] 28)).frozen? ⟨w.heap.size + 1, 5, none⟩ = false := by go_simp
  clear h hm hT h' hm'
  go_enter Tryz.func69, Tryz.ntmps69
  go_wp2_with fail
  generalize ((w.alloc (.cells #[.bool s, .slice a len cap, .int .i64 e, .bool s', .slice a' len' cap', .int .i64 e'] 28)).alloc (.cells #[.bool false, .slice none 0 0, .int .i64 0, .bool false, .slice none 0 0, .int .i64 0] 28)) = w0 at *
  refine Calls.mono HC.out ?_
  rintro r w1 ⟨al, nl, cl, ah, nh, ch, rfl, i1, i2, O1, O2, bN⟩
  replace O1 := O1.low bA.size
  replace O2 := O2.low bA.size
  replace f0 := dcarry_frozen bN z0 f0
  replace z0 := dcarry_cell bN z0
  replace f1 := dcarry_frozen bN z1 f1
  replace z1 := dcarry_cell bN z1
  replace f2 := dcarry_frozen bN z2 f2
  replace z2 := dcarry_cell bN z2
  replace f3 := dcarry_frozen bN z3 f3
  replace z3 := dcarry_cell bN z3
  replace f4 := dcarry_frozen bN z4 f4
  replace z4 := dcarry_cell bN z4
  replace f5 := dcarry_frozen bN z5 f5
  replace z5 := dcarry_cell bN z5
  replace bA := nbelow_trans bA bN
  clear bN HC
  have j1 : Hid _ := i1
  have j2 : Hid _ := i2
  clear i1 i2
  go_wp2_with fail
  have s6 := six_ofI z0 z1 z2 z3 z4 z5 (fun _ q => by cases q) (fun _ q => by cases q) (fun _ q => by cases q) (fun _ q => by cases q) (fun _ q => by cases q) (fun _ q => by cases q)
  exact bodyPost_ret (v := .tuple #[ivI LL.1 al nl cl LL.2.2 HH.1 ah nh ch HH.2.2, .int .i64 EE]) (by simp [results, Tryz.results69, go_sem, z0, z1, z2, z3, z4, z5]) rfl ⟨al, nl, cl, ah, nh, ch, rfl, j1.out, j2.out, ownW_sixI O1 s6 _ _ _ _ _ _, ownW_sixI O2 s6 _ _ _ _ _ _, by repeat (first | (with_reducible exact bA) | (with_reducible refine Below.setCell ?_ (by simp) _))⟩

end Go.Proofs.YtkkldnnndlpblaaGreatDoor
