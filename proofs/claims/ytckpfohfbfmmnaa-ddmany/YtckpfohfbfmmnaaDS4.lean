/- The first question of dd's statements. -/
import Derived.Test.YtckpfohfbfmmnaaDS3
import Derived.Test.YtckpfohfbfmmnaaELives
import Derived.Deep.RegionWith
namespace Go.Proofs.Ytckpfohfbfmmnaa
open Go.RowKit EP
attribute [local go_sem] ran_store

set_option maxRecDepth 100000 in
set_option maxHeartbeats 1000000 in
theorem rSame_yes (xh xl yh yl : Nat) (w : World) (h1 : Ieee.double.order xh yh = some .eq) (h2 : Ieee.double.order xl yl = some .eq) :
    Calls Try.prog 32 #[.agg #[.float .f64 xh, .float .f64 xl], .agg #[.float .f64 yh, .float .f64 yl]] w fun e w' => e = .returned (.bool true) ∧ Below w.heap.size w w' := by
  refine (rSame_calls xh xl yh yl w).mono ?_
  rintro e w' ⟨b, rfl, hb, H⟩
  rw [H h1 h2]
  exact ⟨rfl, hb⟩
theorem dlive1 : sumP 4607182418800017408 0 4246894448610377728 0 = some (4607182418800017408, 4246894448610377728) := by decide +kernel
theorem dlive2 : foldS [5057542381537067008, 4607182418800017408, 14280914418391842816] 0 0 = some (4607182418800017408, 0) := by decide +kernel
theorem dlive3 : checkE [5057542381537067008, 4607182418800017408, 14280914418391842816] [] = 0 := by decide +kernel
theorem dlive4 : (rightP 4246894448610377728 0 && rightP 4607182418800017408 0) = true := by decide +kernel
theorem dlive5 : rightP 5962765906638536704 0 = false := by decide +kernel
theorem dlive6 : rightP 4607182418800017408 4607182418800017408 = false := by decide +kernel
theorem dlive7 : smallFs [5057542381537067008, 4607182418800017408, 14280914418391842816] := by
  intro i
  match i with
  | 0 => decide
  | 1 => decide
  | 2 => decide
  | i + 3 => simp

theorem dlive8 : Op.negFloat .f64 5057542381537067008 = 14280914418391842816 := by decide +kernel
theorem begins_add (w : World) : Calls Try.prog 48 #[.agg #[.float .f64 4607182418800017408, .float .f64 0], .agg #[.float .f64 4246894448610377728, .float .f64 0]] w fun e w' => e = .returned (.tuple #[.agg #[.float .f64 4607182418800017408, .float .f64 4246894448610377728], .int .i64 0]) ∧ Below w.heap.size w w' := by
  refine (dAdd_calls 4607182418800017408 0 4246894448610377728 0 w (by decide) (by decide)).mono ?_
  rintro e w' ⟨s, t, rfl, hb, H1, -⟩
  obtain ⟨rfl, rfl⟩ := H1 dlive4 _ dlive1
  rw [dlive4]
  exact ⟨rfl, hb⟩
theorem begins_sum (a : Option Addr) (w : World) (h : IsF w a 3 3 [5057542381537067008, 4607182418800017408, 14280914418391842816]) : Calls Try.prog 41 #[.slice a 3 3] w fun e w' => e = .returned (.tuple #[.agg #[.float .f64 4607182418800017408, .float .f64 0], .int .i64 0]) ∧ Below w.heap.size w w' := by
  refine (dSum_calls a 3 3 _ w h (by decide) dlive7).mono ?_
  rw [dlive3]
  rintro e w' ⟨s, t, rfl, hb, H1, -⟩
  obtain ⟨rfl, rfl⟩ := H1 rfl _ dlive2
  exact ⟨rfl, hb⟩
theorem begins_right (w : World) : Calls Try.prog 57 #[.agg #[.float .f64 4607182418800017408, .float .f64 4607182418800017408]] w fun e w' => e = .returned (.bool false) ∧ Below w.heap.size w w' := by
  refine (dRight_calls 4607182418800017408 4607182418800017408 w (by decide)).mono ?_
  rw [dlive6]
  exact fun e w' h => h

theorem isF_three' (w : World) (B x y z : Nat) (t : TypeId) (hB : w.heap.size = B) : IsF (w.alloc (.cells #[.float .f64 x, .float .f64 y, .float .f64 z] t)) (some ⟨B, 0, none⟩) 3 3 [x, y, z] := hB ▸ isF_three w x y z t

set_option maxRecDepth 100000 in
set_option maxHeartbeats 4000000 in
theorem dBegins_calls (w : World) :
    Calls Try.prog 33 #[] w fun e w' => e = .returned (.bool true) ∧ Below w.heap.size w w' := by
  have r5 := ran_neg Try.prog
  have n8 := dlive8
  go_enter Try.func33, Try.ntmps33
  go_wp2_with fail
  refine Calls.mono (power_m80 _) ?_
  rintro e w ⟨rfl, rfl⟩
  go_wp2_with fail
  refine Calls.mono (begins_add _) ?_
  rintro e w1 ⟨rfl, b1⟩
  go_wp2_with fail
  refine Calls.mono (power_p100 _) ?_
  rintro e w2 ⟨rfl, rfl⟩
  go_wp2_with fail
  refine Calls.mono (power_p100 _) ?_
  rintro e w2 ⟨rfl, rfl⟩
  go_wp2_with fail
  refine Calls.mono (begins_sum _ _ (isF_three' _ _ _ _ _ _ (by simp))) ?_
  rintro e w3 ⟨rfl, b3⟩
  have c0 : w3.cell? ⟨w1.heap.size, 0, none⟩ = some (.float .f64 4607182418800017408) := pcarry b3 (by go_simp)
  have c1 : w3.cell? ⟨w1.heap.size, 1, none⟩ = some (.float .f64 4246894448610377728) := pcarry b3 (by go_simp)
  have bw : Below w.heap.size w w3 := Below.trans (by repeat (first | exact Below.refl _ _ | assumption | refine below_drewN ?_ _ | refine Below.setCell ?_ (by have := b1.size; first | (simp; done) | (simp; omega) | omega) _ | refine Below.alloc ?_ (by have := b1.size; first | (simp; done) | (simp; omega) | omega) _)) (b3.mono (by have := b1.size; first | (simp; done) | (simp; omega) | omega))
  have HS : Hid (w.heap.size ≤ w3.heap.size) := bw.size
  have HS1 : Hid (w1.heap.size + 2 ≤ w3.heap.size) := by have := b3.size; rw [Hid]; simp at this; omega
  clear b1 b3
  go_wp2_with fail
  refine Calls.mono (power_p301 _) ?_
  rintro e w4 ⟨rfl, rfl⟩
  go_wp2_with fail
  refine Calls.mono (dOf_bad _ _ (by decide) dlive5) ?_
  rintro e w5 ⟨rfl, b5⟩
  have d0 : w5.cell? ⟨w1.heap.size, 0, none⟩ = some (.float .f64 4607182418800017408) := pcarry b5 (pcarry (below_alloc1 _ _) c0)
  have d1 : w5.cell? ⟨w1.heap.size, 1, none⟩ = some (.float .f64 4246894448610377728) := pcarry b5 (pcarry (below_alloc1 _ _) c1)
  have e0 : w5.cell? ⟨w3.heap.size, 0, none⟩ = some (.float .f64 4607182418800017408) := pcarry b5 (by go_simp)
  have e1 : w5.cell? ⟨w3.heap.size, 1, none⟩ = some (.float .f64 0) := pcarry b5 (by go_simp)
  have bw5 : Below w.heap.size w w5 := Below.trans (by repeat (first | exact Below.refl _ _ | assumption | refine below_drewN ?_ _ | refine Below.setCell ?_ (by have := HS.out; first | (simp; done) | (simp; omega) | omega) _ | refine Below.alloc ?_ (by have := HS.out; first | (simp; done) | (simp; omega) | omega) _)) (b5.mono (by have := HS.out; first | (simp; done) | (simp; omega) | omega))
  clear b5 bw c0 c1 HS1 HS
  have HS : Hid (w.heap.size ≤ w5.heap.size) := bw5.size
  go_wp2_with fail
  have bw : Below w.heap.size w (w5.alloc (.cells #[.float .f64 0, .float .f64 0] 39)) := Below.alloc bw5 HS.out _
  have f0 : (w5.alloc (.cells #[.float .f64 0, .float .f64 0] 39)).cell? ⟨w1.heap.size, 0, none⟩ = some (.float .f64 4607182418800017408) := pcarry (below_alloc1 _ _) d0
  have f1 : (w5.alloc (.cells #[.float .f64 0, .float .f64 0] 39)).cell? ⟨w1.heap.size, 1, none⟩ = some (.float .f64 4246894448610377728) := pcarry (below_alloc1 _ _) d1
  have g0 : (w5.alloc (.cells #[.float .f64 0, .float .f64 0] 39)).cell? ⟨w3.heap.size, 0, none⟩ = some (.float .f64 4607182418800017408) := pcarry (below_alloc1 _ _) e0
  have g1 : (w5.alloc (.cells #[.float .f64 0, .float .f64 0] 39)).cell? ⟨w3.heap.size, 1, none⟩ = some (.float .f64 0) := pcarry (below_alloc1 _ _) e1
  generalize w5.alloc (.cells #[.float .f64 0, .float .f64 0] 39) = w6 at *
  clear d0 d1 e0 e1 HS bw5
  go_region_with (first
    | (go_at_call 55; refine (power_m80 _).mono ?_; rintro e w9 ⟨rfl, rfl⟩)
    | (go_at_call 32; refine (rSame_yes _ _ _ _ _ (by decide +kernel) (by decide +kernel)).mono ?_; rintro e w9 ⟨rfl, b9⟩; replace f0 := pcarry b9 (v := .float .f64 4607182418800017408) (p := ⟨w1.heap.size, 0, none⟩) (by go_simp); replace f1 := pcarry b9 (v := .float .f64 4246894448610377728) (p := ⟨w1.heap.size, 1, none⟩) (by go_simp); replace g0 := pcarry b9 (v := .float .f64 4607182418800017408) (p := ⟨w3.heap.size, 0, none⟩) (by go_simp); replace g1 := pcarry b9 (v := .float .f64 0) (p := ⟨w3.heap.size, 1, none⟩) (by go_simp); replace bw := ebelow_trans (show Below w.heap.size w _ from by repeat (first | exact bw | refine Below.drew ?_ | refine below_drewN ?_ _)) b9; clear b9)
    | (go_at_call 57; refine (begins_right _).mono ?_; rintro e w9 ⟨rfl, b9⟩; replace bw := ebelow_trans (show Below w.heap.size w _ from by repeat (first | exact bw | refine Below.drew ?_ | refine below_drewN ?_ _)) b9; clear b9))
  all_goals go_wp2_with fail
  all_goals go_ret
  all_goals exact ⟨rfl, by repeat (first | exact bw | refine Below.drew ?_ | refine below_drewN ?_ _)⟩
end Go.Proofs.Ytckpfohfbfmmnaa
