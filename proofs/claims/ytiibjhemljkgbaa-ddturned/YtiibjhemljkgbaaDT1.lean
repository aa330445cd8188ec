/- Pairs: less, the amount, the order. -/
import Derived.Test.YtiibjhemljkgbaaDTq
namespace Go.Proofs.Ytiibjhemljkgbaa.Fp
open Go.RowKit EP
attribute [local go_sem] ran_store

def ngF (x : Nat) : Nat := Op.negFloat .f64 x
/-- is a float below 0? -/
def loF (x : Nat) : Bool := Ieee.double.order x 0 == some .lt
def abH (h : Nat) : Nat := if loF h = true then ngF h else h
def abL (h l : Nat) : Nat := if loF h = true then ngF l else l

set_option maxRecDepth 100000 in
set_option maxHeartbeats 2000000 in
theorem right_nil (w : World) : Calls Try.prog 22 #[.slice none 0 0] w fun e w' => e = .returned (.bool true) ∧ Below w.heap.size w w' := by
  go_enter Try.func22, Try.ntmps22
  go_wp2_with fail
  go_loopw [7] (fun i wr => i = .int .i64 0 ∧ wr = w) (fun _ _ => 0)
  case atStart => exact ⟨rfl, rfl⟩
  case round =>
    obtain ⟨rfl, rfl⟩ := hrel
    go_wp2_with fail
    go_ret
    exact ⟨rfl, Below.refl _ _⟩

set_option maxRecDepth 100000 in
set_option maxHeartbeats 2000000 in
theorem right_two (b h l h' l' : Nat) (w : World) (hh : h < 18446744073709551616) (hh' : h' < 18446744073709551616) (c0 : w.cell? ⟨b, 0, none⟩ = some (.float .f64 h)) (c1 : w.cell? ⟨b, 1, none⟩ = some (.float .f64 l)) (c2 : w.cell? ⟨b, 2, none⟩ = some (.float .f64 h')) (c3 : w.cell? ⟨b, 3, none⟩ = some (.float .f64 l')) :
    Calls Try.prog 22 #[.slice (some ⟨b, 0, none⟩) 2 2] w fun e w' => e = .returned (.bool (rightP h l && rightP h' l')) ∧ Below w.heap.size w w' := by
  have HA : Hid _ := fun w => dRight_calls h l w hh
  have HB : Hid _ := fun w => dRight_calls h' l' w hh'
  have H2 : Hid (w.cell? ⟨b, 2, none⟩ = some (.float .f64 h')) := c2
  have H3 : Hid (w.cell? ⟨b, 3, none⟩ = some (.float .f64 l')) := c3
  clear hh hh' c2 c3
  go_enter Try.func22, Try.ntmps22
  go_wp2_with fail
  go_loopw [7] (fun i wr => (i = .int .i64 0 ∧ wr = w) ∨ (i = .int .i64 1 ∧ rightP h l = true ∧ Below w.heap.size w wr) ∨ (i = .int .i64 2 ∧ rightP h l = true ∧ rightP h' l' = true ∧ Below w.heap.size w wr)) (fun i _ => 2 - (intOf i).toNat)
  case atStart => exact .inl ⟨rfl, rfl⟩
  case round =>
    rcases hrel with ⟨rfl, rfl⟩ | ⟨rfl, hr, hb⟩ | ⟨rfl, hr, hr', hb⟩
    · go_wp2_with fail
      refine Calls.mono (HA.out _) ?_
      rintro e w1 ⟨rfl, b1⟩
      have b2 : Below wr.heap.size wr w1 := ebelow_trans (below_alloc1' _ _) b1
      cases hq : rightP h l with
      | false =>
        go_wp2_with fail
        go_ret
        rw [hq]
        exact ⟨rfl, b2⟩
      | true =>
        go_wp2_with fail
        go_round
        case rel => exact .inr (.inl ⟨rfl, hq, b2⟩)
        case measure => simp [intOf]
    · have d2 := pcarry hb H2.out
      have d3 := pcarry hb H3.out
      have HR : Hid (rightP h l = true) := hr
      have HBW : Hid (Below w.heap.size w wr) := hb
      clear hr hb c0 c1
      go_wp2_with fail
      refine Calls.mono (HB.out _) ?_
      rintro e w1 ⟨rfl, b1⟩
      have b2 : Below w.heap.size w w1 := ebelow_trans (ebelow_trans HBW.out (below_alloc1' _ _)) b1
      clear HBW b1
      cases hq : rightP h' l' with
      | false =>
        go_wp2_with fail
        go_ret
        rw [hq, Bool.and_false]
        exact ⟨rfl, b2⟩
      | true =>
        go_wp2_with fail
        go_round
        case rel => exact .inr (.inr ⟨rfl, HR.out, hq, b2⟩)
        case measure => simp [intOf]
    · have HR : Hid (rightP h l = true) := hr
      have HR' : Hid (rightP h' l' = true) := hr'
      clear hr hr'
      go_wp2_with fail
      go_ret
      rw [HR.out, HR'.out]
      exact ⟨rfl, hb⟩

set_option maxRecDepth 100000 in
set_option maxHeartbeats 2000000 in
theorem done_neg_bad (h l : Nat) (w : World) (hh : h < 18446744073709551616) (hr : rightP h l = false) :
    Calls Try.prog 17 #[.func (.func 20) #[] #[], .agg #[.float .f64 h, .float .f64 l], .slice none 0 0] w fun e w' => e = .returned (.tuple #[.agg #[.float .f64 0, .float .f64 0], .int .i64 2]) ∧ Below w.heap.size w w' := by
  have HA : Hid _ := fun w => dRight_calls h l w hh
  rw [hr] at HA
  have HR : Hid _ := right_nil
  have HS : Hid _ := fun w => less_calls h l w
  clear hh hr
  have bw : Below w.heap.size w ((w.alloc (.cells #[.float .f64 h, .float .f64 l] 24)).alloc (.cells #[.float .f64 0, .float .f64 0] 24)) := ebelow_trans (below_alloc1' _ _) (below_alloc1' _ _)
  have p0 : ((w.alloc (.cells #[.float .f64 h, .float .f64 l] 24)).alloc (.cells #[.float .f64 0, .float .f64 0] 24)).cell? ⟨w.heap.size, 0, none⟩ = some (.float .f64 h) := by go_simp
  have p1 : ((w.alloc (.cells #[.float .f64 h, .float .f64 l] 24)).alloc (.cells #[.float .f64 0, .float .f64 0] 24)).cell? ⟨w.heap.size, 1, none⟩ = some (.float .f64 l) := by go_simp
  have z0 : ((w.alloc (.cells #[.float .f64 h, .float .f64 l] 24)).alloc (.cells #[.float .f64 0, .float .f64 0] 24)).cell? ⟨w.heap.size + 1, 0, none⟩ = some (.float .f64 0) := by go_simp
  have zf0 : ((w.alloc (.cells #[.float .f64 h, .float .f64 l] 24)).alloc (.cells #[.float .f64 0, .float .f64 0] 24)).frozen? ⟨w.heap.size + 1, 0, none⟩ = false := by go_simp
  have z1 : ((w.alloc (.cells #[.float .f64 h, .float .f64 l] 24)).alloc (.cells #[.float .f64 0, .float .f64 0] 24)).cell? ⟨w.heap.size + 1, 1, none⟩ = some (.float .f64 0) := by go_simp
  have zf1 : ((w.alloc (.cells #[.float .f64 h, .float .f64 l] 24)).alloc (.cells #[.float .f64 0, .float .f64 0] 24)).frozen? ⟨w.heap.size + 1, 1, none⟩ = false := by go_simp
  have hs : Hid (w.heap.size + 2 ≤ ((w.alloc (.cells #[.float .f64 h, .float .f64 l] 24)).alloc (.cells #[.float .f64 0, .float .f64 0] 24)).heap.size) := by show w.heap.size + 2 ≤ _; simp
  go_enter Try.func17, Try.ntmps17
  go_wp2_with fail
  generalize ((w.alloc (.cells #[.float .f64 h, .float .f64 l] 24)).alloc (.cells #[.float .f64 0, .float .f64 0] 24)) = w0 at *
  refine Calls.mono (HA.out _) ?_
  rintro e w1 ⟨rfl, bN⟩
  replace zf0 := pcarryF bN z0 zf0
  replace zf1 := pcarryF bN z1 zf1
  replace p0 := pcarry bN p0
  replace p1 := pcarry bN p1
  replace z0 := pcarry bN z0
  replace z1 := pcarry bN z1
  replace bw := ebelow_trans bw bN
  clear bN
  go_wp2_with fail
  exact bodyPost_ret (v := .tuple #[.agg #[.float .f64 0, .float .f64 0], .int .i64 2]) (by simp [results, Try.results17, go_sem, z0, z1]) rfl ⟨rfl, by repeat (first | exact bw | exact Below.refl _ _ | refine Below.drew ?_ | refine below_drewN ?_ _ | refine Below.setCell ?_ (by first | (simp; done) | (simp; omega) | omega) _ | refine Below.alloc ?_ (by first | (simp; done) | (simp; omega) | omega) _)⟩

set_option maxRecDepth 100000 in
set_option maxHeartbeats 2000000 in
theorem dneg_bad (h l : Nat) (w : World) (hh : h < 18446744073709551616) (hr : rightP h l = false) :
    Calls Try.prog 8 #[.agg #[.float .f64 h, .float .f64 l]] w fun e w' => e = .returned (.tuple #[.agg #[.float .f64 0, .float .f64 0], .int .i64 2]) ∧ Below w.heap.size w w' := by
  have HD : Hid _ := fun w => done_neg_bad h l w hh hr
  clear hh hr
  have bw : Below w.heap.size w ((w.alloc (.cells #[.float .f64 h, .float .f64 l] 24)).alloc (.cells #[.float .f64 0, .float .f64 0] 24)) := ebelow_trans (below_alloc1' _ _) (below_alloc1' _ _)
  have z0 : ((w.alloc (.cells #[.float .f64 h, .float .f64 l] 24)).alloc (.cells #[.float .f64 0, .float .f64 0] 24)).cell? ⟨w.heap.size + 1, 0, none⟩ = some (.float .f64 0) := by go_simp
  have zf0 : ((w.alloc (.cells #[.float .f64 h, .float .f64 l] 24)).alloc (.cells #[.float .f64 0, .float .f64 0] 24)).frozen? ⟨w.heap.size + 1, 0, none⟩ = false := by go_simp
  have z1 : ((w.alloc (.cells #[.float .f64 h, .float .f64 l] 24)).alloc (.cells #[.float .f64 0, .float .f64 0] 24)).cell? ⟨w.heap.size + 1, 1, none⟩ = some (.float .f64 0) := by go_simp
  have zf1 : ((w.alloc (.cells #[.float .f64 h, .float .f64 l] 24)).alloc (.cells #[.float .f64 0, .float .f64 0] 24)).frozen? ⟨w.heap.size + 1, 1, none⟩ = false := by go_simp
  go_enter Try.func8, Try.ntmps8
  go_wp2_with fail
  generalize ((w.alloc (.cells #[.float .f64 h, .float .f64 l] 24)).alloc (.cells #[.float .f64 0, .float .f64 0] 24)) = w0 at *
  refine Calls.mono (HD.out _) ?_
  rintro e w1 ⟨rfl, bN⟩
  replace zf0 := pcarryF bN z0 zf0
  replace zf1 := pcarryF bN z1 zf1
  replace z0 := pcarry bN z0
  replace z1 := pcarry bN z1
  replace bw := ebelow_trans bw bN
  clear bN
  go_wp2_with fail
  exact bodyPost_ret (v := .tuple #[.agg #[.float .f64 0, .float .f64 0], .int .i64 2]) (by simp [results, Try.results8, go_sem, z0, z1]) rfl ⟨rfl, by repeat (first | exact bw | exact Below.refl _ _ | refine Below.drew ?_ | refine below_drewN ?_ _ | refine Below.setCell ?_ (by first | (simp; done) | (simp; omega) | omega) _ | refine Below.alloc ?_ (by first | (simp; done) | (simp; omega) | omega) _)⟩

set_option maxRecDepth 100000 in
set_option maxHeartbeats 2000000 in
theorem done_neg_good (h l : Nat) (w : World) (hh : h < 18446744073709551616) (hr : rightP h l = true) :
    Calls Try.prog 17 #[.func (.func 20) #[] #[], .agg #[.float .f64 h, .float .f64 l], .slice none 0 0] w fun e w' => e = .returned (.tuple #[.agg #[.float .f64 (ngF h), .float .f64 (ngF l)], .int .i64 0]) ∧ Below w.heap.size w w' := by
  have HA : Hid _ := fun w => dRight_calls h l w hh
  rw [hr] at HA
  have HR : Hid _ := right_nil
  have HS : Hid _ := fun w => less_calls h l w
  clear hh hr
  have bw : Below w.heap.size w ((w.alloc (.cells #[.float .f64 h, .float .f64 l] 24)).alloc (.cells #[.float .f64 0, .float .f64 0] 24)) := ebelow_trans (below_alloc1' _ _) (below_alloc1' _ _)
  have p0 : ((w.alloc (.cells #[.float .f64 h, .float .f64 l] 24)).alloc (.cells #[.float .f64 0, .float .f64 0] 24)).cell? ⟨w.heap.size, 0, none⟩ = some (.float .f64 h) := by go_simp
  have p1 : ((w.alloc (.cells #[.float .f64 h, .float .f64 l] 24)).alloc (.cells #[.float .f64 0, .float .f64 0] 24)).cell? ⟨w.heap.size, 1, none⟩ = some (.float .f64 l) := by go_simp
  have z0 : ((w.alloc (.cells #[.float .f64 h, .float .f64 l] 24)).alloc (.cells #[.float .f64 0, .float .f64 0] 24)).cell? ⟨w.heap.size + 1, 0, none⟩ = some (.float .f64 0) := by go_simp
  have zf0 : ((w.alloc (.cells #[.float .f64 h, .float .f64 l] 24)).alloc (.cells #[.float .f64 0, .float .f64 0] 24)).frozen? ⟨w.heap.size + 1, 0, none⟩ = false := by go_simp
  have z1 : ((w.alloc (.cells #[.float .f64 h, .float .f64 l] 24)).alloc (.cells #[.float .f64 0, .float .f64 0] 24)).cell? ⟨w.heap.size + 1, 1, none⟩ = some (.float .f64 0) := by go_simp
  have zf1 : ((w.alloc (.cells #[.float .f64 h, .float .f64 l] 24)).alloc (.cells #[.float .f64 0, .float .f64 0] 24)).frozen? ⟨w.heap.size + 1, 1, none⟩ = false := by go_simp
  have hs : Hid (w.heap.size + 2 ≤ ((w.alloc (.cells #[.float .f64 h, .float .f64 l] 24)).alloc (.cells #[.float .f64 0, .float .f64 0] 24)).heap.size) := by show w.heap.size + 2 ≤ _; simp
  go_enter Try.func17, Try.ntmps17
  go_wp2_with fail
  generalize ((w.alloc (.cells #[.float .f64 h, .float .f64 l] 24)).alloc (.cells #[.float .f64 0, .float .f64 0] 24)) = w0 at *
  refine Calls.mono (HA.out _) ?_
  rintro e w1 ⟨rfl, bN⟩
  replace zf0 := pcarryF bN z0 zf0
  replace zf1 := pcarryF bN z1 zf1
  replace p0 := pcarry bN p0
  replace p1 := pcarry bN p1
  replace z0 := pcarry bN z0
  replace z1 := pcarry bN z1
  replace bw := ebelow_trans bw bN
  clear bN
  go_wp2_with fail
  refine Calls.mono (HR.out _) ?_
  rintro e w2 ⟨rfl, bN⟩
  replace zf0 := pcarryF bN z0 zf0
  replace zf1 := pcarryF bN z1 zf1
  replace p0 := pcarry bN p0
  replace p1 := pcarry bN p1
  replace z0 := pcarry bN z0
  replace z1 := pcarry bN z1
  replace bw := ebelow_trans bw bN
  clear bN
  go_wp2_with fail
  refine Calls.mono (HS.out _) ?_
  rintro e w3 ⟨s, t, rfl, bN, H1⟩
  obtain ⟨rfl, rfl⟩ := H1 _ rfl
  clear H1
  replace zf0 := pcarryF bN z0 zf0
  replace zf1 := pcarryF bN z1 zf1
  replace z0 := pcarry bN z0
  replace z1 := pcarry bN z1
  replace bw := ebelow_trans bw bN
  clear bN
  go_wp2_with fail
  exact bodyPost_ret (v := .tuple #[.agg #[.float .f64 (ngF h), .float .f64 (ngF l)], .int .i64 0]) (by simp [results, Try.results17, go_sem, z0, z1, ngF]) rfl ⟨rfl, by repeat (first | exact bw | exact Below.refl _ _ | refine Below.drew ?_ | refine below_drewN ?_ _ | refine Below.setCell ?_ (by first | (simp; done) | (simp; omega) | omega) _ | refine Below.alloc ?_ (by first | (simp; done) | (simp; omega) | omega) _)⟩

set_option maxRecDepth 100000 in
set_option maxHeartbeats 2000000 in
theorem dneg_good (h l : Nat) (w : World) (hh : h < 18446744073709551616) (hr : rightP h l = true) :
    Calls Try.prog 8 #[.agg #[.float .f64 h, .float .f64 l]] w fun e w' => e = .returned (.tuple #[.agg #[.float .f64 (ngF h), .float .f64 (ngF l)], .int .i64 0]) ∧ Below w.heap.size w w' := by
  have HD : Hid _ := fun w => done_neg_good h l w hh hr
  clear hh hr
  have bw : Below w.heap.size w ((w.alloc (.cells #[.float .f64 h, .float .f64 l] 24)).alloc (.cells #[.float .f64 0, .float .f64 0] 24)) := ebelow_trans (below_alloc1' _ _) (below_alloc1' _ _)
  have z0 : ((w.alloc (.cells #[.float .f64 h, .float .f64 l] 24)).alloc (.cells #[.float .f64 0, .float .f64 0] 24)).cell? ⟨w.heap.size + 1, 0, none⟩ = some (.float .f64 0) := by go_simp
  have zf0 : ((w.alloc (.cells #[.float .f64 h, .float .f64 l] 24)).alloc (.cells #[.float .f64 0, .float .f64 0] 24)).frozen? ⟨w.heap.size + 1, 0, none⟩ = false := by go_simp
  have z1 : ((w.alloc (.cells #[.float .f64 h, .float .f64 l] 24)).alloc (.cells #[.float .f64 0, .float .f64 0] 24)).cell? ⟨w.heap.size + 1, 1, none⟩ = some (.float .f64 0) := by go_simp
  have zf1 : ((w.alloc (.cells #[.float .f64 h, .float .f64 l] 24)).alloc (.cells #[.float .f64 0, .float .f64 0] 24)).frozen? ⟨w.heap.size + 1, 1, none⟩ = false := by go_simp
  go_enter Try.func8, Try.ntmps8
  go_wp2_with fail
  generalize ((w.alloc (.cells #[.float .f64 h, .float .f64 l] 24)).alloc (.cells #[.float .f64 0, .float .f64 0] 24)) = w0 at *
  refine Calls.mono (HD.out _) ?_
  rintro e w1 ⟨rfl, bN⟩
  replace zf0 := pcarryF bN z0 zf0
  replace zf1 := pcarryF bN z1 zf1
  replace z0 := pcarry bN z0
  replace z1 := pcarry bN z1
  replace bw := ebelow_trans bw bN
  clear bN
  go_wp2_with fail
  exact bodyPost_ret (v := .tuple #[.agg #[.float .f64 (ngF h), .float .f64 (ngF l)], .int .i64 0]) (by simp [results, Try.results8, go_sem, z0, z1]) rfl ⟨rfl, by repeat (first | exact bw | exact Below.refl _ _ | refine Below.drew ?_ | refine below_drewN ?_ _ | refine Below.setCell ?_ (by first | (simp; done) | (simp; omega) | omega) _ | refine Below.alloc ?_ (by first | (simp; done) | (simp; omega) | omega) _)⟩

set_option maxRecDepth 100000 in
set_option maxHeartbeats 2000000 in
theorem rless_calls (h l : Nat) (w : World) :
    Calls Try.prog 12 #[.agg #[.float .f64 h, .float .f64 l]] w fun e w' => e = .returned (.agg #[.float .f64 (ngF h), .float .f64 (ngF l)]) ∧ Below w.heap.size w w' := by
  have r5 := ran_neg Try.prog
  go_enter Try.func12, Try.ntmps12
  go_wp2_with fail
  exact bodyPost_ret (v := .agg #[.float .f64 (ngF h), .float .f64 (ngF l)]) (by simp [results, Try.results12, go_sem, ngF]) rfl ⟨rfl, by repeat (first | exact Below.refl _ _ | refine Below.drew ?_ | refine below_drewN ?_ _ | refine Below.setCell ?_ (by first | (simp; done) | (simp; omega) | omega) _ | refine Below.alloc ?_ (by first | (simp; done) | (simp; omega) | omega) _)⟩

set_option maxRecDepth 100000 in
set_option maxHeartbeats 2000000 in
theorem isnan_fin (x : Nat) (w : World) (fx : finB x = true) :
    Calls Try.prog 34 #[.float .f64 x] w fun e w' => e = .returned (.bool false) ∧ w' = w := by
  have z1 : (FloatKind.f64.format.order x x != some .eq) = false := by rw [show FloatKind.f64.format.order x x = some .eq from order_refl x fx]; rfl
  go_enter Try.func34, Try.ntmps34
  go_wp2_with fail
  go_ret
  exact ⟨rfl, rfl⟩

set_option maxRecDepth 100000 in
set_option maxHeartbeats 2000000 in
theorem cmpf_calls (x y : Nat) (w : World) (fx : finB x = true) (fy : finB y = true) :
    Calls Try.prog 24 #[.float .f64 x, .float .f64 y] w fun e w' => e = .returned (.int .i64 (Lib.compareInt (V x) (V y))) ∧ w' = w := by
  have HX : Hid _ := fun w => isnan_fin x w fx
  have HY : Hid _ := fun w => isnan_fin y w fy
  have ho := order_fin x y fx fy
  by_cases a : V x < V y
  · have e : Lib.compareInt (V x) (V y) = -1 := by unfold Lib.compareInt; rw [if_pos a]
    have z1 : (FloatKind.f64.format.order x y == some .lt) = true := by
      rw [show FloatKind.f64.format.order x y = some (compare (V x) (V y)) from ho, show compare (V x) (V y) = .lt from by show compareOfLessAndEq (V x) (V y) = _; unfold compareOfLessAndEq; rw [if_pos a]]; rfl
    rw [e]
    clear e ho a fx fy
    go_enter Try.func24, Try.ntmps24
    go_wp2_with fail
    refine Calls.mono (HX.out _) ?_
    rintro e w1 ⟨rfl, rfl⟩
    go_wp2_with fail
    refine Calls.mono (HY.out _) ?_
    rintro e w1 ⟨rfl, rfl⟩
    go_wp2_with fail
    go_ret
    exact ⟨rfl, rfl⟩
  · by_cases b : V y < V x
    · have e : Lib.compareInt (V x) (V y) = 1 := by unfold Lib.compareInt; rw [if_neg a, if_pos b]
      have hg : FloatKind.f64.format.order x y = some .gt := by
        rw [show FloatKind.f64.format.order x y = some (compare (V x) (V y)) from ho, show compare (V x) (V y) = .gt from by show compareOfLessAndEq (V x) (V y) = _; unfold compareOfLessAndEq; rw [if_neg a, if_neg (by omega)]]
      have z1 : (FloatKind.f64.format.order x y == some .lt) = false := by rw [hg]; rfl
      have z2 : (FloatKind.f64.format.order x y == some .gt) = true := by rw [hg]; rfl
      rw [e]
      clear e ho a b fx fy hg
      go_enter Try.func24, Try.ntmps24
      go_wp2_with fail
      refine Calls.mono (HX.out _) ?_
      rintro e w1 ⟨rfl, rfl⟩
      go_wp2_with fail
      refine Calls.mono (HY.out _) ?_
      rintro e w1 ⟨rfl, rfl⟩
      go_wp2_with fail
      go_ret
      exact ⟨rfl, rfl⟩
    · have e : Lib.compareInt (V x) (V y) = 0 := by unfold Lib.compareInt; rw [if_neg a, if_neg b]
      have hg : FloatKind.f64.format.order x y = some .eq := by
        rw [show FloatKind.f64.format.order x y = some (compare (V x) (V y)) from ho, show compare (V x) (V y) = .eq from by show compareOfLessAndEq (V x) (V y) = _; unfold compareOfLessAndEq; rw [if_neg a, if_pos (by omega)]]
      have z1 : (FloatKind.f64.format.order x y == some .lt) = false := by rw [hg]; rfl
      have z2 : (FloatKind.f64.format.order x y == some .gt) = false := by rw [hg]; rfl
      rw [e]
      clear e ho a b fx fy hg
      go_enter Try.func24, Try.ntmps24
      go_wp2_with fail
      refine Calls.mono (HX.out _) ?_
      rintro e w1 ⟨rfl, rfl⟩
      go_wp2_with fail
      refine Calls.mono (HY.out _) ?_
      rintro e w1 ⟨rfl, rfl⟩
      go_wp2_with fail
      go_ret
      exact ⟨rfl, rfl⟩

set_option maxRecDepth 100000 in
set_option maxHeartbeats 2000000 in
theorem or_two (b : Nat) (c d : Int) (w : World) (c0 : w.cell? ⟨b, 0, none⟩ = some (.int .i64 c)) (c1 : w.cell? ⟨b, 1, none⟩ = some (.int .i64 d)) :
    Calls Try.prog 23 #[.slice (some ⟨b, 0, none⟩) 2 2] w fun e w' => e = .returned (.int .i64 (if c ≠ 0 then c else d)) ∧ w' = w := by
  go_enter Try.func23, Try.ntmps23
  go_wp2_with fail
  go_loopw [5, 8] (fun _ i wr => (i = .int .i64 0 ∧ wr = w) ∨ (i = .int .i64 1 ∧ c = 0 ∧ wr = w) ∨ (i = .int .i64 2 ∧ c = 0 ∧ d = 0 ∧ wr = w)) (fun _ i _ => 2 - (intOf i).toNat)
  case atStart => exact .inl ⟨rfl, rfl⟩
  case round =>
    rcases hrel with ⟨rfl, rfl⟩ | ⟨rfl, hr, rfl⟩ | ⟨rfl, hr, hr', rfl⟩
    · by_cases q : c = 0
      · subst q
        go_wp2_with fail
        go_round
        case rel => exact .inr (.inl ⟨rfl, by simp, by simp⟩)
        case measure => simp [intOf]
      · have qb : (c == 0) = false := by simp [q]
        have HQ : Hid (c ≠ 0) := q
        clear q
        go_wp2_with fail
        go_ret
        first | exact ⟨rfl, rfl⟩ | (rw [if_pos HQ.out]; exact ⟨rfl, rfl⟩)
    · subst hr
      by_cases q : d = 0
      · subst q
        go_wp2_with fail
        go_round
        case rel => exact .inr (.inr ⟨rfl, by simp, by simp, by simp⟩)
        case measure => simp [intOf]
      · have qb : (d == 0) = false := by simp [q]
        clear q
        go_wp2_with fail
        go_ret
        exact ⟨rfl, rfl⟩
    · subst hr hr'
      go_wp2_with fail
      go_ret
      exact ⟨rfl, rfl⟩
end Go.Proofs.Ytiibjhemljkgbaa.Fp
