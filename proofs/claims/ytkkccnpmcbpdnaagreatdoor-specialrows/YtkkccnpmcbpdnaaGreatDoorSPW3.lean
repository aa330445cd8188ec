/- Package special: what lines answer. -/
import Derived.Test.YtkkccnpmcbpdnaaGreatDoorSPW1
import Derived.Deep.RegionWith
import Derived.Deep.RegionHeld3
namespace Go.Proofs.YtkkccnpmcbpdnaaGreatDoor
open Go.RowKit

theorem calls_guard {P : Program} {f : FuncId} {A : Array Value} {w : World} {Q : Ending → World → Prop} (A' : Array Value) (hA : A = A') (h : Calls P f A' w Q) : Calls P f A w Q := by rw [hA]; exact h

set_option maxRecDepth 100000 in
set_option maxHeartbeats 2000000 in
theorem always_call (X Y Z : Nat) (b f k : Int) (x y : Int) (w : World) (c0 : w.cell? ⟨X, 0, none⟩ = some (.int .u64 b)) (c1 : w.cell? ⟨Y, 0, none⟩ = some (.int .u8 f)) (c2 : w.cell? ⟨Z, 0, none⟩ = some (.int .u8 k)) :
    Calls Tryz.prog 123 #[.agg #[.int .u64 x, .int .u64 y], .pointer (some ⟨X, 0, none⟩), .pointer (some ⟨Y, 0, none⟩), .pointer (some ⟨Z, 0, none⟩)] w fun r w' => r = .returned (.agg #[.int .u64 b, .int .u8 f, .int .u8 k]) ∧ Below w.heap.size w w' := by
  have hX := World.block_lt_of_cell? _ _ c0
  have hY := World.block_lt_of_cell? _ _ c1
  have hZ := World.block_lt_of_cell? _ _ c2
  go_enter Tryz.func123, Tryz.ntmps123
  go_wp2_with fail
  refine bodyPost_ret (v := .agg #[.int .u64 b, .int .u8 f, .int .u8 k]) (by simp [results, Tryz.results123, go_sem]) rfl ⟨rfl, ?_⟩
  exact below_trans (below_alloc _ _) (below_alloc _ _)

set_option maxRecDepth 100000 in
set_option maxHeartbeats 2000000 in
theorem always_made (b f k : Int) (w : World) :
    Calls Tryz.prog 107 #[.int .u64 b, .int .u8 f, .int .u8 k] w fun r w' => ∃ X Y Z : Nat, r = .returned (.func (.func 123) #[] #[.pointer (some ⟨X, 0, none⟩), .pointer (some ⟨Y, 0, none⟩), .pointer (some ⟨Z, 0, none⟩)]) ∧ w'.cell? ⟨X, 0, none⟩ = some (.int .u64 b) ∧ w'.cell? ⟨Y, 0, none⟩ = some (.int .u8 f) ∧ w'.cell? ⟨Z, 0, none⟩ = some (.int .u8 k) ∧ Below w.heap.size w w' := by
  have hmf : ∀ (fn : Fn) (first cap : Array Value) (w : World), (Instr.makeFunc fn first cap).run Tryz.prog w = .ok (.func fn first cap) w := fun _ _ _ _ => rfl
  go_enter Tryz.func107, Tryz.ntmps107
  go_wp2_with fail
  go_ret
  exact ⟨w.heap.size, w.heap.size + 1, w.heap.size + 2, rfl, by go_simp, by go_simp, by go_simp, below_trans (below_trans (below_alloc _ _) (below_alloc _ _)) (below_alloc _ _)⟩

set_option maxRecDepth 100000 in
set_option maxHeartbeats 2000000 in
theorem always_told (b : Int) (w : World) :
    Calls Tryz.prog 80 #[.int .u64 b] w fun r w' => ∃ X Y Z : Nat, r = .returned (.func (.func 123) #[] #[.pointer (some ⟨X, 0, none⟩), .pointer (some ⟨Y, 0, none⟩), .pointer (some ⟨Z, 0, none⟩)]) ∧ w'.cell? ⟨X, 0, none⟩ = some (.int .u64 b) ∧ w'.cell? ⟨Y, 0, none⟩ = some (.int .u8 0) ∧ w'.cell? ⟨Z, 0, none⟩ = some (.int .u8 4) ∧ Below w.heap.size w w' := by
  go_enter Tryz.func80, Tryz.ntmps80
  go_wp2_with fail
  refine (always_made _ _ _ _).mono ?_
  rintro r w1 ⟨X, Y, Z, rfl, p0, p1, p2, b1⟩
  go_wp2_with fail
  go_ret
  exact ⟨X, Y, Z, rfl, p0, p1, p2, b1⟩

set_option maxRecDepth 100000 in
set_option maxHeartbeats 2000000 in
theorem aInvalid_calls (x y : Int) (w : World) :
    Calls Tryz.prog 147 #[.agg #[.int .u64 x, .int .u64 y]] w fun r w' => r = .returned (RO (9221120237041090560, 1, 1)) ∧ Below w.heap.size w w' := by
  have bA : Below w.heap.size w ((w.alloc (.cells #[.int .u64 x, .int .u64 y] 40)).alloc (.cells #[.int .u64 0, .int .u8 0, .int .u8 0] 37)) := below_trans (below_alloc _ _) (below_alloc _ _)
  have k0 : ((w.alloc (.cells #[.int .u64 x, .int .u64 y] 40)).alloc (.cells #[.int .u64 0, .int .u8 0, .int .u8 0] 37)).cell? ⟨w.heap.size, 0, none⟩ = some (.int .u64 x) := by go_simp
  have k1 : ((w.alloc (.cells #[.int .u64 x, .int .u64 y] 40)).alloc (.cells #[.int .u64 0, .int .u8 0, .int .u8 0] 37)).cell? ⟨w.heap.size, 1, none⟩ = some (.int .u64 y) := by go_simp
  have z0 : ((w.alloc (.cells #[.int .u64 x, .int .u64 y] 40)).alloc (.cells #[.int .u64 0, .int .u8 0, .int .u8 0] 37)).cell? ⟨w.heap.size + 1, 0, none⟩ = some (.int .u64 0) := by go_simp
  have z1 : ((w.alloc (.cells #[.int .u64 x, .int .u64 y] 40)).alloc (.cells #[.int .u64 0, .int .u8 0, .int .u8 0] 37)).cell? ⟨w.heap.size + 1, 1, none⟩ = some (.int .u8 0) := by go_simp
  have z2 : ((w.alloc (.cells #[.int .u64 x, .int .u64 y] 40)).alloc (.cells #[.int .u64 0, .int .u8 0, .int .u8 0] 37)).cell? ⟨w.heap.size + 1, 2, none⟩ = some (.int .u8 0) := by go_simp
  have f0 : ((w.alloc (.cells #[.int .u64 x, .int .u64 y] 40)).alloc (.cells #[.int .u64 0, .int .u8 0, .int .u8 0] 37)).frozen? ⟨w.heap.size + 1, 0, none⟩ = false := by go_simp
  have f1 : ((w.alloc (.cells #[.int .u64 x, .int .u64 y] 40)).alloc (.cells #[.int .u64 0, .int .u8 0, .int .u8 0] 37)).frozen? ⟨w.heap.size + 1, 1, none⟩ = false := by go_simp
  have f2 : ((w.alloc (.cells #[.int .u64 x, .int .u64 y] 40)).alloc (.cells #[.int .u64 0, .int .u8 0, .int .u8 0] 37)).frozen? ⟨w.heap.size + 1, 2, none⟩ = false := by go_simp
  go_enter Tryz.func147, Tryz.ntmps147
  go_wp2_with fail
  generalize ((w.alloc (.cells #[.int .u64 x, .int .u64 y] 40)).alloc (.cells #[.int .u64 0, .int .u8 0, .int .u8 0] 37)) = w0 at *
  have bD : Below w0.heap.size w0 w0.drew := (Below.refl _ _).drew
  go_region_with (first
      | (go_at_call 107; refine (always_made _ _ _ _).mono ?_; rintro r w1 ⟨X, Y, Z, rfl, p0, p1, p2, b1⟩; have bI := below_trans bD b1; clear b1; have j0 := pcell bI k0; have j1 := pcell bI k1; have g0 := pfroz bI z0 f0; have g1 := pfroz bI z1 f1; have g2 := pfroz bI z2 f2; have y0 := pcell bI z0; have y1 := pcell bI z1; have y2 := pcell bI z2; have bB := below_trans bA bI; clear bI)
      | (go_at_call 123; refine (always_call _ _ _ _ _ _ _ _ _ p0 p1 p2).mono ?_; rintro r w2 ⟨rfl, b2⟩; replace g0 := pfroz b2 y0 g0; replace g1 := pfroz b2 y1 g1; replace g2 := pfroz b2 y2 g2; replace y0 := pcell b2 y0; replace y1 := pcell b2 y1; replace y2 := pcell b2 y2; replace bB := below_trans bB b2; clear b2))
  all_goals
    go_wp2_with fail
    refine bodyPost_ret (v := RO (9221120237041090560, 1, 1)) (by simp [results, Tryz.results147, go_sem, y0, y1, y2, RO]) rfl ⟨rfl, ?_⟩
    repeat (first | (with_reducible exact bB) | (with_reducible refine Below.setCell ?_ (by simp) _))

set_option maxRecDepth 100000 in
set_option maxHeartbeats 2000000 in
theorem aNoNumber_calls (x y : Int) (w : World) :
    Calls Tryz.prog 149 #[.agg #[.int .u64 x, .int .u64 y]] w fun r w' => r = .returned (RO (9221120237041090560, 0, 1)) ∧ Below w.heap.size w w' := by
  have bA : Below w.heap.size w ((w.alloc (.cells #[.int .u64 x, .int .u64 y] 40)).alloc (.cells #[.int .u64 0, .int .u8 0, .int .u8 0] 37)) := below_trans (below_alloc _ _) (below_alloc _ _)
  have k0 : ((w.alloc (.cells #[.int .u64 x, .int .u64 y] 40)).alloc (.cells #[.int .u64 0, .int .u8 0, .int .u8 0] 37)).cell? ⟨w.heap.size, 0, none⟩ = some (.int .u64 x) := by go_simp
  have k1 : ((w.alloc (.cells #[.int .u64 x, .int .u64 y] 40)).alloc (.cells #[.int .u64 0, .int .u8 0, .int .u8 0] 37)).cell? ⟨w.heap.size, 1, none⟩ = some (.int .u64 y) := by go_simp
  have z0 : ((w.alloc (.cells #[.int .u64 x, .int .u64 y] 40)).alloc (.cells #[.int .u64 0, .int .u8 0, .int .u8 0] 37)).cell? ⟨w.heap.size + 1, 0, none⟩ = some (.int .u64 0) := by go_simp
  have z1 : ((w.alloc (.cells #[.int .u64 x, .int .u64 y] 40)).alloc (.cells #[.int .u64 0, .int .u8 0, .int .u8 0] 37)).cell? ⟨w.heap.size + 1, 1, none⟩ = some (.int .u8 0) := by go_simp
  have z2 : ((w.alloc (.cells #[.int .u64 x, .int .u64 y] 40)).alloc (.cells #[.int .u64 0, .int .u8 0, .int .u8 0] 37)).cell? ⟨w.heap.size + 1, 2, none⟩ = some (.int .u8 0) := by go_simp
  have f0 : ((w.alloc (.cells #[.int .u64 x, .int .u64 y] 40)).alloc (.cells #[.int .u64 0, .int .u8 0, .int .u8 0] 37)).frozen? ⟨w.heap.size + 1, 0, none⟩ = false := by go_simp
  have f1 : ((w.alloc (.cells #[.int .u64 x, .int .u64 y] 40)).alloc (.cells #[.int .u64 0, .int .u8 0, .int .u8 0] 37)).frozen? ⟨w.heap.size + 1, 1, none⟩ = false := by go_simp
  have f2 : ((w.alloc (.cells #[.int .u64 x, .int .u64 y] 40)).alloc (.cells #[.int .u64 0, .int .u8 0, .int .u8 0] 37)).frozen? ⟨w.heap.size + 1, 2, none⟩ = false := by go_simp
  go_enter Tryz.func149, Tryz.ntmps149
  go_wp2_with fail
  generalize ((w.alloc (.cells #[.int .u64 x, .int .u64 y] 40)).alloc (.cells #[.int .u64 0, .int .u8 0, .int .u8 0] 37)) = w0 at *
  have bD : Below w0.heap.size w0 w0.drew := (Below.refl _ _).drew
  go_region_with (first
      | (go_at_call 107; refine (always_made _ _ _ _).mono ?_; rintro r w1 ⟨X, Y, Z, rfl, p0, p1, p2, b1⟩; have bI := below_trans bD b1; clear b1; have j0 := pcell bI k0; have j1 := pcell bI k1; have g0 := pfroz bI z0 f0; have g1 := pfroz bI z1 f1; have g2 := pfroz bI z2 f2; have y0 := pcell bI z0; have y1 := pcell bI z1; have y2 := pcell bI z2; have bB := below_trans bA bI; clear bI)
      | (go_at_call 123; refine (always_call _ _ _ _ _ _ _ _ _ p0 p1 p2).mono ?_; rintro r w2 ⟨rfl, b2⟩; replace g0 := pfroz b2 y0 g0; replace g1 := pfroz b2 y1 g1; replace g2 := pfroz b2 y2 g2; replace y0 := pcell b2 y0; replace y1 := pcell b2 y1; replace y2 := pcell b2 y2; replace bB := below_trans bB b2; clear b2))
  all_goals
    go_wp2_with fail
    refine bodyPost_ret (v := RO (9221120237041090560, 0, 1)) (by simp [results, Tryz.results149, go_sem, y0, y1, y2, RO]) rfl ⟨rfl, ?_⟩
    repeat (first | (with_reducible exact bB) | (with_reducible refine Below.setCell ?_ (by simp) _))

set_option maxRecDepth 100000 in
set_option maxHeartbeats 2000000 in
theorem aOutside_calls (x y : Int) (w : World) :
    Calls Tryz.prog 85 #[.agg #[.int .u64 x, .int .u64 y]] w fun r w' => r = .returned (RO (9221120237041090560, 1, 2)) ∧ Below w.heap.size w w' := by
  have bA : Below w.heap.size w ((w.alloc (.cells #[.int .u64 x, .int .u64 y] 40)).alloc (.cells #[.int .u64 0, .int .u8 0, .int .u8 0] 37)) := below_trans (below_alloc _ _) (below_alloc _ _)
  have k0 : ((w.alloc (.cells #[.int .u64 x, .int .u64 y] 40)).alloc (.cells #[.int .u64 0, .int .u8 0, .int .u8 0] 37)).cell? ⟨w.heap.size, 0, none⟩ = some (.int .u64 x) := by go_simp
  have k1 : ((w.alloc (.cells #[.int .u64 x, .int .u64 y] 40)).alloc (.cells #[.int .u64 0, .int .u8 0, .int .u8 0] 37)).cell? ⟨w.heap.size, 1, none⟩ = some (.int .u64 y) := by go_simp
  have z0 : ((w.alloc (.cells #[.int .u64 x, .int .u64 y] 40)).alloc (.cells #[.int .u64 0, .int .u8 0, .int .u8 0] 37)).cell? ⟨w.heap.size + 1, 0, none⟩ = some (.int .u64 0) := by go_simp
  have z1 : ((w.alloc (.cells #[.int .u64 x, .int .u64 y] 40)).alloc (.cells #[.int .u64 0, .int .u8 0, .int .u8 0] 37)).cell? ⟨w.heap.size + 1, 1, none⟩ = some (.int .u8 0) := by go_simp
  have z2 : ((w.alloc (.cells #[.int .u64 x, .int .u64 y] 40)).alloc (.cells #[.int .u64 0, .int .u8 0, .int .u8 0] 37)).cell? ⟨w.heap.size + 1, 2, none⟩ = some (.int .u8 0) := by go_simp
  have f0 : ((w.alloc (.cells #[.int .u64 x, .int .u64 y] 40)).alloc (.cells #[.int .u64 0, .int .u8 0, .int .u8 0] 37)).frozen? ⟨w.heap.size + 1, 0, none⟩ = false := by go_simp
  have f1 : ((w.alloc (.cells #[.int .u64 x, .int .u64 y] 40)).alloc (.cells #[.int .u64 0, .int .u8 0, .int .u8 0] 37)).frozen? ⟨w.heap.size + 1, 1, none⟩ = false := by go_simp
  have f2 : ((w.alloc (.cells #[.int .u64 x, .int .u64 y] 40)).alloc (.cells #[.int .u64 0, .int .u8 0, .int .u8 0] 37)).frozen? ⟨w.heap.size + 1, 2, none⟩ = false := by go_simp
  go_enter Tryz.func85, Tryz.ntmps85
  go_wp2_with fail
  generalize ((w.alloc (.cells #[.int .u64 x, .int .u64 y] 40)).alloc (.cells #[.int .u64 0, .int .u8 0, .int .u8 0] 37)) = w0 at *
  have bD : Below w0.heap.size w0 w0.drew := (Below.refl _ _).drew
  go_region_with (first
      | (go_at_call 107; refine (always_made _ _ _ _).mono ?_; rintro r w1 ⟨X, Y, Z, rfl, p0, p1, p2, b1⟩; have bI := below_trans bD b1; clear b1; have j0 := pcell bI k0; have j1 := pcell bI k1; have g0 := pfroz bI z0 f0; have g1 := pfroz bI z1 f1; have g2 := pfroz bI z2 f2; have y0 := pcell bI z0; have y1 := pcell bI z1; have y2 := pcell bI z2; have bB := below_trans bA bI; clear bI)
      | (go_at_call 123; refine (always_call _ _ _ _ _ _ _ _ _ p0 p1 p2).mono ?_; rintro r w2 ⟨rfl, b2⟩; replace g0 := pfroz b2 y0 g0; replace g1 := pfroz b2 y1 g1; replace g2 := pfroz b2 y2 g2; replace y0 := pcell b2 y0; replace y1 := pcell b2 y1; replace y2 := pcell b2 y2; replace bB := below_trans bB b2; clear b2))
  all_goals
    go_wp2_with fail
    refine bodyPost_ret (v := RO (9221120237041090560, 1, 2)) (by simp [results, Tryz.results85, go_sem, y0, y1, y2, RO]) rfl ⟨rfl, ?_⟩
    repeat (first | (with_reducible exact bB) | (with_reducible refine Below.setCell ?_ (by simp) _))

end Go.Proofs.YtkkccnpmcbpdnaaGreatDoor
