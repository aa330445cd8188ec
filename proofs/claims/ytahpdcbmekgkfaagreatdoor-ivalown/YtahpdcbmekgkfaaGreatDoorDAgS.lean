/- The walks of the order of numbers. -/
import Derived.Test.YtahpdcbmekgkfaaGreatDoorTMG
namespace Go.Proofs.YtahpdcbmekgkfaaGreatDoor
open Go.RowKit
set_option maxRecDepth 100000 in
set_option maxHeartbeats 2000000 in
theorem against_signs (sx : Bool) (ax : Option Addr) (nx cx : Nat) (ex : Int) (sy : Bool) (ay : Option Addr) (ny cy : Nat) (ey : Int) (w : World) (hs : sgnI nx sx ≠ sgnI ny sy) :
  Calls Tryz.prog 141 #[numV sx ax nx cx ex false, numV sy ay ny cy ey false] w fun r w' => r = .returned (.int .i64 (Lib.compareInt (sgnI nx sx) (sgnI ny sy))) ∧ Below w.heap.size w w' := by
 have SX : Hid (∀ W : World, Calls Tryz.prog 179 #[numV sx ax nx cx ex false] W fun r w' => r = .returned (.int .i64 (sgnI nx sx)) ∧ w' = (W.alloc (.cells #[.bool sx, .slice ax nx cx, .int .i64 ex, .bool false] 109)).alloc (.cells #[.bool sx, .slice ax nx cx, .int .i64 ex, .bool false] 109)) := fun W => signX_calls _ _ _ _ _ _ _
 have SY : Hid (∀ W : World, Calls Tryz.prog 179 #[numV sy ay ny cy ey false] W fun r w' => r = .returned (.int .i64 (sgnI ny sy)) ∧ w' = (W.alloc (.cells #[.bool sy, .slice ay ny cy, .int .i64 ey, .bool false] 109)).alloc (.cells #[.bool sy, .slice ay ny cy, .int .i64 ey, .bool false] 109)) := fun W => signX_calls _ _ _ _ _ _ _
 generalize sgnI nx sx = gx at hs SX ⊢
 generalize sgnI ny sy = gy at hs SY ⊢
 have hne : (gx == gy) = false := by simpa using hs
 have hne2 : decide (gx = gy) = false := decide_eq_false hs
 go_enter Tryz.func141, Tryz.ntmps141
 go_wp2_with fail
 go_region_with (first
  | (go_at_call 179; refine calls_guard #[numV sx ax nx cx ex false] ?_ ?_; (focus rfl); refine (SX.out _).mono ?_; rintro r w1 ⟨rfl, rfl⟩)
  | (go_at_call 179; refine calls_guard #[numV sy ay ny cy ey false] ?_ ?_; (focus rfl); refine (SY.out _).mono ?_; rintro r w1 ⟨rfl, rfl⟩))
 all_goals
  go_wp2_with fail
  go_region_with (first
   | (go_at_call 179; refine calls_guard #[numV sx ax nx cx ex false] ?_ ?_; (focus rfl); refine (SX.out _).mono ?_; rintro r w1 ⟨rfl, rfl⟩)
   | (go_at_call 179; refine calls_guard #[numV sy ay ny cy ey false] ?_ ?_; (focus rfl); refine (SY.out _).mono ?_; rintro r w1 ⟨rfl, rfl⟩)
   | (go_at_call 145; refine (Tryz.cmp_Compare_int _ _ _).mono ?_; rintro r wC ⟨rfl, rfl⟩))
  all_goals
   go_wp2_with fail
   go_ret
   exact ⟨rfl, (by repeat (first | exact Below.refl _ _ | apply Below.drew | refine Below.alloc ?_ (by simp; try omega) _))⟩
end Go.Proofs.YtahpdcbmekgkfaaGreatDoor
