/- The walks of the order of numbers. -/
import Derived.Test.YtahpdcbmekgkfaaGreatDoorTMG
namespace Go.Proofs.YtahpdcbmekgkfaaGreatDoor
open Go.RowKit
set_option maxRecDepth 100000 in
set_option maxHeartbeats 2000000 in
theorem against_zero (sx : Bool) (ax : Option Addr) (nx cx : Nat) (ex : Int) (sy : Bool) (ay : Option Addr) (ny cy : Nat) (ey : Int) (w : World) (hz : nx = 0) (hz' : ny = 0) :
  Calls Tryz.prog 141 #[numV sx ax nx cx ex false, numV sy ay ny cy ey false] w fun r w' => r = .returned (.int .i64 0) ∧ Below w.heap.size w w' := by
 have q1 : sgnI nx sx = 0 := by rw [hz]; rfl
 have q2 : sgnI ny sy = 0 := by rw [hz']; rfl
 have q3 : Hid (Lib.compareInt 0 0 = 0) := by rfl
 subst hz
 subst hz'
 go_enter Tryz.func141, Tryz.ntmps141
 go_wp2_with fail
 go_region_with (first
  | (go_at_call 179; refine calls_guard #[numV sx ax 0 cx ex false] ?_ ?_; (focus rfl); refine (signX_calls sx ax 0 cx ex false _).mono ?_; rintro r w1 ⟨rfl, rfl⟩)
  | (go_at_call 179; refine calls_guard #[numV sy ay 0 cy ey false] ?_ ?_; (focus rfl); refine (signX_calls sy ay 0 cy ey false _).mono ?_; rintro r w1 ⟨rfl, rfl⟩)
  | (go_at_call 153; refine (zero_calls sx ax 0 cx ex false _).mono ?_; rintro r w1 ⟨rfl, rfl⟩))
 all_goals
  go_wp2_with fail
  go_region_with (first
   | (go_at_call 179; refine calls_guard #[numV sx ax 0 cx ex false] ?_ ?_; (focus rfl); refine (signX_calls sx ax 0 cx ex false _).mono ?_; rintro r w1 ⟨rfl, rfl⟩)
   | (go_at_call 179; refine calls_guard #[numV sy ay 0 cy ey false] ?_ ?_; (focus rfl); refine (signX_calls sy ay 0 cy ey false _).mono ?_; rintro r w1 ⟨rfl, rfl⟩)
   | (go_at_call 145; refine (Tryz.cmp_Compare_int _ _ _).mono ?_; rintro r wC ⟨rfl, rfl⟩))
  all_goals
   go_wp2_with fail
   go_ret
   exact ⟨nret_int (by first | rfl | (simp [q1, q2]; exact q3.out)), (by repeat (first | exact Below.refl _ _ | apply Below.drew | refine Below.alloc ?_ (by simp; try omega) _))⟩
end Go.Proofs.YtahpdcbmekgkfaaGreatDoor
