/- The walks of the order of numbers. -/
import Derived.Test.YtahpdcbmekgkfaaGreatDoorTMG
namespace Go.Proofs.YtahpdcbmekgkfaaGreatDoor
open Go.RowKit
theorem cmpN_le (a b : Nat) : -1 ≤ cmpN a b ∧ cmpN a b ≤ 1 := by unfold cmpN; split <;> (try split) <;> omega
theorem compare_le (a b : Int) : -1 ≤ Lib.compareInt a b ∧ Lib.compareInt a b ≤ 1 := by unfold Lib.compareInt; split <;> (try split) <;> omega
theorem amtD_le (mx : Nat) (ex : Int) (my : Nat) (ey : Int) : -1 ≤ amtD mx ex my ey ∧ amtD mx ex my ey ≤ 1 := by
 unfold amtD
 split
 ·exact compare_le _ _
 ·split
  ·have := cmpN_le (my * 2 ^ (ey - ex).toNat) mx
   omega
  ·exact cmpN_le _ _
set_option maxRecDepth 100000 in
set_option maxHeartbeats 6000000 in
theorem against_amounts (sx : Bool) (ax : Option Addr) (nx cx : Nat) (mx : Nat) (ex : Int) (sy : Bool) (ay : Option Addr) (ny cy : Nat) (my : Nat) (ey : Int) (w : World) (hIx : IsW w ax nx cx (wO mx)) (hnx : nx ≤ 1024) (hgx : greatB mx = false) (hex : -100000000 ≤ ex ∧ ex ≤ 100000000) (hIy : IsW w ay ny cy (wO my)) (hny : ny ≤ 1024) (hgy : greatB my = false) (hey : -100000000 ≤ ey ∧ ey ≤ 100000000) (h1 : mx ≠ 0) (h2 : my ≠ 0) (hx0 : nx ≠ 0) (gg : Int) (hgg : gg = 1 ∨ gg = -1) (q1 : sgnI nx sx = gg) (q2 : sgnI ny sy = gg) :
  Calls Tryz.prog 141 #[numV sx ax nx cx ex false, numV sy ay ny cy ey false] w fun r w' => r = .returned (.int .i64 (gg * amtD mx ex my ey)) ∧ Below w.heap.size w w' := by
 have AC : Hid (∀ W, Below w.heap.size w W → Calls Tryz.prog 180 #[numV sx ax nx cx ex false, numV sy ay ny cy ey false] W fun r w' => r = .returned (.int .i64 (amtD mx ex my ey)) ∧ Below w.heap.size w w') := fun W hW => (amt_calls sx ax nx cx mx ex sy ay ny cy my ey W (hIx.keep hW) hnx hgx hex (hIy.keep hW) hny hgy hey h1 h2).mono (fun r w' h => ⟨h.1, nT hW h.2⟩)
 have hb := amtD_le mx ex my ey
 have hn0 : ((nx : Int) == 0) = false := by simp; omega
 clear h1 h2 hx0 hgx hgy hex hey
 generalize amtD mx ex my ey = am at hb AC ⊢
 obtain ⟨hb1, hb2⟩ := hb
 have HGG : Hid (gg = 1 ∨ gg = -1) := hgg
 have hge : (gg == gg) = true := by simp
 clear hgg
 go_enter Tryz.func141, Tryz.ntmps141
 go_wp2_with fail
 go_region_with (first
  | (go_at_call 179; refine calls_guard #[numV sx ax nx cx ex false] ?_ ?_; (focus rfl); refine (signX_calls sx ax nx cx ex false _).mono ?_; rintro r w1 ⟨rfl, rfl⟩)
  | (go_at_call 179; refine calls_guard #[numV sy ay ny cy ey false] ?_ ?_; (focus rfl); refine (signX_calls sy ay ny cy ey false _).mono ?_; rintro r w1 ⟨rfl, rfl⟩)
  | (go_at_call 153; refine (zero_calls sx ax nx cx ex false _).mono ?_; rintro r w1 ⟨rfl, rfl⟩))
 all_goals
  go_wp2_with fail
  go_region_with (first
   | (go_at_call 179; refine calls_guard #[numV sx ax nx cx ex false] ?_ ?_; (focus rfl); refine (signX_calls sx ax nx cx ex false _).mono ?_; rintro r w1 ⟨rfl, rfl⟩)
   | (go_at_call 180; refine (AC.out _ (by repeat (first | (with_reducible exact Below.refl _ _) | apply Below.drew | refine Below.alloc ?_ (by simp; try omega) _))).mono ?_; rintro r wA ⟨rfl, hbA⟩))
  all_goals
    go_wp2_with fail
    go_ret
    exact ⟨nret_int (by rw [IntKind.wrap_i64]; rcases HGG.out with rfl | rfl <;> omega), by repeat (first | (with_reducible exact hbA) | apply Below.drew | refine Below.alloc ?_ (by have := hbA.size; simp at this ⊢; omega) _)⟩
end Go.Proofs.YtahpdcbmekgkfaaGreatDoor
