/- The walks of the document's answers for layer 1, second part: classes, fields, last bits, whole and odd numbers (their loops). -/
import Derived.Test.YtognliaoonkmiaaGreatDoorRWalks
namespace Go.Proofs.YtognliaoonkmiaaGreatDoor
open Go.RowKit

set_option maxHeartbeats 400000 in
theorem rSplit_calls (x : Int) (w : World) (h : U x) :
    Calls Tryz.prog 78 #[.int .u64 x] w fun e w' => e = .returned (.agg #[.bool (sgnB x), .int .i64 (expV x), .int .u64 (fracV x)]) ∧ Below w.heap.size w w' := by
  have hx := expV_bd x
  obtain ⟨h0, h1⟩ := h
  go_enter Tryz.func78, Tryz.ntmps78
  go_wp2
  exact bodyPost_ret (v := .agg #[.bool (sgnB x), .int .i64 (expV x), .int .u64 (fracV x)]) (by simp [results, Tryz.results78, go_sem, sgnB, expV, fracV]) rfl ⟨rfl, below_alloc _ _⟩

set_option maxHeartbeats 400000 in
theorem rParts_calls (x : Int) (w : World) (h : U x) :
    Calls Tryz.prog 37 #[.int .u64 x] w fun e w' => e = .returned (.tuple #[.int .u64 (countV x), .int .i64 (unitV x)]) ∧ Below w.heap.size w w' := by
  have hf := fracV_bd x
  have hx := expV_bd x
  by_cases c : expV x = 0
  · have hE : Hid (unitV x = -1074) := by unfold unitV; rw [Hid, if_pos c]
    have hV : Hid (countV x = fracV x) := by unfold countV; rw [Hid, if_pos c]
    have c' : (expV x == 0) = true := by simp [c]
    clear c
    go_enter Tryz.func37, Tryz.ntmps37
    go_wp2_with (go_at_call 78; refine (rSplit_calls _ _ h).mono ?_; rintro e w1 ⟨rfl, hb⟩)
    go_ret2
    rw [hE.out, hV.out]
    exact ⟨rfl, below_trans hb (below_alloc _ _)⟩
  · have hE : Hid (unitV x = expV x - 1075) := by unfold unitV; rw [Hid, if_neg c]
    have hV : Hid (countV x = fracV x + 4503599627370496) := by unfold countV; rw [Hid, if_neg c]
    have c' : (expV x == 0) = false := by simp [c]
    clear c
    go_enter Tryz.func37, Tryz.ntmps37
    go_wp2_with (go_at_call 78; refine (rSplit_calls _ _ h).mono ?_; rintro e w1 ⟨rfl, hb⟩)
    go_region
    go_wp2
    go_ret2
    rw [hE.out, hV.out]
    exact ⟨rfl, (below_trans hb (below_alloc _ _)).drew⟩

/-! ### powers of two -/
theorem two_pow_pos (k : Nat) : (0 : Int) < 2 ^ k := Int.pow_pos (by decide)

end Go.Proofs.YtognliaoonkmiaaGreatDoor
