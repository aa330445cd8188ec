/- The walk of the statement BitsSplits: it answers true for any uint64 word and any fields, where math/bits's table stands. -/
import Derived.Test.YtoamnimepkodeaaDoorRWalks2
namespace Go.Proofs.YtoamnimepkodeaaDoor
open Go.RowKit

/-- A struct of three cells that was boxed stays in its block. -/
theorem box_kept {w w1 : World} {v0 v1 v2 : Value} {t : TypeId} (h : Below (w.alloc (.cells #[v0, v1, v2] t)).heap.size (w.alloc (.cells #[v0, v1, v2] t)) w1) :
    w1.cell? ⟨w.heap.size, 0, none⟩ = some v0 ∧ w1.cell? ⟨w.heap.size, 1, none⟩ = some v1 ∧ w1.cell? ⟨w.heap.size, 2, none⟩ = some v2 := by
  refine ⟨?_, ?_, ?_⟩
  · rw [h.cell (p := ⟨w.heap.size, 0, none⟩) (by simp)]; go_simp
  · rw [h.cell (p := ⟨w.heap.size, 1, none⟩) (by simp)]; go_simp
  · rw [h.cell (p := ⟨w.heap.size, 2, none⟩) (by simp)]; go_simp

set_option maxHeartbeats 1000000 in
theorem bitsSplits_walk (x : Int) (s : Bool) (a f : Int) (w : World) (hx : U x) (hf : U f) (hT : Tab w) :
    Calls Tryd.prog 3 #[.int .u64 x, .agg #[.bool s, .int .i64 a, .int .u64 f]] w fun e w' => e = .returned (.bool true) ∧ Below w.heap.size w w' := by
  go_enter Tryd.func3, Tryd.ntmps3
  go_wp2_with fail
  refine (join_calls _ _ _ _ hf).mono ?_
  rintro e w1 ⟨rfl, hb1⟩
  obtain ⟨q0, q1, q2⟩ := box_kept hb1
  have hb : Below w.heap.size w w1 := below_trans (below_alloc _ _) hb1
  replace hT := hT.kept hb
  clear hb1
  go_wp2_with fail
  refine (rJoin_calls _ _ _ _ hf).mono ?_
  rintro e w2 ⟨rfl, hb1⟩
  replace hT := hT.kept hb1
  replace hb := below_trans hb hb1
  clear hb1 q0 q1 q2
  go_wp2_with (first | (go_at_call 11; refine (lives_calls _ (by assumption)).mono ?_; rintro e w1 ⟨rfl, hb1⟩; replace hT := hT.kept hb1; replace hb := below_trans hb hb1; clear hb1) | (go_at_call 12; refine (class_calls _ _ (by assumption)).mono ?_; rintro e w1 ⟨rfl, hb1⟩; replace hT := hT.kept hb1; replace hb := below_trans hb hb1; clear hb1) | (go_at_call 14; refine (split_calls _ _ (by assumption)).mono ?_; rintro e w1 ⟨rfl, hb1⟩; replace hT := hT.kept hb1; replace hb := below_trans hb hb1; clear hb1) | (go_at_call 13; refine (rClass_calls _ _ (by assumption)).mono ?_; rintro e w' ⟨rfl, rfl⟩) | (go_at_call 15; refine (rSplit_calls _ _ (by assumption)).mono ?_; rintro e w1 ⟨rfl, hb1⟩; replace hT := hT.kept hb1; replace hb := below_trans hb hb1; clear hb1))
  go_ret
  exact ⟨rfl, hb⟩
end Go.Proofs.YtoamnimepkodeaaDoor
