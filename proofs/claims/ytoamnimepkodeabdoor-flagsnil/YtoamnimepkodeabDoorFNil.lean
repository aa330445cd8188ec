/- The walk of the statement FlagsNil: it answers true for any step, where the names stand. -/
import Derived.Test.YtoamnimepkodeabDoorFBegins
namespace Go.Proofs.YtoamnimepkodeabDoor
open Go.RowKit

set_option maxHeartbeats 400000 in
theorem nDo_calls (k f : Int) (w : World) :
    Calls Tryd.prog 39 #[.pointer none, .agg #[.int .u8 k, .int .u8 f]] w fun e w' => e = .returned (.tuple #[.int .u8 0, .int .i64 1]) ∧ Below w.heap.size w w' := by
  go_enter Tryd.func39, Tryd.ntmps39
  go_wp2
  go_ret2
  exact ⟨rfl, (Below.refl _ _).alloc (Nat.le_refl _) _⟩

set_option maxHeartbeats 400000 in
theorem nForget_calls (w : World) :
    Calls Tryd.prog 42 #[.pointer none] w fun e w' => e = .returned (.tuple #[]) ∧ w' = w := by
  go_enter Tryd.func42, Tryd.ntmps42
  go_wp2
  go_end0
  exact ⟨rfl, rfl⟩

theorem step_kept {w w1 : World} {v0 v1 : Value} {t : TypeId} (h : Below (w.alloc (.cells #[v0, v1] t)).heap.size (w.alloc (.cells #[v0, v1] t)) w1) :
    w1.cell? ⟨w.heap.size, 0, none⟩ = some v0 ∧ w1.cell? ⟨w.heap.size, 1, none⟩ = some v1 := by
  refine ⟨?_, ?_⟩
  · rw [h.cell (p := ⟨w.heap.size, 0, none⟩) (by simp)]; go_simp
  · rw [h.cell (p := ⟨w.heap.size, 1, none⟩) (by simp)]; go_simp

set_option maxHeartbeats 1000000 in
theorem flagsNil_walk (k f : Int) (w : World) (_hk : F k) (_hf : F f) (hN : Names w) :
    Calls Tryd.prog 8 #[.agg #[.int .u8 k, .int .u8 f]] w fun e w' => e = .returned (.bool true) ∧ Below w.heap.size w w' := by
  go_enter Tryd.func8, Tryd.ntmps8
  go_wp2_with fail
  refine (nDo_calls _ _ _).mono ?_
  rintro e w1 ⟨rfl, hb1⟩
  obtain ⟨q0, q1⟩ := step_kept hb1
  have hb : Below w.heap.size w w1 := fbelow_trans ((Below.refl _ _).alloc (Nat.le_refl _) _) hb1
  have hN1 := hN.keep hb
  clear hb1
  go_wp2_with (first | (go_at_call 26; refine (begins_calls _ hN1).mono ?_; rintro e w2 ⟨rfl, hb2⟩) | (go_at_call 42; refine (nForget_calls _).mono ?_; rintro e w1 ⟨rfl, rfl⟩) | go_in)
  go_ret
  exact ⟨rfl, fbelow_trans hb hb2⟩
end Go.Proofs.YtoamnimepkodeabDoor
