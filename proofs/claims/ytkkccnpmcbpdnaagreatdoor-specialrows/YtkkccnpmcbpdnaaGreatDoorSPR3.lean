/- Package special: the rows of functions. -/
import Derived.Test.YtkkccnpmcbpdnaaGreatDoorSPL0
import Derived.Test.YtkkccnpmcbpdnaaGreatDoorSPW3c
namespace Go.Proofs.YtkkccnpmcbpdnaaGreatDoor
open Go.RowKit

theorem aAmounts_is (w : World) : IsA w (.func (.func 101) #[] #[]) aAmounts := ⟨_, _, rfl, Tryz.call101, fun W _ _ x y h k => aAmounts_calls x y W h k, fun x y h k => orA_U x y h k⟩
set_option maxRecDepth 100000 in
set_option maxHeartbeats 4000000 in
theorem lDist_made (W : World) : Calls Tryz.prog 64 #[] W (ML W lDist) := by
  go_enter Tryz.func64, Tryz.ntmps64
  go_wp2_with fail
  refine Calls.mono (either_made _ _ _ _ (tZero_is _)) ?_
  rintro r w0 ⟨G0, q0, rfl, h0, b0⟩
  have bb := b0
  clear b0
  go_wp2_with fail
  go_ret
  exact ⟨_, 1, 1, _, rfl, rfl, isC_made _ _ _ 1 rfl, ⟨h0.keep (below_alloc _ _), aAmounts_is _, trivial⟩, below_trans bb (below_alloc _ _)⟩
theorem lDist_cl : CL 64 lDist := ⟨Tryz.call64, fun W _ => lDist_made W⟩

end Go.Proofs.YtkkccnpmcbpdnaaGreatDoor
