/- The walks of package flags, first part: sets (Join, Meet, Take, Has, Right, Math): what each answers, for every byte, in whatever memory. -/
import Derived.Test.YtjgnoaieplmoiaaGreatDoorRows
import Derived.Test.YtjgnoaieplmoiaaGreatDoorGFPure
import Derived.WalkKit
import Derived.WalkSpells
import Derived.WalkLawsBesides
namespace Go.Proofs.YtjgnoaieplmoiaaGreatDoor.Fl
open Go.RowKit

theorem fret_int {k : IntKind} {a b : Int} (h : a = b) : Ending.returned (.int k a) = .returned (.int k b) := by rw [h]
theorem fret_bool {a b : Bool} (h : a = b) : Ending.returned (.bool a) = .returned (.bool b) := by rw [h]
theorem fbelow_trans {a b c : World} (h : Below a.heap.size a b) (k : Below b.heap.size b c) : Below a.heap.size a c := h.trans (k.mono h.size)



set_option maxHeartbeats 400000 in
theorem fTake_calls (f g : Int) (w : World) :
    Calls Tryz.prog 70 #[.int .u8 f, .int .u8 g] w fun e w' => e = .returned (.int .u8 (takeV f g)) ∧ w' = w := by
  go_enter Tryz.func70, Tryz.ntmps70
  go_wp2
  go_ret
  exact ⟨rfl, rfl⟩

set_option maxHeartbeats 400000 in
theorem fHas_calls (f g : Int) (w : World) :
    Calls Tryz.prog 54 #[.int .u8 f, .int .u8 g] w fun e w' => e = .returned (.bool (hasB f g)) ∧ w' = w := by
  go_enter Tryz.func54, Tryz.ntmps54
  go_wp2_with (go_at_call 70; refine (fTake_calls _ _ _).mono ?_; rintro e w' ⟨rfl, rfl⟩)
  go_ret
  exact ⟨rfl, rfl⟩

set_option maxHeartbeats 400000 in
theorem fRight_calls (f : Int) (w : World) :
    Calls Tryz.prog 53 #[.int .u8 f] w fun e w' => e = .returned (.bool (rightB f)) ∧ w' = w := by
  go_enter Tryz.func53, Tryz.ntmps53
  go_wp2_with (go_at_call 54; refine (fHas_calls _ _ _).mono ?_; rintro e w' ⟨rfl, rfl⟩)
  go_ret
  exact ⟨rfl, rfl⟩

end Go.Proofs.YtjgnoaieplmoiaaGreatDoor.Fl
