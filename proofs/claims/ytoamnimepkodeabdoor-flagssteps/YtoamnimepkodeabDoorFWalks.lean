/- The walks of package flags, first part: sets (Join, Meet, Take, Has, Right, Math): what each answers, for every byte, in whatever memory. -/
import Derived.Test.YtoamnimepkodeabDoorRows
import Derived.Test.YtoamnimepkodeabDoorFPure
import Derived.WalkKit
import Derived.WalkSpells
import Derived.WalkLawsBesides
namespace Go.Proofs.YtoamnimepkodeabDoor
open Go.RowKit

theorem fret_int {k : IntKind} {a b : Int} (h : a = b) : Ending.returned (.int k a) = .returned (.int k b) := by rw [h]
theorem fret_bool {a b : Bool} (h : a = b) : Ending.returned (.bool a) = .returned (.bool b) := by rw [h]
theorem fbelow_trans {a b c : World} (h : Below a.heap.size a b) (k : Below b.heap.size b c) : Below a.heap.size a c := h.trans (k.mono h.size)

set_option maxHeartbeats 400000 in
theorem fJoin_calls (f g : Int) (w : World) :
    Calls Tryd.prog 21 #[.int .u8 f, .int .u8 g] w fun e w' => e = .returned (.int .u8 (orV f g)) ∧ w' = w := by
  go_enter Tryd.func21, Tryd.ntmps21
  go_wp2
  go_ret
  exact ⟨rfl, rfl⟩

set_option maxHeartbeats 400000 in
theorem fMeet_calls (f g : Int) (w : World) :
    Calls Tryd.prog 22 #[.int .u8 f, .int .u8 g] w fun e w' => e = .returned (.int .u8 (andV f g)) ∧ w' = w := by
  go_enter Tryd.func22, Tryd.ntmps22
  go_wp2
  go_ret
  exact ⟨rfl, rfl⟩

set_option maxHeartbeats 400000 in
theorem fTake_calls (f g : Int) (w : World) :
    Calls Tryd.prog 23 #[.int .u8 f, .int .u8 g] w fun e w' => e = .returned (.int .u8 (takeV f g)) ∧ w' = w := by
  go_enter Tryd.func23, Tryd.ntmps23
  go_wp2
  go_ret
  exact ⟨rfl, rfl⟩

set_option maxHeartbeats 400000 in
theorem fHas_calls (f g : Int) (w : World) :
    Calls Tryd.prog 20 #[.int .u8 f, .int .u8 g] w fun e w' => e = .returned (.bool (hasB f g)) ∧ w' = w := by
  go_enter Tryd.func20, Tryd.ntmps20
  go_wp2_with (go_at_call 23; refine (fTake_calls _ _ _).mono ?_; rintro e w' ⟨rfl, rfl⟩)
  go_ret
  exact ⟨rfl, rfl⟩

set_option maxHeartbeats 400000 in
theorem fRight_calls (f : Int) (w : World) :
    Calls Tryd.prog 18 #[.int .u8 f] w fun e w' => e = .returned (.bool (rightB f)) ∧ w' = w := by
  go_enter Tryd.func18, Tryd.ntmps18
  go_wp2_with (go_at_call 20; refine (fHas_calls _ _ _).mono ?_; rintro e w' ⟨rfl, rfl⟩)
  go_ret
  exact ⟨rfl, rfl⟩

set_option maxHeartbeats 400000 in
theorem fMath_calls (f : Int) (w : World) :
    Calls Tryd.prog 24 #[.int .u8 f] w fun e w' => e = .returned (.int .u8 (mathV f)) ∧ w' = w := by
  cases c1 : hasB f 1
  · cases c2 : (andV f 14 != 0)
    · have hV : Hid (mathV f = 0) := by unfold mathV; rw [Hid, c1, c2]; rfl
      go_enter Tryd.func24, Tryd.ntmps24
      go_wp2_with (first | (go_at_call 20; refine (fHas_calls _ _ _).mono ?_; rintro e w' ⟨rfl, rfl⟩) | (go_at_call 22; refine (fMeet_calls _ _ _).mono ?_; rintro e w' ⟨rfl, rfl⟩))
      go_ret
      exact ⟨fret_int hV.out.symm, rfl⟩
    · have hV : Hid (mathV f = 2) := by unfold mathV; rw [Hid, c1, c2]; rfl
      go_enter Tryd.func24, Tryd.ntmps24
      go_wp2_with (first | (go_at_call 20; refine (fHas_calls _ _ _).mono ?_; rintro e w' ⟨rfl, rfl⟩) | (go_at_call 22; refine (fMeet_calls _ _ _).mono ?_; rintro e w' ⟨rfl, rfl⟩))
      go_ret
      exact ⟨fret_int hV.out.symm, rfl⟩
  · have hV : Hid (mathV f = 1) := by unfold mathV; rw [Hid, c1]; rfl
    go_enter Tryd.func24, Tryd.ntmps24
    go_wp2_with (first | (go_at_call 20; refine (fHas_calls _ _ _).mono ?_; rintro e w' ⟨rfl, rfl⟩) | (go_at_call 22; refine (fMeet_calls _ _ _).mono ?_; rintro e w' ⟨rfl, rfl⟩))
    go_ret
    exact ⟨fret_int hV.out.symm, rfl⟩
end Go.Proofs.YtoamnimepkodeabDoor
