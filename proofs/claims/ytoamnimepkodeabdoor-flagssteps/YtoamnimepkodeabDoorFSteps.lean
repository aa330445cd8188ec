/- The walks of the document's answers for an environment (Raise, Clear, Do) and of the statements' helper 'same'. -/
import Derived.Test.YtoamnimepkodeabDoorFEnv2
import Derived.Test.YtoamnimepkodeabDoorFSets
import Derived.Deep.QuietTactic
import Derived.BigQuiet
namespace Go.Proofs.YtoamnimepkodeabDoor
open Go.RowKit

def rmV (m f : Int) : Int := if mathV f = 0 then m else mathV f
theorem two_allocs (w : World) (o1 o2 : Obj) : Below w.heap.size w ((w.alloc o1).alloc o2) := (((Below.refl _ _).alloc (Nat.le_refl _) o1).alloc (by simp) o2)

set_option maxHeartbeats 400000 in
theorem rRaise_calls (fl m f : Int) (w : World) (hf : F f) :
    Calls Tryd.prog 62 #[.agg #[.int .u8 fl, .int .u8 m], .int .u8 f] w fun e w' => e = .returned (.agg #[.int .u8 (orV fl f), .int .u8 (rmV m f)]) ∧ Below w.heap.size w w' := by
  by_cases hm : mathV f = 0
  · have hm' : (mathV f != 0) = false := by simp [hm]
    have hV : Hid (rmV m f = m) := by unfold rmV; rw [Hid, if_pos hm]
    clear hm
    go_enter Tryd.func62, Tryd.ntmps62
    go_wp2_with (go_at_call 25; refine (rMath_calls _ _ hf).mono ?_; rintro e w1 ⟨rfl, rfl⟩)
    rw [hV.out]
    exact bodyPost_ret (v := .agg #[.int .u8 (orV fl f), .int .u8 m]) (by simp [results, Tryd.results62, go_sem, orV]) rfl ⟨rfl, two_allocs _ _ _⟩
  · have hm' : (mathV f != 0) = true := by simp [hm]
    have hV : Hid (rmV m f = mathV f) := by unfold rmV; rw [Hid, if_neg hm]
    clear hm
    go_enter Tryd.func62, Tryd.ntmps62
    go_wp2_with (go_at_call 25; refine (rMath_calls _ _ hf).mono ?_; rintro e w1 ⟨rfl, rfl⟩)
    rw [hV.out]
    exact bodyPost_ret (v := .agg #[.int .u8 (orV fl f), .int .u8 (mathV f)]) (by simp [results, Tryd.results62, go_sem, orV]) rfl ⟨rfl, two_allocs _ _ _⟩

set_option maxHeartbeats 400000 in
theorem rClear_calls (fl m f : Int) (w : World) :
    Calls Tryd.prog 63 #[.agg #[.int .u8 fl, .int .u8 m], .int .u8 f] w fun e w' => e = .returned (.agg #[.int .u8 (takeV fl f), .int .u8 m]) ∧ Below w.heap.size w w' := by
  go_enter Tryd.func63, Tryd.ntmps63
  go_wp2
  exact bodyPost_ret (v := .agg #[.int .u8 (takeV fl f), .int .u8 m]) (by simp [results, Tryd.results63, go_sem, takeV]) rfl ⟨rfl, two_allocs _ _ _⟩

set_option maxHeartbeats 1000000 in
theorem same_calls (b : Nat) (fl m : Int) (w : World) (hE : EnvAt w b fl m) (h0 : (testV fl 31 == fl) = true) :
    Calls Tryd.prog 38 #[.pointer (some ⟨b, 0, none⟩), .agg #[.int .u8 fl, .int .u8 m]] w fun e w' => e = .returned (.bool true) ∧ Below w.heap.size w w' := by
  have k1 : (refV 31 == 0) = true := by decide +kernel
  have mm : (m == m) = true := by simp
  have hE1 := fun o => box_env hE o
  go_enter Tryd.func38, Tryd.ntmps38
  go_wp2_with (go_at_call 40; refine (eTest_calls _ _ _ _ _ (hE1 _)).mono ?_; rintro e w1 ⟨rfl, rfl⟩)
  go_quiet ((go_at_call 47; exact Calls.quiet_of_same (eMath_calls _ fl m _ (hE1 _))))
  go_wp2
  go_ret
  exact ⟨rfl, below_drewN ((Below.refl _ _).alloc (Nat.le_refl _) _) nq⟩
end Go.Proofs.YtoamnimepkodeabDoor
