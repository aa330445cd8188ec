/- The walks of the document's products. The walk of the document's Mul. The document's dyadic numbers: the product. The document's dyadic numbers: Add, Sub, Mul; the program's in the same words. The document's dyadic numbers: Trim. The document's dyadic numbers: Cut; the program's Cut in the same words. -/
import Derived.Test.YtbilpmncimfmjaaGreatDoorNMX
import Derived.Test.YtbilpmncimfmjaaGreatDoorTMH
import Derived.Deep.LoopGhost
import Derived.Test.YtbilpmncimfmjaaGreatDoorRD13
import Derived.Test.YtbilpmncimfmjaaGreatDoorTMJ
import Derived.Test.YtbilpmncimfmjaaGreatDoorTMQ
import Derived.Test.YtbilpmncimfmjaaGreatDoorTMF

namespace Go.Proofs.YtbilpmncimfmjaaGreatDoor
open Go.RowKit

end Go.Proofs.YtbilpmncimfmjaaGreatDoor

namespace Go.Proofs.YtbilpmncimfmjaaGreatDoor
open Go.RowKit

end Go.Proofs.YtbilpmncimfmjaaGreatDoor

namespace Go.Proofs.YtbilpmncimfmjaaGreatDoor
open Go.RowKit

attribute [local go_sem ↓] Go.wp_at_zero Go.wp_at_succ

end Go.Proofs.YtbilpmncimfmjaaGreatDoor

namespace Go.Proofs.YtbilpmncimfmjaaGreatDoor
open Go.RowKit

def twE (b : Bool) (p : Bool × Nat × Int) : Int := if b = true then roomE p else 2
def twP (b : Bool) (p : Bool × Nat × Int) : Bool × Nat × Int := if b = true then roomP p else (false, 0, 0)

theorem pSub_calls (s : Bool) (a : Option Addr) (len cap : Nat) (xs : List Int) (e : Int) (t : Bool) (b : Option Addr) (len' cap' : Nat) (ys : List Int) (f : Int) (w : World) (h : IsW w a len cap xs) (hm : len ≤ 17592186044000) (h' : IsW w b len' cap' ys) (hm' : len' ≤ 17592186044000) (hT : Tab w) :
    Calls Tryz.prog 23 #[dyV s a len cap e, dyV t b len' cap' f] w fun r w' => ∃ v', r = .returned (.tuple #[v', .int .i64 (twE (rightB (val xs) e && rightB (val ys) f) (sumD (formD s (val xs) e) (negD (formD t (val ys) f))))]) ∧ DyAt w.heap.size w' v' (twP (rightB (val xs) e && rightB (val ys) f) (sumD (formD s (val xs) e) (negD (formD t (val ys) f)))) ∧ Below w.heap.size w w' := by
  cases hr : (rightB (val xs) e && rightB (val ys) f) with
  | false =>
    refine (dsub_not s a len cap xs e t b len' cap' ys f w h (by omega) h' (by omega) hr).mono ?_
    rintro r w' ⟨rfl, hb⟩
    exact ⟨_, rfl, dyAt_zero _ _, hb⟩
  | true =>
    obtain ⟨r1, r2⟩ := Bool.and_eq_true_iff.1 hr
    exact dsub_yes s a len cap xs e t b len' cap' ys f w h (by omega) h' (by omega) hT r1 r2

end Go.Proofs.YtbilpmncimfmjaaGreatDoor

namespace Go.Proofs.YtbilpmncimfmjaaGreatDoor
open Go.RowKit

end Go.Proofs.YtbilpmncimfmjaaGreatDoor

namespace Go.Proofs.YtbilpmncimfmjaaGreatDoor
open Go.RowKit

end Go.Proofs.YtbilpmncimfmjaaGreatDoor
