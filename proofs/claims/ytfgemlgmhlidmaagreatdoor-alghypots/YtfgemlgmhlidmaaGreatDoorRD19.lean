/- The document's dyadic numbers: Order, Cmp, Size, TopOf; the program's Cmp, Size, Top in the same words. -/
import Derived.Test.YtfgemlgmhlidmaaGreatDoorTMQ
import Derived.Test.YtfgemlgmhlidmaaGreatDoorTMR
namespace Go.Proofs.YtfgemlgmhlidmaaGreatDoor
open Go.RowKit
attribute [local go_sem ↓] Go.wp_at_zero Go.wp_at_succ
theorem top_form (s : Bool) {m : Nat} (e : Int) (h0 : m ≠ 0) : (formD s m e).2.2 + (blen (formD s m e).2.1 : Int) - 1 = e + (blen m : Int) - 1 := by
  have := blen_odd h0
  rw [form_pos s h0]
  show e + (tz m : Int) + (blen (m / 2 ^ tz m) : Int) - 1 = _
  omega
def ftE (m : Nat) (e : Int) : Int := if rightB m e = true then (if m = 0 then 5 else 0) else 2
def tpV (m : Nat) (e : Int) : Int := if ftE m e = 0 then e + (blen m : Int) - 1 else 0
end Go.Proofs.YtfgemlgmhlidmaaGreatDoor
