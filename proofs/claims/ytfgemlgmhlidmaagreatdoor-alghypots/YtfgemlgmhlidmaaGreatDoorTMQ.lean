/- The program's Shift. The document's dyadic numbers, fourth part: Neg, Twice, Shift; the program's Neg, Abs, Shift in the same words. The document's dyadic numbers: the difference. The document's dyadic numbers: Sign, Top, Order, Cmp, Bits, Size, TopOf. -/
import Derived.Test.YtfgemlgmhlidmaaGreatDoorTMF
import Derived.Test.YtfgemlgmhlidmaaGreatDoorTMH
import Derived.Test.YtfgemlgmhlidmaaGreatDoorRD13
import Derived.Test.YtfgemlgmhlidmaaGreatDoorDCmp2

namespace Go.Proofs.YtfgemlgmhlidmaaGreatDoor
open Go.RowKit
attribute [local go_sem ↓] Go.wp_at_zero Go.wp_at_succ
end Go.Proofs.YtfgemlgmhlidmaaGreatDoor

namespace Go.Proofs.YtfgemlgmhlidmaaGreatDoor
open Go.RowKit
end Go.Proofs.YtfgemlgmhlidmaaGreatDoor

namespace Go.Proofs.YtfgemlgmhlidmaaGreatDoor
open Go.RowKit
attribute [local go_sem ↓] Go.wp_at_zero Go.wp_at_succ
end Go.Proofs.YtfgemlgmhlidmaaGreatDoor

namespace Go.Proofs.YtfgemlgmhlidmaaGreatDoor
open Go.RowKit
attribute [local go_sem ↓] Go.wp_at_zero Go.wp_at_succ
theorem blen_odd {m : Nat} (h0 : m ≠ 0) : blen m = tz m + blen (m / 2 ^ tz m) := by
  have h1 := (odd_part h0).1
  have h2 := (odd_part h0).2
  have h3 := blen_mul (m / 2 ^ tz m) (tz m) (fun q => by rw [q] at h1; exact absurd h1 (by decide))
  rw [h2] at h3
  exact h3
end Go.Proofs.YtfgemlgmhlidmaaGreatDoor
