/- The program's Shift. The document's dyadic numbers, fourth part: Neg, Twice, Shift; the program's Neg, Abs, Shift in the same words. The document's dyadic numbers: the difference. The document's dyadic numbers: Sign, Top, Order, Cmp, Bits, Size, TopOf. -/
import Derived.Test.YtbilpmncimfmjaaGreatDoorTMF
import Derived.Test.YtbilpmncimfmjaaGreatDoorTMH
import Derived.Test.YtbilpmncimfmjaaGreatDoorRD13
import Derived.Test.YtbilpmncimfmjaaGreatDoorDCmp2

namespace Go.Proofs.YtbilpmncimfmjaaGreatDoor
open Go.RowKit

attribute [local go_sem ↓] Go.wp_at_zero Go.wp_at_succ

end Go.Proofs.YtbilpmncimfmjaaGreatDoor

namespace Go.Proofs.YtbilpmncimfmjaaGreatDoor
open Go.RowKit

end Go.Proofs.YtbilpmncimfmjaaGreatDoor

namespace Go.Proofs.YtbilpmncimfmjaaGreatDoor
open Go.RowKit

attribute [local go_sem ↓] Go.wp_at_zero Go.wp_at_succ

end Go.Proofs.YtbilpmncimfmjaaGreatDoor

namespace Go.Proofs.YtbilpmncimfmjaaGreatDoor
open Go.RowKit

attribute [local go_sem ↓] Go.wp_at_zero Go.wp_at_succ

end Go.Proofs.YtbilpmncimfmjaaGreatDoor
