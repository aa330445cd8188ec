/- The document's dyadic numbers: Order, Cmp, Size, TopOf; the program's Cmp, Size, Top in the same words. -/
import Derived.Test.YtbilpmncimfmjaaGreatDoorTMQ
import Derived.Test.YtbilpmncimfmjaaGreatDoorTMR
namespace Go.Proofs.YtbilpmncimfmjaaGreatDoor
open Go.RowKit

attribute [local go_sem ↓] Go.wp_at_zero Go.wp_at_succ

end Go.Proofs.YtbilpmncimfmjaaGreatDoor
