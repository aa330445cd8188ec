/- The walks of Cut. -/
import Derived.Test.YtmibejihmdkgaaaDoorDCut
namespace Go.Proofs.YtmibejihmdkgaaaDoor
open Go.RowKit

attribute [local go_sem ↓] Go.wp_at_zero Go.wp_at_succ