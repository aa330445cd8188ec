/- Floats that came in (a row without a card). -/
import Derived.Test.YtgghojlijchblaaRows
import Derived.Test.YtgghojlijchblaaChecked
import Derived.RowKit
import Derived.ProofKit
import Derived.LaidMore
import Derived.OpenShut
import Derived.Stop.Joined
import Derived.Lib.SmallJoins
import Derived.SizedLaws
import Derived.KernelRfl
import Derived.Deep.DeepHandedRow
namespace Go.Proofs.Ytgghojlijchblaa
open Go.ChangeShapes Go.WideShapes Go.ChangeAt Go.RowKit

theorem own : ownKnob Try.prog.godebug = none := by kernel_rfl
theorem laidOut : laidOutB Try.prog = true := by kernel_rfl
end Go.Proofs.Ytgghojlijchblaa
