/- The walks of the document's products. The walk of the document's Mul. -/
import Derived.Test.YtognliaoonkmiaaGreatDoorNMM
import Derived.Test.YtognliaoonkmiaaGreatDoorNAR
import Derived.Deep.LoopGhost

namespace Go.Proofs.YtognliaoonkmiaaGreatDoor
open Go.RowKit

end Go.Proofs.YtognliaoonkmiaaGreatDoor

namespace Go.Proofs.YtognliaoonkmiaaGreatDoor
open Go.RowKit

end Go.Proofs.YtognliaoonkmiaaGreatDoor
