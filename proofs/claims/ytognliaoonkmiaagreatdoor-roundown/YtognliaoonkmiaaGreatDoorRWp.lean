/- Intervals that are decided: what lies in them, what lies in a wider one. -/
import Derived.Test.YtognliaoonkmiaaGreatDoorRMX
import Derived.Test.YtognliaoonkmiaaGreatDoorRW1
namespace Go.Proofs.YtognliaoonkmiaaGreatDoor
open Go.RowKit

end Go.Proofs.YtognliaoonkmiaaGreatDoor
