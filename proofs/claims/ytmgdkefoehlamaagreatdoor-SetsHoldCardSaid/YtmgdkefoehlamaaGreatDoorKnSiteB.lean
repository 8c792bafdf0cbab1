/- Sites: Via, ViaOf. -/
import Derived.Test.YtmgdkefoehlamaaGreatDoorKnMdD
import Derived.Test.YtmgdkefoehlamaaGreatDoorKnLaneD
namespace Go.Proofs.YtmgdkefoehlamaaGreatDoor
open Go.RowKit

end Go.Proofs.YtmgdkefoehlamaaGreatDoor
