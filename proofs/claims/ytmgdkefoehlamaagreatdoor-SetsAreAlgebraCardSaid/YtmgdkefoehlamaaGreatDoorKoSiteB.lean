/- Sites: Via, ViaOf. -/
import Derived.Test.YtmgdkefoehlamaaGreatDoorKoMdD
import Derived.Test.YtmgdkefoehlamaaGreatDoorKoLaneD
namespace Go.Proofs.YtmgdkefoehlamaaGreatDoor
open Go.RowKit

end Go.Proofs.YtmgdkefoehlamaaGreatDoor
