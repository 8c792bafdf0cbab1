/- strings.Split at one byte; four numbers with points between. -/
import Derived.Test.YtmgdkefoehlamaaGreatDoorKoCons
import Derived.Test.YtmgdkefoehlamaaGreatDoorKoPsA
namespace Go.Proofs.YtmgdkefoehlamaaGreatDoor
open Go.RowKit

end Go.Proofs.YtmgdkefoehlamaaGreatDoor
