/- notation.Number of at most three digits. -/
import Derived.Test.YtmgdkefoehlamaaGreatDoorKnLaneC
import Derived.Test.YtmgdkefoehlamaaGreatDoorKnNmB
import Derived.Lib.Strings
namespace Go.Proofs.YtmgdkefoehlamaaGreatDoor
open Go.RowKit

end Go.Proofs.YtmgdkefoehlamaaGreatDoor
