/- notation.Number of at most three digits. -/
import Derived.Test.YtmgdkefoehlamaaGreatDoorKoWays
import Derived.Test.YtmgdkefoehlamaaGreatDoorKoNmB
import Derived.Lib.Strings
namespace Go.Proofs.YtmgdkefoehlamaaGreatDoor
open Go.RowKit

end Go.Proofs.YtmgdkefoehlamaaGreatDoor
