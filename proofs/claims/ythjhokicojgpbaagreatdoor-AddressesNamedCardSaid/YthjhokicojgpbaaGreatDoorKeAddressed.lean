/- Package addr writes addresses: Text of the address 1 is as it must be. -/
import Derived.Test.YthjhokicojgpbaaGreatDoorKeOwnA
import Derived.Test.YthjhokicojgpbaaGreatDoorKeShelf
namespace Go.Proofs.YthjhokicojgpbaaGreatDoor
open Go.RowKit

end Go.Proofs.YthjhokicojgpbaaGreatDoor
