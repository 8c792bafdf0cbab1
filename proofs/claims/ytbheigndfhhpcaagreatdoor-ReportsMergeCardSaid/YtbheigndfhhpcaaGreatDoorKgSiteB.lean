/- Sites: Via, ViaOf. -/
import Derived.Test.YtbheigndfhhpcaaGreatDoorKgStC
import Derived.Test.YtbheigndfhhpcaaGreatDoorKgSiteA
namespace Go.Proofs.YtbheigndfhhpcaaGreatDoor
open Go.RowKit

end Go.Proofs.YtbheigndfhhpcaaGreatDoor
