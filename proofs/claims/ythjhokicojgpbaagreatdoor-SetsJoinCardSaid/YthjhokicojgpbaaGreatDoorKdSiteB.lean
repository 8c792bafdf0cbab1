/- Sites: Via, ViaOf. -/
import Derived.Test.YthjhokicojgpbaaGreatDoorKdStC
import Derived.Test.YthjhokicojgpbaaGreatDoorKdSiteA
namespace Go.Proofs.YthjhokicojgpbaaGreatDoor
open Go.RowKit

end Go.Proofs.YthjhokicojgpbaaGreatDoor
