/- Sites: Via, ViaOf. -/
import Derived.Test.YtfiocnjogbpgoaaGreatDoorKkMdD
import Derived.Test.YtfiocnjogbpgoaaGreatDoorKkSiteA
namespace Go.Proofs.YtfiocnjogbpgoaaGreatDoor
open Go.RowKit

end Go.Proofs.YtfiocnjogbpgoaaGreatDoor
