/- Sites: Via, ViaOf. -/
import Derived.Test.YtilgjgdppfnefaaGreatDoorKhItA
import Derived.Test.YtilgjgdppfnefaaGreatDoorKhSiteA
namespace Go.Proofs.YtilgjgdppfnefaaGreatDoor
open Go.RowKit

end Go.Proofs.YtilgjgdppfnefaaGreatDoor
