/- Sites: Via, ViaOf. -/
import Derived.Test.YtfpcalgkfagjkaaGreatDoorKrMdB
import Derived.Test.YtfpcalgkfagjkaaGreatDoorKrSiteA
namespace Go.Proofs.YtfpcalgkfagjkaaGreatDoor
open Go.RowKit

end Go.Proofs.YtfpcalgkfagjkaaGreatDoor
