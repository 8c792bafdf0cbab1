/- Sites: Via, ViaOf. -/
import Derived.Test.YtfbggfpihiegpaaGreatDoorKpMdD
import Derived.Test.YtfbggfpihiegpaaGreatDoorKpSiteA
namespace Go.Proofs.YtfbggfpihiegpaaGreatDoor
open Go.RowKit

end Go.Proofs.YtfbggfpihiegpaaGreatDoor
