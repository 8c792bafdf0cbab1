/- What a stream makes: raw addresses. -/
import Derived.Test.YtfbggfpihiegpaaGreatDoorKpLaneAddr
namespace Go.Proofs.YtfbggfpihiegpaaGreatDoor
open Go.RowKit

end Go.Proofs.YtfbggfpihiegpaaGreatDoor
