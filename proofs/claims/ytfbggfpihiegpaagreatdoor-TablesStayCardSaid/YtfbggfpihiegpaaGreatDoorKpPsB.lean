/- strings.Split at one byte; four numbers with points between. -/
import Derived.Test.YtfbggfpihiegpaaGreatDoorKpCons
import Derived.Test.YtfbggfpihiegpaaGreatDoorKpPsA
namespace Go.Proofs.YtfbggfpihiegpaaGreatDoor
open Go.RowKit

end Go.Proofs.YtfbggfpihiegpaaGreatDoor
