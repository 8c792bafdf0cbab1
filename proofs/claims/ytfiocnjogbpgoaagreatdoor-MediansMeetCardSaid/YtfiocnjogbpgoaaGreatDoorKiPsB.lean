/- strings.Split at one byte; four numbers with points between. -/
import Derived.Test.YtfiocnjogbpgoaaGreatDoorKiCons
import Derived.Test.YtfiocnjogbpgoaaGreatDoorKiPsA
namespace Go.Proofs.YtfiocnjogbpgoaaGreatDoor
open Go.RowKit

end Go.Proofs.YtfiocnjogbpgoaaGreatDoor
