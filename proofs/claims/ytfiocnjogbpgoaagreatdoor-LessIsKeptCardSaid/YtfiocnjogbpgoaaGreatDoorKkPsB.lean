/- strings.Split at one byte; four numbers with points between. -/
import Derived.Test.YtfiocnjogbpgoaaGreatDoorKkCons
import Derived.Test.YtfiocnjogbpgoaaGreatDoorKkPsA
namespace Go.Proofs.YtfiocnjogbpgoaaGreatDoor
open Go.RowKit

end Go.Proofs.YtfiocnjogbpgoaaGreatDoor
