/- notation.Number of at most three digits. -/
import Derived.Test.YtfiocnjogbpgoaaGreatDoorKkLaneC
import Derived.Test.YtfiocnjogbpgoaaGreatDoorKkNmB
import Derived.Lib.Strings
namespace Go.Proofs.YtfiocnjogbpgoaaGreatDoor
open Go.RowKit

end Go.Proofs.YtfiocnjogbpgoaaGreatDoor
