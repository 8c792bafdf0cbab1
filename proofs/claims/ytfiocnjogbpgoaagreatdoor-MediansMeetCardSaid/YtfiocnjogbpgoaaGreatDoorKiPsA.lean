/- notation.Number of at most three digits. -/
import Derived.Test.YtfiocnjogbpgoaaGreatDoorKiStB
import Derived.Test.YtfiocnjogbpgoaaGreatDoorKiNmB
import Derived.Lib.Strings
namespace Go.Proofs.YtfiocnjogbpgoaaGreatDoor
open Go.RowKit

end Go.Proofs.YtfiocnjogbpgoaaGreatDoor
