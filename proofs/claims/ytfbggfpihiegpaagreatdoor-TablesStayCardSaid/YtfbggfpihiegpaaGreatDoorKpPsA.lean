/- notation.Number of at most three digits. -/
import Derived.Test.YtfbggfpihiegpaaGreatDoorKpStB
import Derived.Test.YtfbggfpihiegpaaGreatDoorKpNmB
import Derived.Lib.Strings
namespace Go.Proofs.YtfbggfpihiegpaaGreatDoor
open Go.RowKit

end Go.Proofs.YtfbggfpihiegpaaGreatDoor
