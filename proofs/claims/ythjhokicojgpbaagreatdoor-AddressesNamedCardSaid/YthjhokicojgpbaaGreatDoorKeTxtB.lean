/- The longest row of zeros, as the program finds it. -/
import Derived.Test.YthjhokicojgpbaaGreatDoorKeTxtA
namespace Go.Proofs.YthjhokicojgpbaaGreatDoor
open Go.RowKit

end Go.Proofs.YthjhokicojgpbaaGreatDoor
