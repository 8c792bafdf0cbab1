/- notation.Number of at most three digits. -/
import Derived.Test.YtijlahgmnpnmfaaGreatDoorKmWaysB
import Derived.Test.YtijlahgmnpnmfaaGreatDoorKmNmB
import Derived.Lib.Strings
namespace Go.Proofs.YtijlahgmnpnmfaaGreatDoor
open Go.RowKit

end Go.Proofs.YtijlahgmnpnmfaaGreatDoor
