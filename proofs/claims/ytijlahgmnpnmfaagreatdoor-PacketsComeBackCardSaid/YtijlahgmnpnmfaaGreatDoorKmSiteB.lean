/- Sites: Via, ViaOf. -/
import Derived.Test.YtijlahgmnpnmfaaGreatDoorKmMdD
import Derived.Test.YtijlahgmnpnmfaaGreatDoorKmSiteA
namespace Go.Proofs.YtijlahgmnpnmfaaGreatDoor
open Go.RowKit

end Go.Proofs.YtijlahgmnpnmfaaGreatDoor
