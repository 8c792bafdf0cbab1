/- Sites: Via, ViaOf, Site, SiteOf; errs, when. -/
import Derived.Test.YtijlahgmnpnmfaaGreatDoorKmAddressed
namespace Go.Proofs.YtijlahgmnpnmfaaGreatDoor
open Go.RowKit

end Go.Proofs.YtijlahgmnpnmfaaGreatDoor
namespace Go.Proofs.YtijlahgmnpnmfaaGreatDoor
open Go.RowKit

end Go.Proofs.YtijlahgmnpnmfaaGreatDoor
namespace Go.Proofs.YtijlahgmnpnmfaaGreatDoor
open Go.RowKit

/-- The first of some errors. -/
def firstZ : List Int → Int
  | [] => 0
  | e :: r => if e = 0 then firstZ r else e

end Go.Proofs.YtijlahgmnpnmfaaGreatDoor
