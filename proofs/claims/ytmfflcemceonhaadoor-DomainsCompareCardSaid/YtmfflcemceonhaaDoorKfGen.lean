/- Frames between worlds, as the walks of regions need them. -/
import Derived.Test.YtmfflcemceonhaaDoorKfLaneA
namespace Go.Proofs.YtmfflcemceonhaaDoor
open Go.RowKit

theorem gbB {u u' : World} {r : Option Nat} (h : Below u.heap.size u u') : u.grownBy u' r := gb_below (gb_refl u r) h
end Go.Proofs.YtmfflcemceonhaaDoor
