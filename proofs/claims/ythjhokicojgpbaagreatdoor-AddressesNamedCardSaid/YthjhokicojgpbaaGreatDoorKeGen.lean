/- Frames between worlds, as the walks of regions need them. -/
import Derived.Test.YthjhokicojgpbaaGreatDoorKeLaneA
namespace Go.Proofs.YthjhokicojgpbaaGreatDoor
open Go.RowKit

theorem gbB {u u' : World} {r : Option Nat} (h : Below u.heap.size u u') : u.grownBy u' r := gb_below (gb_refl u r) h
end Go.Proofs.YthjhokicojgpbaaGreatDoor
