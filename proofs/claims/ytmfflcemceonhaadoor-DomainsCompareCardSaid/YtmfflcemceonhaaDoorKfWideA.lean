/- Numbers of nine digits of 2^16: of. -/
import Derived.Test.YtmfflcemceonhaaDoorKfLaneA
import Derived.Test.YtmfflcemceonhaaDoorKfWidePl
namespace Go.Proofs.YtmfflcemceonhaaDoor
open Go.RowKit

/-- A value is returned; what was there is as it was. -/
def GivesV (v : Value) (w : World) (e : Ending) (w' : World) : Prop := e = .returned v ∧ Below w.heap.size w w'

end Go.Proofs.YtmfflcemceonhaaDoor
