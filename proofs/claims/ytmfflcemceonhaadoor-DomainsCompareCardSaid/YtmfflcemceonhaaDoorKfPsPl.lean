/- What strings say, as functions on lists of bytes: numbers to base 10 and 16. -/
import Derived.Test.YtmfflcemceonhaaDoorKfTxtPl
namespace Go.Proofs.YtmfflcemceonhaaDoor

def isDig (c : UInt8) : Bool := decide (48 ≤ (c.toNat : Int)) && decide ((c.toNat : Int) ≤ 57)
end Go.Proofs.YtmfflcemceonhaaDoor
