/- A number of a byte: the reference's way (strconv.Atoi and back) against byteL. -/
import Derived.Test.YtmfflcemceonhaaDoorKfPsPl
import Derived.Lib.AtoiAll
import Derived.Lib.ItoaNum
namespace Go.Proofs.YtmfflcemceonhaaDoor

end Go.Proofs.YtmfflcemceonhaaDoor
