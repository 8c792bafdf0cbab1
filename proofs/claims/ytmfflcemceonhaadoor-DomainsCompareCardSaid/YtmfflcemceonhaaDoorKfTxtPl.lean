/- Texts of addresses: the numeral of a group, the longest row of zeros as the program and as the reference seek it. -/
import Derived.Lib.Join
import Derived.Lib.ItoaNum
namespace Go.Proofs.YtmfflcemceonhaaDoor

end Go.Proofs.YtmfflcemceonhaaDoor
