/- Plain arithmetic: numbers of 128 bits and their digits of 2^16; their low bits cleared, or set. It knows nothing of any program. -/
namespace Go.Proofs.YtmfflcemceonhaaDoor
end Go.Proofs.YtmfflcemceonhaaDoor
