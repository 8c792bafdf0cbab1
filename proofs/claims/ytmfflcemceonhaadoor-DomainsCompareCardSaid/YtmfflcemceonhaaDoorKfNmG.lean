/- Lists of strings. -/
import Derived.Test.YtmfflcemceonhaaDoorKfStC
import Derived.Test.YtmfflcemceonhaaDoorKfWaysB
import Derived.Test.YtmfflcemceonhaaDoorKfNmD
import Derived.Lib.AppendZerosOnto
import Derived.Laws.AppendOwnNone
namespace Go.Proofs.YtmfflcemceonhaaDoor
open Go.RowKit
set_option linter.unusedVariables false
set_option linter.unusedSimpArgs false

/-- A string. -/
def eStr : Enc (List UInt8) := ⟨fun l => [.string ⟨l.toArray⟩], 1, by decide, fun _ => rfl, fun x v hv => by rw [List.mem_singleton.1 hv]; rfl⟩
theorem cells_str (ls : List (List UInt8)) : eStr.cells ls = ls.map sv := by
  induction ls with
  | nil => rfl
  | cons x r ih =>
    show eStr.cells (x :: r) = sv x :: r.map sv
    rw [← ih]
    rfl
end Go.Proofs.YtmfflcemceonhaaDoor
