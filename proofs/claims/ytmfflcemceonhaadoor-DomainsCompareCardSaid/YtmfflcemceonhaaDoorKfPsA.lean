/- notation.Number of at most three digits. -/
import Derived.Test.YtmfflcemceonhaaDoorKfLaneA
import Derived.Test.YtmfflcemceonhaaDoorKfPsPl
import Derived.Lib.Strings
namespace Go.Proofs.YtmfflcemceonhaaDoor
open Go.RowKit

set_option maxHeartbeats 400000 in
theorem isDigit_any (c : UInt8) (w : World) : Calls Tryd.prog 62 #[.int .u8 (c.toNat : Int)] w fun e w' => e = .returned (.bool (isDig c)) ∧ w = w' := by
  by_cases h1 : 48 ≤ (c.toNat : Int)
  · by_cases h2 : (c.toNat : Int) ≤ 57
    · have HD := Lib.hid (show isDig c = true by unfold isDig; rw [decide_eq_true h1, decide_eq_true h2]; rfl)
      go_enter Tryd.func62, Tryd.ntmps62
      go_wp2_with fail
      go_ret
      exact ⟨by rw [HD.out]; rfl, rfl⟩
    · have HD := Lib.hid (show isDig c = false by unfold isDig; rw [decide_eq_true h1, decide_eq_false h2]; rfl)
      go_enter Tryd.func62, Tryd.ntmps62
      go_wp2_with fail
      go_ret
      exact ⟨by rw [HD.out]; rfl, rfl⟩
  · have HD := Lib.hid (show isDig c = false by unfold isDig; rw [decide_eq_false h1]; rfl)
    go_enter Tryd.func62, Tryd.ntmps62
    go_wp2_with fail
    go_ret
    exact ⟨by rw [HD.out]; rfl, rfl⟩

end Go.Proofs.YtmfflcemceonhaaDoor
