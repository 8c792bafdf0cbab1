/- Reports: a number of an address, with what it draws told. -/
import Derived.Test.YtfpcalgkfagjkaaGreatDoorKrWideB
import Derived.Test.YtfpcalgkfagjkaaGreatDoorKrWaysD
set_option linter.unusedVariables false
set_option linter.unusedSimpArgs false
set_option maxRecDepth 100000
namespace Go.Proofs.YtfpcalgkfagjkaaGreatDoor
open Go.RowKit

set_option maxHeartbeats 2000000 in
theorem ofI_d (s : Bool) (hi lo : Int) (w : World) (h1 : 0 ≤ hi) (h2 : hi < 18446744073709551616) (h3 : 0 ≤ lo) (h4 : lo < 18446744073709551616) :
    Calls Tryz.prog 44 #[.agg #[.bool s, .int .u64 hi, .int .u64 lo]] w (fun e w' => e = .returned (wV (num hi lo) s) ∧ Gd w w') := by
  have H := Lib.hid (of_eq hi lo h1 h2 h3 h4 s _ rfl)
  cases s
  all_goals
    go_enter Tryz.func44, Tryz.ntmps44
    go_wp2_with fail
    refine wp_loop_rounds 5 ?_
    rw [rounds_succ]
    go_wp2_with fail
    rw [rounds_succ]
    go_wp2_with fail
    rw [rounds_succ]
    go_wp2_with fail
    rw [rounds_succ]
    go_wp2_with fail
    rw [rounds_succ]
    go_wp2_with fail
    refine bodyPost_ret ?_ rfl ⟨congrArg Ending.returned H.out, ?_⟩
    · simp [results, Tryz.results44, go_sem, b2i_true, b2i_false]
    · refine Gd.alloc ?_ _
      refine Gd.alloc ?_ _
      exact (Gd.refl _).alloc _
end Go.Proofs.YtfpcalgkfagjkaaGreatDoor
