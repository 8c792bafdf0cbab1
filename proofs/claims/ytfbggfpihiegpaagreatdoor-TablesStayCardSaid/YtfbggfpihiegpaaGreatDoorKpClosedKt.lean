/- TablesStay: closed facts of its card. -/
import Derived.Test.YtfbggfpihiegpaaGreatDoorTie
import Derived.Test.YtfbggfpihiegpaaGreatDoorCards
import GoSem.ClaimGoes
import Derived.ProofKit
import Derived.LaidMore
import Derived.OpenShut
import Derived.Stop.Joined
import Derived.Stop.LaidErr
import Derived.ShutString
import Derived.ChangeOld
import Derived.Below
import Derived.Deep.RegionHeld
import Derived.SevenTiedAt
import Derived.Lib.LaidTab
import Derived.LaidSub
import Derived.Lay
import Derived.MakeChecks
import Derived.Shelf.Vars
namespace Go.Proofs.YtfbggfpihiegpaaGreatDoor
open Go.ChangeShapes Go.WideShapes Go.ChangeAt Go.WideElems Go.RowKit

set_option maxHeartbeats 40000000 in
theorem tablesStay_closed : joinedFacts Tryz.prog 3 Tryz.f3 Rows.tablesStaySpec Rows.tablesStayRow = true := by
  unfold joinedFacts
  simp only [Bool.and_eq_true]
  repeat' apply And.intro
  all_goals (as_aux_lemma => kernel_rfl)
end Go.Proofs.YtfbggfpihiegpaaGreatDoor
