/-
  DERIVED. GIVEN WITH THE SEED: THE CARDS: each row of YtilgjgdppfnefaaGreatDoorRows.lean that lists a variable, with what it lists TIED to the program's text (the seventh form; the later family's looks); each row that meets fmt, with fmt's text TOLD by the authors' own Lean function (tested against real Go, not proved from fmt's source: count such statements apart). THE CARD IS WHAT COUNTS. Prove the row's statement (the work); the ties are given (YtilgjgdppfnefaaGreatDoorTie.lean); close each card by the builder's one call (the guide's Derived/Test/ToyasCard.lean, 'card_holds'). Laid BY PROGRAM, IN A SANDBOX (cutbox-door.mjs). By AI agents, Wed Nov 11 2026. No macro, syntax, notation, axiom, sorry.
-/
import Derived.Test.YtilgjgdppfnefaaGreatDoorRows
import GoSem.ClaimSeven
namespace Go.Proofs.YtilgjgdppfnefaaGreatDoor
namespace Rows

/-- THE TIED CARD OF 'lanelaw2.ReportsMerge'. -/
def reportsMergeCard : Claim7 := { stood := { row := reportsMergeRow, standIns := [], harness := (true, "986a7651fddaf2bbb08eb644e051da549fdba57718963e3ee9b6dcc03d42ce05"), looks := false }, kinds := [], alts := [], laidByText := true, laidKinds := [.data, .pinned], laidTests := true, laidLooks := .later }
def ReportsMergeCardSaid : Prop := Claim7.holds Tryz.pinned (.plain (OpenSpec.ofChange reportsMergeSpec)) reportsMergeCard

/-- THE TIED CARD OF 'lanelaw2.ReportsThin'. -/
def reportsThinCard : Claim7 := { stood := { row := reportsThinRow, standIns := [], harness := (true, "986a7651fddaf2bbb08eb644e051da549fdba57718963e3ee9b6dcc03d42ce05"), looks := false }, kinds := [], alts := [], laidByText := true, laidKinds := [.data, .pinned], laidTests := true, laidLooks := .later }
def ReportsThinCardSaid : Prop := Claim7.holds Tryz.pinned (.plain (OpenSpec.ofChange reportsThinSpec)) reportsThinCard

/-- THE SECOND FORM's CARD OF 'lanelaw2.ReportsMerge'. -/
def reportsMergeUptoCard : Claim7 := { stood := { row := reportsMergeUptoRow, standIns := [], harness := (true, "986a7651fddaf2bbb08eb644e051da549fdba57718963e3ee9b6dcc03d42ce05"), looks := false }, kinds := [], alts := [], laidByText := true, laidKinds := [.data, .pinned], laidTests := true, laidLooks := .later }
def ReportsMergeUptoCardSaid : Prop := Claim7.holds Tryz.pinned (.plain (OpenSpec.upto reportsMergeSpec)) reportsMergeUptoCard

/-- THE SECOND FORM's CARD OF 'lanelaw2.ReportsThin'. -/
def reportsThinUptoCard : Claim7 := { stood := { row := reportsThinUptoRow, standIns := [], harness := (true, "986a7651fddaf2bbb08eb644e051da549fdba57718963e3ee9b6dcc03d42ce05"), looks := false }, kinds := [], alts := [], laidByText := true, laidKinds := [.data, .pinned], laidTests := true, laidLooks := .later }
def ReportsThinUptoCardSaid : Prop := Claim7.holds Tryz.pinned (.plain (OpenSpec.upto reportsThinSpec)) reportsThinUptoCard
end Rows
end Go.Proofs.YtilgjgdppfnefaaGreatDoor
