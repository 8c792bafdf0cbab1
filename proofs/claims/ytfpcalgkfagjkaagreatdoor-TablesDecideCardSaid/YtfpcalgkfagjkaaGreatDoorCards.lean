/-
  DERIVED. GIVEN WITH THE SEED: THE CARDS: each row of YtfpcalgkfagjkaaGreatDoorRows.lean that lists a variable, with what it lists TIED to the program's text (the seventh form; the later family's looks); each row that meets fmt, with fmt's text TOLD by the authors' own Lean function (tested against real Go, not proved from fmt's source: count such statements apart). THE CARD IS WHAT COUNTS. Prove the row's statement (the work); the ties are given (YtfpcalgkfagjkaaGreatDoorTie.lean); close each card by the builder's one call (the guide's Derived/Test/ToyasCard.lean, 'card_holds'). Laid BY PROGRAM, IN A SANDBOX (cutbox-door.mjs). By AI agents, Wed Nov 11 2026. No macro, syntax, notation, axiom, sorry.
-/
import Derived.Test.YtfpcalgkfagjkaaGreatDoorRows
import GoSem.ClaimSeven
namespace Go.Proofs.YtfpcalgkfagjkaaGreatDoor
namespace Rows

/-- THE TIED CARD OF 'lanelaw2.TablesDecide'. -/
def tablesDecideCard : Claim7 := { stood := { row := tablesDecideRow, standIns := [], harness := (true, "dcf129118000f45d3ff731a6c18e6ae657fcaad8477488df8da39e6cbf3333b5"), looks := false }, kinds := [], alts := [], laidByText := true, laidKinds := [.data, .data, .data, .data, .pinned], laidTests := true, laidLooks := .later }
def TablesDecideCardSaid : Prop := Claim7.holds Tryz.pinned (.plain (OpenSpec.ofChange tablesDecideSpec)) tablesDecideCard

/-- THE SECOND FORM's CARD OF 'lanelaw2.TablesDecide'. -/
def tablesDecideUptoCard : Claim7 := { stood := { row := tablesDecideUptoRow, standIns := [], harness := (true, "dcf129118000f45d3ff731a6c18e6ae657fcaad8477488df8da39e6cbf3333b5"), looks := false }, kinds := [], alts := [], laidByText := true, laidKinds := [.data, .data, .data, .data, .pinned], laidTests := true, laidLooks := .later }
def TablesDecideUptoCardSaid : Prop := Claim7.holds Tryz.pinned (.plain (OpenSpec.upto tablesDecideSpec)) tablesDecideUptoCard
end Rows
end Go.Proofs.YtfpcalgkfagjkaaGreatDoor
