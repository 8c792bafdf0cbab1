/-
  DERIVED. GIVEN WITH THE SEED: THE CARDS: each row of YtkldcmmlllkhkaaGreatDoorRows.lean that lists a variable, with what it lists TIED to the program's text (the seventh form; the later family's looks); each row that meets fmt, with fmt's text TOLD by the authors' own Lean function (tested against real Go, not proved from fmt's source: count such statements apart). THE CARD IS WHAT COUNTS. Prove the row's statement (the work); the ties are given (YtkldcmmlllkhkaaGreatDoorTie.lean); close each card by the builder's one call (the guide's Derived/Test/ToyasCard.lean, 'card_holds'). Laid BY PROGRAM, IN A SANDBOX (cutbox-door.mjs). By AI agents, Wed Nov 11 2026. No macro, syntax, notation, axiom, sorry.
-/
import Derived.Test.YtkldcmmlllkhkaaGreatDoorRows
import GoSem.ClaimSeven
namespace Go.Proofs.YtkldcmmlllkhkaaGreatDoor
namespace Rows

/-- THE TIED CARD OF 'lanelaw2.SetTexts'. -/
def setTextsCard : Claim7 := { stood := { row := setTextsRow, standIns := [], harness := (true, "65ebd66dc4e49cc0fac8bc9527b3dcbbd9f8afeee43408b19612ad799b44a07d"), looks := true }, kinds := [], alts := [], laidByText := true, laidKinds := [.data, .data, .data, .data, .sentinel, .sentinel, .pinned], laidTests := true, laidLooks := .later }
def SetTextsCardSaid : Prop := Claim7.holds Tryz.pinned (.plain (OpenSpec.ofChange setTextsSpec)) setTextsCard

/-- THE SECOND FORM's CARD OF 'lanelaw2.SetTexts'. -/
def setTextsUptoCard : Claim7 := { stood := { row := setTextsUptoRow, standIns := [], harness := (true, "65ebd66dc4e49cc0fac8bc9527b3dcbbd9f8afeee43408b19612ad799b44a07d"), looks := true }, kinds := [], alts := [], laidByText := true, laidKinds := [.data, .data, .data, .data, .sentinel, .sentinel, .pinned], laidTests := true, laidLooks := .later }
def SetTextsUptoCardSaid : Prop := Claim7.holds Tryz.pinned (.plain (OpenSpec.upto setTextsSpec)) setTextsUptoCard
end Rows
end Go.Proofs.YtkldcmmlllkhkaaGreatDoor
