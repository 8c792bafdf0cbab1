/-
  DERIVED. GIVEN WITH THE SEED: THE CARDS: each row of YtfiocnjogbpgoaaGreatDoorRows.lean that lists a variable, with what it lists TIED to the program's text (the seventh form; the later family's looks); each row that meets fmt, with fmt's text TOLD by the authors' own Lean function (tested against real Go, not proved from fmt's source: count such statements apart). THE CARD IS WHAT COUNTS. Prove the row's statement (the work); the ties are given (YtfiocnjogbpgoaaGreatDoorTie.lean); close each card by the builder's one call (the guide's Derived/Test/ToyasCard.lean, 'card_holds'). Laid BY PROGRAM, IN A SANDBOX (cutbox-door.mjs). By AI agents, Wed Nov 11 2026. No macro, syntax, notation, axiom, sorry.
-/
import Derived.Test.YtfiocnjogbpgoaaGreatDoorRows
import GoSem.ClaimSeven
namespace Go.Proofs.YtfiocnjogbpgoaaGreatDoor
namespace Rows

/-- THE TIED CARD OF 'lanekeep2.AddrsComeBack'. -/
def addrsComeBackCard : Claim7 := { stood := { row := addrsComeBackRow, standIns := [], harness := (true, "2b2ca51b69ca18784bbe60cbc2a5e843544fc78c996d86cf7da495b8de1be971"), looks := true }, kinds := [], alts := [], laidByText := true, laidKinds := [.data, .data, .data, .data, .sentinel, .sentinel, .data, .pinned], laidTests := true, laidLooks := .later }
def AddrsComeBackCardSaid : Prop := Claim7.holds Tryz.pinned (.plain (OpenSpec.ofChange addrsComeBackSpec)) addrsComeBackCard

/-- THE TIED CARD OF 'lanekeep2.MediansMeet'. -/
def mediansMeetCard : Claim7 := { stood := { row := mediansMeetRow, standIns := [], harness := (true, "2b2ca51b69ca18784bbe60cbc2a5e843544fc78c996d86cf7da495b8de1be971"), looks := true }, kinds := [], alts := [], laidByText := true, laidKinds := [.data, .data, .data, .data, .sentinel, .sentinel, .data, .pinned], laidTests := true, laidLooks := .later }
def MediansMeetCardSaid : Prop := Claim7.holds Tryz.pinned (.plain (OpenSpec.ofChange mediansMeetSpec)) mediansMeetCard

/-- THE TIED CARD OF 'lanekeep2.LessIsKept'. -/
def lessIsKeptCard : Claim7 := { stood := { row := lessIsKeptRow, standIns := [], harness := (true, "2b2ca51b69ca18784bbe60cbc2a5e843544fc78c996d86cf7da495b8de1be971"), looks := true }, kinds := [], alts := [], laidByText := true, laidKinds := [.data, .data, .data, .data, .sentinel, .sentinel, .data, .pinned], laidTests := true, laidLooks := .later }
def LessIsKeptCardSaid : Prop := Claim7.holds Tryz.pinned (.plain (OpenSpec.ofChange lessIsKeptSpec)) lessIsKeptCard

/-- THE SECOND FORM's CARD OF 'lanekeep2.AddrsComeBack'. -/
def addrsComeBackUptoCard : Claim7 := { stood := { row := addrsComeBackUptoRow, standIns := [], harness := (true, "2b2ca51b69ca18784bbe60cbc2a5e843544fc78c996d86cf7da495b8de1be971"), looks := true }, kinds := [], alts := [], laidByText := true, laidKinds := [.data, .data, .data, .data, .sentinel, .sentinel, .data, .pinned], laidTests := true, laidLooks := .later }
def AddrsComeBackUptoCardSaid : Prop := Claim7.holds Tryz.pinned (.plain (OpenSpec.upto addrsComeBackSpec)) addrsComeBackUptoCard

/-- THE SECOND FORM's CARD OF 'lanekeep2.MediansMeet'. -/
def mediansMeetUptoCard : Claim7 := { stood := { row := mediansMeetUptoRow, standIns := [], harness := (true, "2b2ca51b69ca18784bbe60cbc2a5e843544fc78c996d86cf7da495b8de1be971"), looks := true }, kinds := [], alts := [], laidByText := true, laidKinds := [.data, .data, .data, .data, .sentinel, .sentinel, .data, .pinned], laidTests := true, laidLooks := .later }
def MediansMeetUptoCardSaid : Prop := Claim7.holds Tryz.pinned (.plain (OpenSpec.upto mediansMeetSpec)) mediansMeetUptoCard

/-- THE SECOND FORM's CARD OF 'lanekeep2.LessIsKept'. -/
def lessIsKeptUptoCard : Claim7 := { stood := { row := lessIsKeptUptoRow, standIns := [], harness := (true, "2b2ca51b69ca18784bbe60cbc2a5e843544fc78c996d86cf7da495b8de1be971"), looks := true }, kinds := [], alts := [], laidByText := true, laidKinds := [.data, .data, .data, .data, .sentinel, .sentinel, .data, .pinned], laidTests := true, laidLooks := .later }
def LessIsKeptUptoCardSaid : Prop := Claim7.holds Tryz.pinned (.plain (OpenSpec.upto lessIsKeptSpec)) lessIsKeptUptoCard
end Rows
end Go.Proofs.YtfiocnjogbpgoaaGreatDoor
