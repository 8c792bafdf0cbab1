/-
  DERIVED. GIVEN WITH THE SEED: THE CARDS: each row of YthjhokicojgpbaaGreatDoorRows.lean that lists a variable, with what it lists TIED to the program's text (the seventh form; the later family's looks); each row that meets fmt, with fmt's text TOLD by the authors' own Lean function (tested against real Go, not proved from fmt's source: count such statements apart). THE CARD IS WHAT COUNTS. Prove the row's statement (the work); the ties are given (YthjhokicojgpbaaGreatDoorTie.lean); close each card by the builder's one call (the guide's Derived/Test/ToyasCard.lean, 'card_holds'). Laid BY PROGRAM, IN A SANDBOX (cutbox-door.mjs). By AI agents, Wed Nov 11 2026. No macro, syntax, notation, axiom, sorry.
-/
import Derived.Test.YthjhokicojgpbaaGreatDoorRows
import GoSem.ClaimSeven
namespace Go.Proofs.YthjhokicojgpbaaGreatDoor
namespace Rows

/-- THE TIED CARD OF 'lanelaw1.AddressesNamed'. -/
def addressesNamedCard : Claim7 := { stood := { row := addressesNamedRow, standIns := [], harness := (true, "f33cfe1476c93deb76790b258bc7bd5826ce1ddf8bf7eaac25242ebedf6bbfa2"), looks := true }, kinds := [], alts := [], laidByText := true, laidKinds := [.data, .data, .data, .data, .sentinel, .sentinel, .pinned], laidTests := true, laidLooks := .later }
def AddressesNamedCardSaid : Prop := Claim7.holds Tryz.pinned (.plain (OpenSpec.ofChange addressesNamedSpec)) addressesNamedCard

/-- THE TIED CARD OF 'lanelaw2.SetsMake'. -/
def setsMakeCard : Claim7 := { stood := { row := setsMakeRow, standIns := [], harness := (true, "f33cfe1476c93deb76790b258bc7bd5826ce1ddf8bf7eaac25242ebedf6bbfa2"), looks := true }, kinds := [], alts := [], laidByText := true, laidKinds := [.data, .data, .data], laidTests := true, laidLooks := .later }
def SetsMakeCardSaid : Prop := Claim7.holds Tryz.pinned (.plain (OpenSpec.ofChange setsMakeSpec)) setsMakeCard

/-- THE TIED CARD OF 'lanelaw2.SetsJoin'. -/
def setsJoinCard : Claim7 := { stood := { row := setsJoinRow, standIns := [], harness := (true, "f33cfe1476c93deb76790b258bc7bd5826ce1ddf8bf7eaac25242ebedf6bbfa2"), looks := true }, kinds := [], alts := [], laidByText := true, laidKinds := [.data, .data, .data], laidTests := true, laidLooks := .later }
def SetsJoinCardSaid : Prop := Claim7.holds Tryz.pinned (.plain (OpenSpec.ofChange setsJoinSpec)) setsJoinCard

/-- THE TIED CARD OF 'lanelaw2.SetsTell'. -/
def setsTellCard : Claim7 := { stood := { row := setsTellRow, standIns := [], harness := (true, "f33cfe1476c93deb76790b258bc7bd5826ce1ddf8bf7eaac25242ebedf6bbfa2"), looks := true }, kinds := [], alts := [], laidByText := true, laidKinds := [.data, .data, .data], laidTests := true, laidLooks := .later }
def SetsTellCardSaid : Prop := Claim7.holds Tryz.pinned (.plain (OpenSpec.ofChange setsTellSpec)) setsTellCard

/-- THE SECOND FORM's CARD OF 'lanelaw1.AddressesNamed'. -/
def addressesNamedUptoCard : Claim7 := { stood := { row := addressesNamedUptoRow, standIns := [], harness := (true, "f33cfe1476c93deb76790b258bc7bd5826ce1ddf8bf7eaac25242ebedf6bbfa2"), looks := true }, kinds := [], alts := [], laidByText := true, laidKinds := [.data, .data, .data, .data, .sentinel, .sentinel, .pinned], laidTests := true, laidLooks := .later }
def AddressesNamedUptoCardSaid : Prop := Claim7.holds Tryz.pinned (.plain (OpenSpec.upto addressesNamedSpec)) addressesNamedUptoCard

/-- THE SECOND FORM's CARD OF 'lanelaw2.SetsMake'. -/
def setsMakeUptoCard : Claim7 := { stood := { row := setsMakeUptoRow, standIns := [], harness := (true, "f33cfe1476c93deb76790b258bc7bd5826ce1ddf8bf7eaac25242ebedf6bbfa2"), looks := true }, kinds := [], alts := [], laidByText := true, laidKinds := [.data, .data, .data], laidTests := true, laidLooks := .later }
def SetsMakeUptoCardSaid : Prop := Claim7.holds Tryz.pinned (.plain (OpenSpec.upto setsMakeSpec)) setsMakeUptoCard

/-- THE SECOND FORM's CARD OF 'lanelaw2.SetsJoin'. -/
def setsJoinUptoCard : Claim7 := { stood := { row := setsJoinUptoRow, standIns := [], harness := (true, "f33cfe1476c93deb76790b258bc7bd5826ce1ddf8bf7eaac25242ebedf6bbfa2"), looks := true }, kinds := [], alts := [], laidByText := true, laidKinds := [.data, .data, .data], laidTests := true, laidLooks := .later }
def SetsJoinUptoCardSaid : Prop := Claim7.holds Tryz.pinned (.plain (OpenSpec.upto setsJoinSpec)) setsJoinUptoCard

/-- THE SECOND FORM's CARD OF 'lanelaw2.SetsTell'. -/
def setsTellUptoCard : Claim7 := { stood := { row := setsTellUptoRow, standIns := [], harness := (true, "f33cfe1476c93deb76790b258bc7bd5826ce1ddf8bf7eaac25242ebedf6bbfa2"), looks := true }, kinds := [], alts := [], laidByText := true, laidKinds := [.data, .data, .data], laidTests := true, laidLooks := .later }
def SetsTellUptoCardSaid : Prop := Claim7.holds Tryz.pinned (.plain (OpenSpec.upto setsTellSpec)) setsTellUptoCard
end Rows
end Go.Proofs.YthjhokicojgpbaaGreatDoor
