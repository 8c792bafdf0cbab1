/-
  DERIVED. GIVEN WITH THE SEED: THE CARDS: each row of YtlnflihnmdpilaaDoorRows.lean that lists a variable, with what it lists TIED to the program's text (the seventh form; the later family's looks); each row that meets fmt, with fmt's text TOLD by the authors' own Lean function (tested against real Go, not proved from fmt's source: count such statements apart). THE CARD IS WHAT COUNTS. Prove the row's statement (the work); the ties are given (YtlnflihnmdpilaaDoorTie.lean); close each card by the builder's one call (the guide's Derived/Test/ToyasCard.lean, 'card_holds'). Laid BY PROGRAM, IN A SANDBOX (cutbox-door.mjs). By AI agents, Wed Nov 11 2026. No macro, syntax, notation, axiom, sorry.
-/
import Derived.Test.YtlnflihnmdpilaaDoorRows
import GoSem.ClaimSeven
namespace Go.Proofs.YtlnflihnmdpilaaDoor
namespace Rows

/-- THE TIED CARD OF 'lanelaw2.AddrTexts'. -/
def addrTextsCard : Claim7 := { stood := { row := addrTextsRow, standIns := [], harness := (true, "a9f171774da54c1cac5b2490591378095c4718cda0dec191c69dfda3cd1e6c94"), looks := false }, kinds := [], alts := [], laidByText := true, laidKinds := [.data, .data, .data], laidTests := true, laidLooks := .later }
def AddrTextsCardSaid : Prop := Claim7.holds Tryd.pinned (.plain (OpenSpec.ofChange addrTextsSpec)) addrTextsCard

/-- THE TIED CARD OF 'lanelaw2.PrefixBits'. -/
def prefixBitsCard : Claim7 := { stood := { row := prefixBitsRow, standIns := [], harness := (true, "a9f171774da54c1cac5b2490591378095c4718cda0dec191c69dfda3cd1e6c94"), looks := false }, kinds := [], alts := [], laidByText := true, laidKinds := [.data, .data, .data], laidTests := true, laidLooks := .later }
def PrefixBitsCardSaid : Prop := Claim7.holds Tryd.pinned (.plain (OpenSpec.ofChange prefixBitsSpec)) prefixBitsCard

/-- THE TIED CARD OF 'lanelaw2.SitesMap'. -/
def sitesMapCard : Claim7 := { stood := { row := sitesMapRow, standIns := [], harness := (true, "a9f171774da54c1cac5b2490591378095c4718cda0dec191c69dfda3cd1e6c94"), looks := false }, kinds := [], alts := [], laidByText := true, laidKinds := [.data, .data, .data], laidTests := true, laidLooks := .later }
def SitesMapCardSaid : Prop := Claim7.holds Tryd.pinned (.plain (OpenSpec.ofChange sitesMapSpec)) sitesMapCard

/-- THE SECOND FORM's CARD OF 'lanelaw2.AddrTexts'. -/
def addrTextsUptoCard : Claim7 := { stood := { row := addrTextsUptoRow, standIns := [], harness := (true, "a9f171774da54c1cac5b2490591378095c4718cda0dec191c69dfda3cd1e6c94"), looks := false }, kinds := [], alts := [], laidByText := true, laidKinds := [.data, .data, .data], laidTests := true, laidLooks := .later }
def AddrTextsUptoCardSaid : Prop := Claim7.holds Tryd.pinned (.plain (OpenSpec.upto addrTextsSpec)) addrTextsUptoCard

/-- THE SECOND FORM's CARD OF 'lanelaw2.PrefixBits'. -/
def prefixBitsUptoCard : Claim7 := { stood := { row := prefixBitsUptoRow, standIns := [], harness := (true, "a9f171774da54c1cac5b2490591378095c4718cda0dec191c69dfda3cd1e6c94"), looks := false }, kinds := [], alts := [], laidByText := true, laidKinds := [.data, .data, .data], laidTests := true, laidLooks := .later }
def PrefixBitsUptoCardSaid : Prop := Claim7.holds Tryd.pinned (.plain (OpenSpec.upto prefixBitsSpec)) prefixBitsUptoCard

/-- THE SECOND FORM's CARD OF 'lanelaw2.SitesMap'. -/
def sitesMapUptoCard : Claim7 := { stood := { row := sitesMapUptoRow, standIns := [], harness := (true, "a9f171774da54c1cac5b2490591378095c4718cda0dec191c69dfda3cd1e6c94"), looks := false }, kinds := [], alts := [], laidByText := true, laidKinds := [.data, .data, .data], laidTests := true, laidLooks := .later }
def SitesMapUptoCardSaid : Prop := Claim7.holds Tryd.pinned (.plain (OpenSpec.upto sitesMapSpec)) sitesMapUptoCard
end Rows
end Go.Proofs.YtlnflihnmdpilaaDoor
