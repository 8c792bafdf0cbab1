/-
  DERIVED. GIVEN WITH THE SEED: THE CARDS: each row of YtmfflcemceonhaaDoorRows.lean that lists a variable, with what it lists TIED to the program's text (the seventh form; the later family's looks); each row that meets fmt, with fmt's text TOLD by the authors' own Lean function (tested against real Go, not proved from fmt's source: count such statements apart). THE CARD IS WHAT COUNTS. Prove the row's statement (the work); the ties are given (YtmfflcemceonhaaDoorTie.lean); close each card by the builder's one call (the guide's Derived/Test/ToyasCard.lean, 'card_holds'). Laid BY PROGRAM, IN A SANDBOX (cutbox-door.mjs). By AI agents, Wed Nov 11 2026. No macro, syntax, notation, axiom, sorry.
-/
import Derived.Test.YtmfflcemceonhaaDoorRows
import GoSem.ClaimSeven
namespace Go.Proofs.YtmfflcemceonhaaDoor
namespace Rows

/-- THE TIED CARD OF 'lanelaw1.DomainsCompare'. -/
def domainsCompareCard : Claim7 := { stood := { row := domainsCompareRow, standIns := [], harness := (true, "209762eb0d652cd16d1b14013502537c94663873c5dee1919bf04ffe326ae37e"), looks := false }, kinds := [], alts := [], laidByText := true, laidKinds := [.data, .pinned], laidTests := true, laidLooks := .later }
def DomainsCompareCardSaid : Prop := Claim7.holds Tryd.pinned (.plain (OpenSpec.ofChange domainsCompareSpec)) domainsCompareCard

/-- THE SECOND FORM's CARD OF 'lanelaw1.DomainsCompare'. -/
def domainsCompareUptoCard : Claim7 := { stood := { row := domainsCompareUptoRow, standIns := [], harness := (true, "209762eb0d652cd16d1b14013502537c94663873c5dee1919bf04ffe326ae37e"), looks := false }, kinds := [], alts := [], laidByText := true, laidKinds := [.data, .pinned], laidTests := true, laidLooks := .later }
def DomainsCompareUptoCardSaid : Prop := Claim7.holds Tryd.pinned (.plain (OpenSpec.upto domainsCompareSpec)) domainsCompareUptoCard
end Rows
end Go.Proofs.YtmfflcemceonhaaDoor
