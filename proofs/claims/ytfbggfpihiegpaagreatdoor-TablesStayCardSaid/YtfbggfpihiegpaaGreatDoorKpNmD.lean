/- Domain names: the reference's check. -/
import Derived.Test.YtfbggfpihiegpaaGreatDoorKpNmE
import Derived.Test.YtfbggfpihiegpaaGreatDoorKpPsB
set_option linter.unusedVariables false
set_option linter.unusedSimpArgs false
namespace Go.Proofs.YtfbggfpihiegpaaGreatDoor
open Go.RowKit

theorem Sl.str {w : World} {A : Option Addr} {n cap : Nat} {ps : List (List UInt8)} (h : Sl w A n cap (ps.map sv)) {k : Nat} {p : List UInt8} (hp : ps[k]? = some p) (hk : k < n) : ∃ b off, A = some ⟨b, off, none⟩ ∧ b < w.heap.size ∧ w.cell? ⟨b, off + k, none⟩ = some (sv p) := by
  rcases h.2.2 with e | ⟨b, off, rfl, hb, hc⟩
  · omega
  · exact ⟨b, off, rfl, hb, hc k _ (by rw [List.getElem?_map, hp]; rfl)⟩

end Go.Proofs.YtfbggfpihiegpaaGreatDoor
