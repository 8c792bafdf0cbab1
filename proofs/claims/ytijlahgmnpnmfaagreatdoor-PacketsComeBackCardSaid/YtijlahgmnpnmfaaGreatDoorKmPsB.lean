/- strings.Split at one byte; four numbers with points between. -/
import Derived.Test.YtijlahgmnpnmfaaGreatDoorKmCons
import Derived.Test.YtijlahgmnpnmfaaGreatDoorKmPsA
namespace Go.Proofs.YtijlahgmnpnmfaaGreatDoor
open Go.RowKit

theorem drop_at {α : Type} {l : List α} {k : Nat} {g : α} (h : l[k]? = some g) : l.drop k = g :: l.drop (k + 1) := by
  have hk : k < l.length := (List.getElem?_eq_some_iff.1 h).1
  rw [List.drop_eq_getElem_cons hk]
  rw [List.getElem?_eq_getElem hk] at h
  cases h; rfl

end Go.Proofs.YtijlahgmnpnmfaaGreatDoor
