/- As WaysX; each operation leaves the blocks of a list. -/
import Derived.Test.YtmfflcemceonhaaDoorKfWaysX
namespace Go.Proofs.YtmfflcemceonhaaDoor
open Go.RowKit

/-- The blocks of a list are as they were. -/
def Kb (r : List Nat) (x y : World) : Prop := ∀ p ∈ r, y.heap[p]? = x.heap[p]?
theorem Kb.refl (r : List Nat) (x : World) : Kb r x x := fun _ _ => rfl
theorem Kb.trans {r : List Nat} {x y z : World} (h : Kb r x y) (k : Kb r y z) : Kb r x z := fun p hp => (k p hp).trans (h p hp)
theorem Kb.below {r : List Nat} {x y : World} {B : Nat} (h : Below B x y) (hr : ∀ p ∈ r, p < B) : Kb r x y := fun p hp => h.block p (hr p hp)
theorem Kb.gb {r : List Nat} {x y : World} {o : Option Nat} (h : x.grownBy y o) (hr : ∀ p ∈ r, p < x.heap.size ∧ some p ≠ o) : Kb r x y := fun p hp => h.block p (hr p hp).1 (hr p hp).2
section
variable {P : Program} {ops : Array Oper} {Q : Exit → Act → World → Prop} {md : Region.Mode} {R : World → World → Prop}

end

section
variable {P : Program} {ops : Array Oper} {Q : Exit → Act → World → Prop} {md : Region.Mode} {r : List Nat} {st : List Nat}

end
end Go.Proofs.YtmfflcemceonhaaDoor
