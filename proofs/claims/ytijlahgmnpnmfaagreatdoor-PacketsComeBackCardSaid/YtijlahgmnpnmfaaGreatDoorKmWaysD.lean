/- As WaysX; each operation leaves all old memory, and the tape is only read on. -/
import Derived.Test.YtijlahgmnpnmfaaGreatDoorKmWaysB
import Derived.Test.YtijlahgmnpnmfaaGreatDoorKmMdD
import Derived.Sort.Grow
namespace Go.Proofs.YtijlahgmnpnmfaaGreatDoor
open Go.RowKit

/-- No old block has turned; the tape may have been read on. -/
def Gd (x y : World) : Prop := x.grownBy y none ∧ x.drawn ≤ y.drawn
theorem Gd.refl (x : World) : Gd x x := ⟨gb_refl x none, Nat.le_refl _⟩
theorem Gd.trans {x y z : World} (h : Gd x y) (k : Gd y z) : Gd x z := ⟨gb_trans h.1 k.1, Nat.le_trans h.2 k.2⟩
theorem Gd.alloc {x y : World} (h : Gd x y) (o : Obj) : Gd x (y.alloc o) := ⟨gb_alloc h.1 o, h.2⟩
theorem Gd.drewN {x y : World} {m : Nat} (h : Gd x y) : Gd x (y.drewN m) := ⟨gb_drewN h.1, Nat.le_trans h.2 (Nat.le_add_right _ _)⟩
theorem Gd.drew {x y : World} (h : Gd x y) : Gd x y.drew := ⟨gb_drew h.1, Nat.le_trans h.2 (Nat.le_succ _)⟩
theorem Gd.below {x y : World} (h : Gd x y) : Below x.heap.size x y := gb2B h.1
section
variable {P : Program} {ops : Array Oper} {Q : Exit → Act → World → Prop} {md : Region.Mode} {R : World → World → Prop}

end

section
variable {P : Program} {ops : Array Oper} {Q : Exit → Act → World → Prop} {md : Region.Mode} {st : List Nat}

end
end Go.Proofs.YtijlahgmnpnmfaaGreatDoor
