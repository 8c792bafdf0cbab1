/- A region whose order is open, at the world at hand: operations that only read are taken first; where one or two operations may come up, each is carried out. -/
import Derived.Test.YtmfflcemceonhaaDoorKfWays
namespace Go.Proofs.YtmfflcemceonhaaDoor
open Go.RowKit

section
variable {P : Program} {ops : Array Oper} {Q : Exit → Act → World → Prop} {md : Region.Mode} {R : World → World → Prop}

/-- In every world to which R leads the operation yields v and turns nothing; or it is not wanted. -/
def Reads1 (P : Program) (ops : Array Oper) (R : World → World → Prop) (o : Oper) (v : Value) (a : Act) (w : World) : Prop :=
  (Region.wanted o (yielded ops a.tmps) = true ∧ ∀ u, R w u → (execOp a.eval o).run P u = .ok (.value v) u) ∨
  (Region.wanted o (yielded ops a.tmps) = false ∧ v = undef)

theorem Reads1.wpOp {i : Nat} {o : Oper} {v : Value} {a : Act} {w : World} (hi : ops[i]? = some o) (hy : Reads1 P ops R o v a w) (hr : R w w)
    {K : Act → World → Prop} (h : K (a.put o.dst v) w) : wpOp P ops Q i K a w := by
  unfold Go.wpOp
  simp only [hi]
  rcases hy with ⟨hw, hv⟩ | ⟨hw, rfl⟩
  · simp only [hw, if_true]
    refine .inl ?_
    unfold Oper.wp
    rw [hv w hr]
    exact h
  · simp only [hw, Bool.false_eq_true, if_false]; exact h

theorem Reads1.later {o : Oper} {v : Value} {a : Act} {w u : World} (ht : ∀ x y z : World, R x y → R y z → R x z) (hy : Reads1 P ops R o v a w) (hu : R w u) : Reads1 P ops R o v a u :=
  hy.imp (fun ⟨hw, hv⟩ => ⟨hw, fun _ hx => hv _ (ht _ _ _ hu hx)⟩) id

end

section
variable {P : Program} {ops : Array Oper} {Q : Exit → Act → World → Prop} {md : Region.Mode} {r : Option Nat} {st : List Nat}

end
end Go.Proofs.YtmfflcemceonhaaDoor
