/- A region whose order is open, in ONE way: an operation whose value hangs on no order is taken first, a call that makes memory too; where one operation alone may come up, it is carried out. -/
import Derived.Test.YtmfflcemceonhaaDoorKfLaneA
import Derived.Deep.RegionHeld3
namespace Go.Proofs.YtmfflcemceonhaaDoor
open Go.RowKit

section
variable {P : Program} {ops : Array Oper} {Q : Exit → Act → World → Prop} {md : Region.Mode} {R : World → World → Prop}

/-- What an operation leaves: this value, in a world to which R leads. -/
def Does (P : Program) (R : World → World → Prop) (v : Value) (u : World) : Result Next → Prop
  | .ok (.value x) u' => x = v ∧ R u u'
  | .ok .skip u' => undef = v ∧ R u u'
  | .ok (.enter f args) u' => Calls P f args u' fun e u'' => e = .returned v ∧ R u u''
  | _ => False

/-- From every world to which R leads from w: the operation o yields v, and R leads on; or it is not wanted. -/
def StepsTo (P : Program) (ops : Array Oper) (R : World → World → Prop) (o : Oper) (v : Value) (a : Act) (w : World) : Prop :=
  (Region.wanted o (yielded ops a.tmps) = true ∧ ∀ u, R w u → Does P R v u ((execOp a.eval o).run P u)) ∨
  (Region.wanted o (yielded ops a.tmps) = false ∧ v = undef)

theorem StepsTo.wpOp {i : Nat} {o : Oper} {v : Value} {a : Act} {w u : World} (hi : ops[i]? = some o) (hy : StepsTo P ops R o v a w) (hu : R w u) (hr : R u u)
    {K : Act → World → Prop} (h : ∀ u', R u u' → K (a.put o.dst v) u') : wpOp P ops Q i K a u := by
  unfold Go.wpOp
  simp only [hi]
  rcases hy with ⟨hw, hv⟩ | ⟨hw, rfl⟩
  · simp only [hw, if_true]
    refine .inl ?_
    have hd := hv u hu
    unfold Oper.wp
    generalize (execOp a.eval o).run P u = r at hd ⊢
    cases r with
    | ok n u' =>
      cases n <;> simp only [Does, Oper.upon] at hd ⊢
      case value x => obtain ⟨rfl, h1⟩ := hd; exact h _ h1
      case skip => obtain ⟨rfl, h1⟩ := hd; exact h _ h1
      case enter f args =>
        refine Calls.mono hd fun e w'' he => ?_
        obtain ⟨rfl, h1⟩ := he
        exact h _ h1
    | halt x u' => simp only [Does] at hd
  · simp only [hw, Bool.false_eq_true, if_false]; exact h _ hr

theorem StepsTo.later {o : Oper} {v : Value} {a : Act} {w u : World} (ht : ∀ x y z : World, R x y → R y z → R x z) (hy : StepsTo P ops R o v a w) (hu : R w u) : StepsTo P ops R o v a u :=
  hy.imp (fun ⟨hw, hv⟩ => ⟨hw, fun _ hx => hv _ (ht _ _ _ hu hx)⟩) id

/-- Every operation that is left waits for each one that has come up. -/
def lastOps (md : Region.Mode) (ops : Array Oper) (listed : Array Bool) : Bool :=
  (List.range ops.size).all fun j => listed.getD j true || (List.range ops.size).all fun i => !listed.getD i false || ((ops[j]?).map fun o => o.after.any fun e => Region.binds md e && e.on == i).getD false

/-- Whatever order is picked from here on, from every world to which R leads; and R leads on behind every operation. Or: what is left waits for all that has come up. -/
def wpR (P : Program) (md : Region.Mode) (ops : Array Oper) (Q : Exit → Act → World → Prop) (R : World → World → Prop) : Nat → Array Bool → Act → World → Prop
  | 0, listed, a, w => Region.ready md ops listed = [] ∧ ∀ u, R w u → Q .normal a u
  | fuel + 1, listed, a, w => (∀ u, R w u →
    (Region.ready md ops listed = [] → Q .normal a u) ∧
    ∀ i ∈ Region.ready md ops listed, wpOp P ops Q i (fun a' w' => R u w' ∧ wpR P md ops Q R fuel (listed.setIfInBounds i true) a' w') a u) ∨
    (lastOps md ops listed = true ∧ ∀ u, R w u → wpAny P md ops Q (fuel + 1) listed a u)

theorem wpR.later (ht : ∀ x y z : World, R x y → R y z → R x z) : ∀ {fuel : Nat} {listed : Array Bool} {a : Act} {w u : World}, wpR P md ops Q R fuel listed a w → R w u → wpR P md ops Q R fuel listed a u
  | 0, _, _, _, _, h, hu => ⟨h.1, fun x hx => h.2 x (ht _ _ _ hu hx)⟩
  | _ + 1, _, _, _, _, .inl h, hu => .inl fun x hx => h x (ht _ _ _ hu hx)
  | _ + 1, _, _, _, _, .inr h, hu => .inr ⟨h.1, fun x hx => h.2 x (ht _ _ _ hu hx)⟩

end

section
variable {P : Program} {ops : Array Oper} {Q : Exit → Act → World → Prop} {md : Region.Mode} {r : Option Nat}

end
end Go.Proofs.YtmfflcemceonhaaDoor
