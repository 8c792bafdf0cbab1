/- A region whose order is open, at the world at hand: operations that only read are taken first; where one or two operations may come up, each is carried out. -/
import Derived.Test.YthjhokicojgpbaaGreatDoorKeWays
namespace Go.Proofs.YthjhokicojgpbaaGreatDoor
open Go.RowKit

section
variable {P : Program} {ops : Array Oper} {Q : Exit → Act → World → Prop} {md : Region.Mode} {R : World → World → Prop}

/-- In every world to which R leads the operation yields v and turns nothing; or it is not wanted. -/
def Reads1 (P : Program) (ops : Array Oper) (R : World → World → Prop) (o : Oper) (v : Value) (a : Act) (w : World) : Prop :=
  (Region.wanted o (yielded ops a.tmps) = true ∧ ∀ u, R w u → (execOp a.eval o).run P u = .ok (.value v) u) ∨
  (Region.wanted o (yielded ops a.tmps) = false ∧ v = undef)

theorem Reads1.wpOp {i : Nat} {o : Oper} {v : Value} {a : Act} {w : World} (hi : ops[i]? = some o) (hy : Reads1 P ops R o v a w) (hr : R w w)
    {K : Act → World → Prop} (h : K (a.put o.dst v) w) : wpOp P ops Q i K a w := by
  unfold Go.wpOp
  simp only [hi]
  rcases hy with ⟨hw, hv⟩ | ⟨hw, rfl⟩
  · simp only [hw, if_true]
    refine .inl ?_
    unfold Oper.wp
    rw [hv w hr]
    exact h
  · simp only [hw, Bool.false_eq_true, if_false]; exact h

theorem Reads1.of_same {o : Oper} {v : Value} {a a' : Act} {w : World} (hy : Reads1 P ops R o v a w) (he : execOp a'.eval o = execOp a.eval o)
    (hw : Region.wanted o (yielded ops a'.tmps) = Region.wanted o (yielded ops a.tmps)) : Reads1 P ops R o v a' w := by
  unfold Reads1 at *
  rw [he, hw]
  exact hy

theorem Reads1.later {o : Oper} {v : Value} {a : Act} {w u : World} (ht : ∀ x y z : World, R x y → R y z → R x z) (hy : Reads1 P ops R o v a w) (hu : R w u) : Reads1 P ops R o v a u :=
  hy.imp (fun ⟨hw, hv⟩ => ⟨hw, fun _ hx => hv _ (ht _ _ _ hu hx)⟩) id

theorem wpOp_putX {j : Nat} {oi oj : Oper} {v : Value} (ht : ∀ x y z : World, R x y → R y z → R x z) (hj : ops[j]? = some oj) (hap : oi.apart ops oj = true)
    (hsi : ∀ cs b, oi.op ≠ .select cs b) (hsj : ∀ cs b, oj.op ≠ .select cs b)
    (hQ : ∀ c a w, Q (.panic c) (a.put oi.dst v) w → Q (.panic c) a w) {K : Act → World → Prop} {a : Act} {w : World} {E : World → Prop} (hE : ∀ x, E x → R w x)
    (hy : Reads1 P ops R oi v a w) (h : wpOp P ops Q j (fun a' w' => E w' ∧ K a' w') (a.put oi.dst v) w) :
    wpOp P ops Q j (fun a' w' => Reads1 P ops R oi v a' w' ∧ E w' ∧ K (a'.put oi.dst v) w') a w := by
  obtain ⟨h1, h2, h3⟩ := Oper.apart_spec hap
  have keep : ∀ (a : Act), Reads1 P ops R oi v a w → ∀ x u', E u' → Reads1 P ops R oi v (a.put oj.dst x) u' := fun a hy x u' hu' =>
    (hy.of_same (execOp_put oi hsi a oj.dst x h3) (wanted_put oi a oj.dst x h3)).later ht (hE _ hu')
  have keepD : ∀ d, Reads1 P ops R oi v { a with defers := d :: a.defers } w := fun d => hy.of_same rfl rfl
  unfold wpOp at *
  simp only [hj] at *
  rw [wanted_put oj a oi.dst v h1] at h
  split
  · rename_i hw
    simp only [hw, if_true] at h
    rcases h with h | ⟨hasks, hlets⟩
    case inr => exact .inr ⟨by unfold Oper.asks at *; rw [execOp_put oj hsj a oi.dst v h1] at hasks; exact hasks, hlets⟩
    refine .inl ?_
    unfold Oper.wp at *
    rw [execOp_put oj hsj a oi.dst v h1] at h
    generalize (execOp a.eval oj).run P w = r at *
    cases r with
    | ok n w' =>
      cases n <;> simp only [Oper.upon] at h ⊢
      case value x => exact ⟨keep a hy x _ h.1, h.1, by rw [← Act.put_comm a v x h2]; exact h.2⟩
      case skip => exact ⟨keep a hy _ _ h.1, h.1, by rw [← Act.put_comm a v undef h2]; exact h.2⟩
      case defer d =>
        refine ⟨keep _ (keepD d) _ _ h.1, h.1, ?_⟩
        rw [← Act.put_comm _ v undef h2, ← Act.put_defers]
        exact h.2
      case enter f args =>
        refine Calls.mono h fun e w'' he => ?_
        cases e with
        | returned x => exact ⟨keep a hy x _ he.1, he.1, by rw [← Act.put_comm a v x h2]; exact he.2⟩
        | panicked c => exact hQ _ _ _ he
        | outgrown => exact he
      case row row args => exact Rows.mono h fun x w'' he => ⟨keep a hy x _ he.1, he.1, by rw [← Act.put_comm a v x h2]; exact he.2⟩
    | halt x w' =>
      cases x <;> simp only [Oper.upon] at h ⊢
      case panic x => exact hQ _ _ _ h
  · rename_i hw
    simp only [hw] at h
    exact ⟨keep a hy _ _ h.1, h.1, by rw [← Act.put_comm a v undef h2]; exact h.2⟩

end

/-- Number j waits for number i. -/
def waitsFor (md : Region.Mode) (ops : Array Oper) (i j : Nat) : Bool := ((ops[j]?).map fun o => o.after.any fun e => Region.binds md e && e.on == i).getD false
theorem waitsFor_spec {md : Region.Mode} {ops : Array Oper} {i j : Nat} {oj : Oper} (h : waitsFor md ops i j = true) (hj : ops[j]? = some oj) : ∃ e ∈ oj.after, Region.binds md e = true ∧ e.on = i := by
  unfold waitsFor at h
  rw [hj] at h
  simp only [Option.map_some, Option.getD_some] at h
  obtain ⟨e, he, hb⟩ := Array.any_eq_true'.1 h
  simp only [Bool.and_eq_true, beq_iff_eq] at hb
  exact ⟨e, he, hb.1, hb.2⟩

section
variable {P : Program} {ops : Array Oper} {Q : Exit → Act → World → Prop} {md : Region.Mode} {r : Option Nat} {st : List Nat}

end
end Go.Proofs.YthjhokicojgpbaaGreatDoor
