/- A drawn region by an invariant: each operation is looked at once, whatever the order. -/
import Derived.Test.YtfiocnjogbpgoaaGreatDoorKkLaneC
namespace Go.Proofs.YtfiocnjogbpgoaaGreatDoor
open Go.RowKit

section
variable {P : Program} {ops : Array Oper} {Q : Exit → Act → World → Prop} {md : Region.Mode} {R : World → World → Prop}

/-- In every world to which R leads the operation yields v and turns nothing; or it is not wanted. -/
def Reads1 (P : Program) (ops : Array Oper) (R : World → World → Prop) (o : Oper) (v : Value) (a : Act) (w : World) : Prop :=
  (Region.wanted o (yielded ops a.tmps) = true ∧ ∀ u, R w u → (execOp a.eval o).run P u = .ok (.value v) u) ∨
  (Region.wanted o (yielded ops a.tmps) = false ∧ v = undef)

theorem Reads1.wpOp {i : Nat} {o : Oper} {v : Value} {a : Act} {w : World} (hi : ops[i]? = some o) (hy : Reads1 P ops R o v a w) (hr : R w w)
    {K : Act → World → Prop} (h : K (a.put o.dst v) w) : wpOp P ops Q i K a w := by
  unfold Go.wpOp
  simp only [hi]
  rcases hy with ⟨hw, hv⟩ | ⟨hw, rfl⟩
  · simp only [hw, if_true]
    refine .inl ?_
    unfold Oper.wp
    rw [hv w hr]
    exact h
  · simp only [hw, Bool.false_eq_true, if_false]; exact h

theorem Reads1.of_same {o : Oper} {v : Value} {a a' : Act} {w : World} (hy : Reads1 P ops R o v a w) (he : execOp a'.eval o = execOp a.eval o)
    (hw : Region.wanted o (yielded ops a'.tmps) = Region.wanted o (yielded ops a.tmps)) : Reads1 P ops R o v a' w := by
  unfold Reads1 at *
  rw [he, hw]
  exact hy

theorem Reads1.later {o : Oper} {v : Value} {a : Act} {w u : World} (ht : ∀ x y z : World, R x y → R y z → R x z) (hy : Reads1 P ops R o v a w) (hu : R w u) : Reads1 P ops R o v a u :=
  hy.imp (fun ⟨hw, hv⟩ => ⟨hw, fun _ hx => hv _ (ht _ _ _ hu hx)⟩) id

theorem wpOp_putX {j : Nat} {oi oj : Oper} {v : Value} (ht : ∀ x y z : World, R x y → R y z → R x z) (hj : ops[j]? = some oj) (hap : oi.apart ops oj = true)
    (hsi : ∀ cs b, oi.op ≠ .select cs b) (hsj : ∀ cs b, oj.op ≠ .select cs b)
    (hQ : ∀ c a w, Q (.panic c) (a.put oi.dst v) w → Q (.panic c) a w) {K : Act → World → Prop} {a : Act} {w : World} {E : World → Prop} (hE : ∀ x, E x → R w x)
    (hy : Reads1 P ops R oi v a w) (h : wpOp P ops Q j (fun a' w' => E w' ∧ K a' w') (a.put oi.dst v) w) :
    wpOp P ops Q j (fun a' w' => Reads1 P ops R oi v a' w' ∧ E w' ∧ K (a'.put oi.dst v) w') a w := by
  obtain ⟨h1, h2, h3⟩ := Oper.apart_spec hap
  have keep : ∀ (a : Act), Reads1 P ops R oi v a w → ∀ x u', E u' → Reads1 P ops R oi v (a.put oj.dst x) u' := fun a hy x u' hu' =>
    (hy.of_same (execOp_put oi hsi a oj.dst x h3) (wanted_put oi a oj.dst x h3)).later ht (hE _ hu')
  have keepD : ∀ d, Reads1 P ops R oi v { a with defers := d :: a.defers } w := fun d => hy.of_same rfl rfl
  unfold wpOp at *
  simp only [hj] at *
  rw [wanted_put oj a oi.dst v h1] at h
  split
  · rename_i hw
    simp only [hw, if_true] at h
    rcases h with h | ⟨hasks, hlets⟩
    case inr => exact .inr ⟨by unfold Oper.asks at *; rw [execOp_put oj hsj a oi.dst v h1] at hasks; exact hasks, hlets⟩
    refine .inl ?_
    unfold Oper.wp at *
    rw [execOp_put oj hsj a oi.dst v h1] at h
    generalize (execOp a.eval oj).run P w = r at *
    cases r with
    | ok n w' =>
      cases n <;> simp only [Oper.upon] at h ⊢
      case value x => exact ⟨keep a hy x _ h.1, h.1, by rw [← Act.put_comm a v x h2]; exact h.2⟩
      case skip => exact ⟨keep a hy _ _ h.1, h.1, by rw [← Act.put_comm a v undef h2]; exact h.2⟩
      case defer d =>
        refine ⟨keep _ (keepD d) _ _ h.1, h.1, ?_⟩
        rw [← Act.put_comm _ v undef h2, ← Act.put_defers]
        exact h.2
      case enter f args =>
        refine Calls.mono h fun e w'' he => ?_
        cases e with
        | returned x => exact ⟨keep a hy x _ he.1, he.1, by rw [← Act.put_comm a v x h2]; exact he.2⟩
        | panicked c => exact hQ _ _ _ he
        | outgrown => exact he
      case row row args => exact Rows.mono h fun x w'' he => ⟨keep a hy x _ he.1, he.1, by rw [← Act.put_comm a v x h2]; exact he.2⟩
    | halt x w' =>
      cases x <;> simp only [Oper.upon] at h ⊢
      case panic x => exact hQ _ _ _ h
  · rename_i hw
    simp only [hw] at h
    exact ⟨keep a hy _ _ h.1, h.1, by rw [← Act.put_comm a v undef h2]; exact h.2⟩

/-- Whatever is picked from here on; each operation that is carried out leads on by Gb r, but for those of st. -/
def wpX (P : Program) (md : Region.Mode) (ops : Array Oper) (Q : Exit → Act → World → Prop) (r : Option Nat) (st : List Nat) : Nat → Array Bool → Act → World → Prop
  | 0, listed, a, w => Region.ready md ops listed = [] ∧ Q .normal a w
  | fuel + 1, listed, a, w => (Region.ready md ops listed = [] → Q .normal a w) ∧
    ∀ i ∈ Region.ready md ops listed, wpOp P ops Q i (fun a' w' => (st.contains i = true ∨ Gb r w w') ∧ wpX P md ops Q r st fuel (listed.setIfInBounds i true) a' w') a w

theorem wpAny_of_X {r : Option Nat} {st : List Nat} : ∀ (fuel : Nat) (listed : Array Bool) (a : Act) (w : World), wpX P md ops Q r st fuel listed a w → wpAny P md ops Q fuel listed a w
  | 0, _, _, _, h => ⟨h.1, h.2⟩
  | _ + 1, _, _, _, h => ⟨h.1, fun i hi => wpOp_mono (fun a' w' h' => wpAny_of_X _ _ a' w' h'.2) (h.2 i hi)⟩

theorem wpX_first {r : Option Nat} {st : List Nat} (hrr : ∀ x : World, R x x) (ht : ∀ x y z : World, R x y → R y z → R x z) {i : Nat} {oi : Oper} {v : Value} (hi : ops[i]? = some oi) (hsel : ∀ (j : Nat) (o : Oper) cs b, ops[j]? = some o → o.op ≠ .select cs b)
    (hQ : ∀ c a w, Q (.panic c) (a.put oi.dst v) w → Q (.panic c) a w)
    (hE : ∀ j oj x y, ops[j]? = some oj → (∀ e ∈ oj.after, Region.binds md e = true → e.on ≠ i) → st.contains j = true ∨ Gb r x y → R x y) :
    ∀ (fuel : Nat) (listed : Array Bool) (a : Act) (w : World),
      (∀ j oj, ops[j]? = some oj → j ≠ i → listed.getD j true = false → (∀ e ∈ oj.after, Region.binds md e = true → e.on ≠ i) → oi.apart ops oj = true) →
      i ∈ Region.ready md ops listed → Reads1 P ops R oi v a w →
      wpX P md ops Q r st fuel (listed.setIfInBounds i true) (a.put oi.dst v) w → wpX P md ops Q r st (fuel + 1) listed a w := by
  intro fuel
  induction fuel with
  | zero =>
    intro listed a w _ hr hy H
    refine ⟨fun h => (by rw [h] at hr; cases hr), fun j hj => ?_⟩
    by_cases hji : j = i
    · subst hji; exact hy.wpOp hi (hrr w) ⟨.inr (gb_refl w r), H⟩
    · have := ready_mono hj hji
      rw [H.1] at this
      cases this
  | succ fuel ih =>
    intro listed a w hfree hr hy H
    refine ⟨fun h => (by rw [h] at hr; cases hr), fun j hj => ?_⟩
    by_cases hji : j = i
    · subst hji; exact hy.wpOp hi (hrr w) ⟨.inr (gb_refl w r), H⟩
    · obtain ⟨hjun, oj, hoj, hall⟩ := mem_ready.1 hj
      have hnot : ∀ e ∈ oj.after, Region.binds md e = true → e.on ≠ i := fun e he hb heq => by
        have h1 := hall e he hb
        have h0 := (mem_ready.1 hr).1
        rw [heq] at h1
        rcases Nat.lt_or_ge i listed.size with h' | h'
        · simp [h'] at h0 h1; rw [h0] at h1; cases h1
        · simp [Array.getElem?_eq_none h'] at h1
      have h1 := H.2 j (ready_mono hj hji)
      have h2 := wpOp_putX ht hoj (hfree j oj hoj hji hjun hnot) (fun cs b => hsel i oi cs b hi) (fun cs b => hsel j oj cs b hoj) hQ (fun x hx => hE j oj w x hoj hnot hx) hy h1
      have hfree' : ∀ k ok, ops[k]? = some ok → k ≠ i → (listed.setIfInBounds j true).getD k true = false →
          (∀ e ∈ ok.after, Region.binds md e = true → e.on ≠ i) → oi.apart ops ok = true := fun k ok hk hki hun hno => by
        refine hfree k ok hk hki ?_ hno
        by_cases hjk : j = k
        · subst hjk; exact hjun
        · rw [getD_set_ne true hjk] at hun; exact hun
      refine wpOp_mono (fun a' w' h3 => ⟨h3.2.1, ih (listed.setIfInBounds j true) a' w' hfree' (ready_mono hr (Ne.symm hji)) h3.1 ?_⟩) h2
      rw [Array.setIfInBounds_comm _ _ hji]
      exact h3.2.2
end

/-- Number j waits for number i. -/
def waitsFor (md : Region.Mode) (ops : Array Oper) (i j : Nat) : Bool := ((ops[j]?).map fun o => o.after.any fun e => Region.binds md e && e.on == i).getD false
theorem waitsFor_spec {md : Region.Mode} {ops : Array Oper} {i j : Nat} {oj : Oper} (h : waitsFor md ops i j = true) (hj : ops[j]? = some oj) : ∃ e ∈ oj.after, Region.binds md e = true ∧ e.on = i := by
  unfold waitsFor at h
  rw [hj] at h
  simp only [Option.map_some, Option.getD_some] at h
  obtain ⟨e, he, hb⟩ := Array.any_eq_true'.1 h
  simp only [Bool.and_eq_true, beq_iff_eq] at hb
  exact ⟨e, he, hb.1, hb.2⟩

section
variable {P : Program} {ops : Array Oper} {Q : Exit → Act → World → Prop} {md : Region.Mode} {r : Option Nat} {st : List Nat}

theorem wx_begin (r : Option Nat) (st : List Nat) {id : Nat} {a : Act} {w : World} (hm : P.follows .mixedOrders = true)
    (h : ∀ u, Below w.heap.size w u → u.heap.size = w.heap.size → wpX P .any ops Q r st ops.size (Array.replicate ops.size false) a u) : (Code.region id ops true).wp P Q a w :=
  wp_region_any hm (wpAny_of_X _ _ _ _ (h w.drew ⟨rfl, rfl, rfl, Nat.le_refl _, fun _ _ => rfl⟩ rfl))

/-- An operation that reads memory: those of st wait for it. -/
theorem wx_take {i : Nat} {oi : Oper} {d : Option Tmp} {v : Value} {fuel : Nat} {listed : Array Bool} {a : Act} {w : World} (hi : ops[i]? = some oi) (hd : oi.dst = d)
    (hs : Region.noSelect ops = true) (hf : Region.free md ops listed i = true) (hr : (Region.ready md ops listed).contains i = true)
    (hQ : ∀ c a w, Q (.panic c) (a.put d v) w → Q (.panic c) a w) (hw : Region.wanted oi (yielded ops a.tmps) = true) (hst : (st.all fun j => waitsFor md ops i j) = true)
    (hy : ∀ u, w.grownBy u r → (execOp a.eval oi).run P u = .ok (.value v) u)
    (h : wpX P md ops Q r st fuel (listed.setIfInBounds i true) (a.put d v) w) : wpX P md ops Q r st (fuel + 1) listed a w := by
  subst hd
  refine wpX_first (R := Gb r) (fun x => gb_refl x r) (fun _ _ _ => gb_trans) hi (Region.noSelect_spec hs) hQ (fun j oj x y hj hno hxy => ?_) fuel listed a w (Region.free_spec hi hf) (by simpa using hr) (.inl ⟨hw, hy⟩) h
  rcases hxy with hxy | hxy
  · obtain ⟨e, he, hb, ho⟩ := waitsFor_spec (List.all_eq_true.1 hst j (by simpa using hxy)) hj
    exact absurd ho (hno e he hb)
  · exact hxy

/-- An operation that reads nothing. -/
theorem wx_pure {i : Nat} {oi : Oper} {d : Option Tmp} {v : Value} {fuel : Nat} {listed : Array Bool} {a : Act} {w : World} (hi : ops[i]? = some oi) (hd : oi.dst = d)
    (hs : Region.noSelect ops = true) (hf : Region.free md ops listed i = true) (hr : (Region.ready md ops listed).contains i = true)
    (hQ : ∀ c a w, Q (.panic c) (a.put d v) w → Q (.panic c) a w) (hw : Region.wanted oi (yielded ops a.tmps) = true)
    (hy : ∀ u, (execOp a.eval oi).run P u = .ok (.value v) u)
    (h : wpX P md ops Q r st fuel (listed.setIfInBounds i true) (a.put d v) w) : wpX P md ops Q r st (fuel + 1) listed a w := by
  subst hd
  exact wpX_first (R := fun _ _ => True) (fun _ => trivial) (fun _ _ _ _ _ => trivial) hi (Region.noSelect_spec hs) hQ (fun _ _ _ _ _ _ _ => trivial) fuel listed a w (Region.free_spec hi hf) (by simpa using hr) (.inl ⟨hw, fun u _ => hy u⟩) h

/-- An operation that is not wanted. -/
theorem wx_skip {i : Nat} {oi : Oper} {d : Option Tmp} {fuel : Nat} {listed : Array Bool} {a : Act} {w : World} (hi : ops[i]? = some oi) (hd : oi.dst = d)
    (hs : Region.noSelect ops = true) (hf : Region.free md ops listed i = true) (hr : (Region.ready md ops listed).contains i = true)
    (hQ : ∀ c a w, Q (.panic c) (a.put d undef) w → Q (.panic c) a w) (hw : Region.wanted oi (yielded ops a.tmps) = false)
    (h : wpX P md ops Q r st fuel (listed.setIfInBounds i true) (a.put d undef) w) : wpX P md ops Q r st (fuel + 1) listed a w := by
  subst hd
  exact wpX_first (R := fun _ _ => True) (fun _ => trivial) (fun _ _ _ _ _ => trivial) hi (Region.noSelect_spec hs) hQ (fun _ _ _ _ _ _ _ => trivial) fuel listed a w (Region.free_spec hi hf) (by simpa using hr) (.inr ⟨hw, rfl⟩) h

/-- Number i alone may come up. -/
theorem wx_one {i : Nat} {o : Oper} {fuel : Nat} {listed : Array Bool} {a : Act} {w : World} (ho : ops[i]? = some o) (hr : Region.ready md ops listed = [i]) (hw : Region.wanted o (yielded ops a.tmps) = true)
    (h : ∀ K' : Act → World → Prop, Shut (∀ a' u', w.grownBy u' r → wpX P md ops Q r st fuel (listed.setIfInBounds i true) a' u' → K' a' u') → Oper.wp P o a w K' Q) :
    wpX P md ops Q r st (fuel + 1) listed a w := by
  refine ⟨fun h0 => (by rw [h0] at hr; cases hr), fun j hj => ?_⟩
  rw [hr] at hj
  obtain rfl : j = i := by simpa using hj
  refine wpOp_step ho (fun K' hK => ?_)
  rw [if_pos hw]
  exact h K' (fun a' u' hg hR => hK a' u' ⟨.inr hg, hR⟩)

/-- Number i, one of st, alone may come up. -/
theorem wx_store {i : Nat} {o : Oper} {fuel : Nat} {listed : Array Bool} {a : Act} {w : World} (ho : ops[i]? = some o) (hr : Region.ready md ops listed = [i]) (hw : Region.wanted o (yielded ops a.tmps) = true) (hst : st.contains i = true)
    (h : ∀ K' : Act → World → Prop, Shut (∀ a' u', wpX P md ops Q r st fuel (listed.setIfInBounds i true) a' u' → K' a' u') → Oper.wp P o a w K' Q) :
    wpX P md ops Q r st (fuel + 1) listed a w := by
  refine ⟨fun h0 => (by rw [h0] at hr; cases hr), fun j hj => ?_⟩
  rw [hr] at hj
  obtain rfl : j = i := by simpa using hj
  refine wpOp_step ho (fun K' hK => ?_)
  rw [if_pos hw]
  exact h K' (fun a' u' hR => hK a' u' ⟨.inl hst, hR⟩)

/-- Numbers i and k may come up. -/
theorem wx_two {i k : Nat} {o q : Oper} {fuel : Nat} {listed : Array Bool} {a : Act} {w : World} (ho : ops[i]? = some o) (hq : ops[k]? = some q) (hr : Region.ready md ops listed = [i, k])
    (hw : Region.wanted o (yielded ops a.tmps) = true) (hw' : Region.wanted q (yielded ops a.tmps) = true)
    (h : ∀ K' : Act → World → Prop, Shut (∀ a' u', w.grownBy u' r → wpX P md ops Q r st fuel (listed.setIfInBounds i true) a' u' → K' a' u') → Oper.wp P o a w K' Q)
    (h' : ∀ K' : Act → World → Prop, Shut (∀ a' u', w.grownBy u' r → wpX P md ops Q r st fuel (listed.setIfInBounds k true) a' u' → K' a' u') → Oper.wp P q a w K' Q) :
    wpX P md ops Q r st (fuel + 1) listed a w := by
  refine ⟨fun h0 => (by rw [h0] at hr; cases hr), fun j hj => ?_⟩
  rw [hr] at hj
  have hj' : j = i ∨ j = k := by simpa using hj
  rcases hj' with rfl | rfl
  · refine wpOp_step ho (fun K' hK => ?_)
    rw [if_pos hw]
    exact h K' (fun a' u' hg hR => hK a' u' ⟨.inr hg, hR⟩)
  · refine wpOp_step hq (fun K' hK => ?_)
    rw [if_pos hw']
    exact h' K' (fun a' u' hg hR => hK a' u' ⟨.inr hg, hR⟩)

/-- A new block is made: the world gets a name. -/
theorem wx_new {cs : List Value} {t : TypeId} {fuel : Nat} {listed : Array Bool} {a : Act} {w : World}
    (h : ∀ u, Below w.heap.size w u → Blk u w.heap.size cs t → u.heap.size = w.heap.size + 1 → wpX P md ops Q r st fuel listed a u) : wpX P md ops Q r st fuel listed a (w.alloc (.cells cs.toArray t)) :=
  h _ ((Below.refl _ _).alloc (Nat.le_refl _) _) (Blk.new w cs t) (by simp)

/-- All have come up. -/
theorem wx_done {listed : Array Bool} {a : Act} {w : World} (hr : Region.ready md ops listed = []) (h : Q .normal a w) : ∀ fuel, wpX P md ops Q r st fuel listed a w
  | 0 => ⟨hr, h⟩
  | _ + 1 => ⟨fun _ => h, by rw [hr]; simp⟩
end
end Go.Proofs.YtfiocnjogbpgoaaGreatDoor
namespace Go.Proofs.YtfiocnjogbpgoaaGreatDoor
open Go.RowKit

/-- The blocks of a list are as they were. -/
def Kb (r : List Nat) (x y : World) : Prop := ∀ p ∈ r, y.heap[p]? = x.heap[p]?
theorem Kb.refl (r : List Nat) (x : World) : Kb r x x := fun _ _ => rfl
theorem Kb.trans {r : List Nat} {x y z : World} (h : Kb r x y) (k : Kb r y z) : Kb r x z := fun p hp => (k p hp).trans (h p hp)
theorem Kb.below {r : List Nat} {x y : World} {B : Nat} (h : Below B x y) (hr : ∀ p ∈ r, p < B) : Kb r x y := fun p hp => h.block p (hr p hp)
theorem Kb.gb {r : List Nat} {x y : World} {o : Option Nat} (h : x.grownBy y o) (hr : ∀ p ∈ r, p < x.heap.size ∧ some p ≠ o) : Kb r x y := fun p hp => h.block p (hr p hp).1 (hr p hp).2
theorem Blk.kb {w w' : World} {p : Nat} {r : List Nat} {cs : List Value} {t : TypeId} (h : Blk w p cs t) (hb : Kb r w w') (hp : p ∈ r) : Blk w' p cs t := (hb p hp).trans h

section
variable {P : Program} {ops : Array Oper} {Q : Exit → Act → World → Prop} {md : Region.Mode} {R : World → World → Prop}

/-- Whatever is picked from here on; each operation that is carried out leads on by Kb r, but for those of st. -/
def wpB (P : Program) (md : Region.Mode) (ops : Array Oper) (Q : Exit → Act → World → Prop) (r : List Nat) (st : List Nat) : Nat → Array Bool → Act → World → Prop
  | 0, listed, a, w => Region.ready md ops listed = [] ∧ Q .normal a w
  | fuel + 1, listed, a, w => (Region.ready md ops listed = [] → Q .normal a w) ∧
    ∀ i ∈ Region.ready md ops listed, wpOp P ops Q i (fun a' w' => (st.contains i = true ∨ Kb r w w') ∧ wpB P md ops Q r st fuel (listed.setIfInBounds i true) a' w') a w

theorem wpAny_of_B {r : List Nat} {st : List Nat} : ∀ (fuel : Nat) (listed : Array Bool) (a : Act) (w : World), wpB P md ops Q r st fuel listed a w → wpAny P md ops Q fuel listed a w
  | 0, _, _, _, h => ⟨h.1, h.2⟩
  | _ + 1, _, _, _, h => ⟨h.1, fun i hi => wpOp_mono (fun a' w' h' => wpAny_of_B _ _ a' w' h'.2) (h.2 i hi)⟩

theorem wpB_first {r : List Nat} {st : List Nat} (hrr : ∀ x : World, R x x) (ht : ∀ x y z : World, R x y → R y z → R x z) {i : Nat} {oi : Oper} {v : Value} (hi : ops[i]? = some oi) (hsel : ∀ (j : Nat) (o : Oper) cs b, ops[j]? = some o → o.op ≠ .select cs b)
    (hQ : ∀ c a w, Q (.panic c) (a.put oi.dst v) w → Q (.panic c) a w)
    (hE : ∀ j oj x y, ops[j]? = some oj → (∀ e ∈ oj.after, Region.binds md e = true → e.on ≠ i) → st.contains j = true ∨ Kb r x y → R x y) :
    ∀ (fuel : Nat) (listed : Array Bool) (a : Act) (w : World),
      (∀ j oj, ops[j]? = some oj → j ≠ i → listed.getD j true = false → (∀ e ∈ oj.after, Region.binds md e = true → e.on ≠ i) → oi.apart ops oj = true) →
      i ∈ Region.ready md ops listed → Reads1 P ops R oi v a w →
      wpB P md ops Q r st fuel (listed.setIfInBounds i true) (a.put oi.dst v) w → wpB P md ops Q r st (fuel + 1) listed a w := by
  intro fuel
  induction fuel with
  | zero =>
    intro listed a w _ hr hy H
    refine ⟨fun h => (by rw [h] at hr; cases hr), fun j hj => ?_⟩
    by_cases hji : j = i
    · subst hji; exact hy.wpOp hi (hrr w) ⟨.inr (Kb.refl r w), H⟩
    · have := ready_mono hj hji
      rw [H.1] at this
      cases this
  | succ fuel ih =>
    intro listed a w hfree hr hy H
    refine ⟨fun h => (by rw [h] at hr; cases hr), fun j hj => ?_⟩
    by_cases hji : j = i
    · subst hji; exact hy.wpOp hi (hrr w) ⟨.inr (Kb.refl r w), H⟩
    · obtain ⟨hjun, oj, hoj, hall⟩ := mem_ready.1 hj
      have hnot : ∀ e ∈ oj.after, Region.binds md e = true → e.on ≠ i := fun e he hb heq => by
        have h1 := hall e he hb
        have h0 := (mem_ready.1 hr).1
        rw [heq] at h1
        rcases Nat.lt_or_ge i listed.size with h' | h'
        · simp [h'] at h0 h1; rw [h0] at h1; cases h1
        · simp [Array.getElem?_eq_none h'] at h1
      have h1 := H.2 j (ready_mono hj hji)
      have h2 := wpOp_putX ht hoj (hfree j oj hoj hji hjun hnot) (fun cs b => hsel i oi cs b hi) (fun cs b => hsel j oj cs b hoj) hQ (fun x hx => hE j oj w x hoj hnot hx) hy h1
      have hfree' : ∀ k ok, ops[k]? = some ok → k ≠ i → (listed.setIfInBounds j true).getD k true = false →
          (∀ e ∈ ok.after, Region.binds md e = true → e.on ≠ i) → oi.apart ops ok = true := fun k ok hk hki hun hno => by
        refine hfree k ok hk hki ?_ hno
        by_cases hjk : j = k
        · subst hjk; exact hjun
        · rw [getD_set_ne true hjk] at hun; exact hun
      refine wpOp_mono (fun a' w' h3 => ⟨h3.2.1, ih (listed.setIfInBounds j true) a' w' hfree' (ready_mono hr (Ne.symm hji)) h3.1 ?_⟩) h2
      rw [Array.setIfInBounds_comm _ _ hji]
      exact h3.2.2
end

section
variable {P : Program} {ops : Array Oper} {Q : Exit → Act → World → Prop} {md : Region.Mode} {r : List Nat} {st : List Nat}

theorem wb_begin (r : List Nat) (st : List Nat) {id : Nat} {a : Act} {w : World} (hm : P.follows .mixedOrders = true)
    (h : ∀ u, Below w.heap.size w u → u.heap.size = w.heap.size → wpB P .any ops Q r st ops.size (Array.replicate ops.size false) a u) : (Code.region id ops true).wp P Q a w :=
  wp_region_any hm (wpAny_of_B _ _ _ _ (h w.drew ⟨rfl, rfl, rfl, Nat.le_refl _, fun _ _ => rfl⟩ rfl))

/-- An operation that reads memory: those of st wait for it. -/
theorem wb_take {i : Nat} {oi : Oper} {d : Option Tmp} {v : Value} {fuel : Nat} {listed : Array Bool} {a : Act} {w : World} (hi : ops[i]? = some oi) (hd : oi.dst = d)
    (hs : Region.noSelect ops = true) (hf : Region.free md ops listed i = true) (hr : (Region.ready md ops listed).contains i = true)
    (hQ : ∀ c a w, Q (.panic c) (a.put d v) w → Q (.panic c) a w) (hw : Region.wanted oi (yielded ops a.tmps) = true) (hst : (st.all fun j => waitsFor md ops i j) = true)
    (hy : ∀ u, Kb r w u → (execOp a.eval oi).run P u = .ok (.value v) u)
    (h : wpB P md ops Q r st fuel (listed.setIfInBounds i true) (a.put d v) w) : wpB P md ops Q r st (fuel + 1) listed a w := by
  subst hd
  refine wpB_first (R := Kb r) (fun x => Kb.refl r x) (fun _ _ _ => Kb.trans) hi (Region.noSelect_spec hs) hQ (fun j oj x y hj hno hxy => ?_) fuel listed a w (Region.free_spec hi hf) (by simpa using hr) (.inl ⟨hw, hy⟩) h
  rcases hxy with hxy | hxy
  · obtain ⟨e, he, hb, ho⟩ := waitsFor_spec (List.all_eq_true.1 hst j (by simpa using hxy)) hj
    exact absurd ho (hno e he hb)
  · exact hxy

/-- An operation that reads nothing. -/
theorem wb_pure {i : Nat} {oi : Oper} {d : Option Tmp} {v : Value} {fuel : Nat} {listed : Array Bool} {a : Act} {w : World} (hi : ops[i]? = some oi) (hd : oi.dst = d)
    (hs : Region.noSelect ops = true) (hf : Region.free md ops listed i = true) (hr : (Region.ready md ops listed).contains i = true)
    (hQ : ∀ c a w, Q (.panic c) (a.put d v) w → Q (.panic c) a w) (hw : Region.wanted oi (yielded ops a.tmps) = true)
    (hy : ∀ u, (execOp a.eval oi).run P u = .ok (.value v) u)
    (h : wpB P md ops Q r st fuel (listed.setIfInBounds i true) (a.put d v) w) : wpB P md ops Q r st (fuel + 1) listed a w := by
  subst hd
  exact wpB_first (R := fun _ _ => True) (fun _ => trivial) (fun _ _ _ _ _ => trivial) hi (Region.noSelect_spec hs) hQ (fun _ _ _ _ _ _ _ => trivial) fuel listed a w (Region.free_spec hi hf) (by simpa using hr) (.inl ⟨hw, fun u _ => hy u⟩) h

/-- An operation that is not wanted. -/
theorem wb_skip {i : Nat} {oi : Oper} {d : Option Tmp} {fuel : Nat} {listed : Array Bool} {a : Act} {w : World} (hi : ops[i]? = some oi) (hd : oi.dst = d)
    (hs : Region.noSelect ops = true) (hf : Region.free md ops listed i = true) (hr : (Region.ready md ops listed).contains i = true)
    (hQ : ∀ c a w, Q (.panic c) (a.put d undef) w → Q (.panic c) a w) (hw : Region.wanted oi (yielded ops a.tmps) = false)
    (h : wpB P md ops Q r st fuel (listed.setIfInBounds i true) (a.put d undef) w) : wpB P md ops Q r st (fuel + 1) listed a w := by
  subst hd
  exact wpB_first (R := fun _ _ => True) (fun _ => trivial) (fun _ _ _ _ _ => trivial) hi (Region.noSelect_spec hs) hQ (fun _ _ _ _ _ _ _ => trivial) fuel listed a w (Region.free_spec hi hf) (by simpa using hr) (.inr ⟨hw, rfl⟩) h

/-- Number i alone may come up. -/
theorem wb_one {i : Nat} {o : Oper} {fuel : Nat} {listed : Array Bool} {a : Act} {w : World} (ho : ops[i]? = some o) (hr : Region.ready md ops listed = [i]) (hw : Region.wanted o (yielded ops a.tmps) = true)
    (h : ∀ K' : Act → World → Prop, Shut (∀ a' u', Kb r w u' → wpB P md ops Q r st fuel (listed.setIfInBounds i true) a' u' → K' a' u') → Oper.wp P o a w K' Q) :
    wpB P md ops Q r st (fuel + 1) listed a w := by
  refine ⟨fun h0 => (by rw [h0] at hr; cases hr), fun j hj => ?_⟩
  rw [hr] at hj
  obtain rfl : j = i := by simpa using hj
  refine wpOp_step ho (fun K' hK => ?_)
  rw [if_pos hw]
  exact h K' (fun a' u' hg hR => hK a' u' ⟨.inr hg, hR⟩)

/-- Number i, one of st, alone may come up. -/
theorem wb_store {i : Nat} {o : Oper} {fuel : Nat} {listed : Array Bool} {a : Act} {w : World} (ho : ops[i]? = some o) (hr : Region.ready md ops listed = [i]) (hw : Region.wanted o (yielded ops a.tmps) = true) (hst : st.contains i = true)
    (h : ∀ K' : Act → World → Prop, Shut (∀ a' u', wpB P md ops Q r st fuel (listed.setIfInBounds i true) a' u' → K' a' u') → Oper.wp P o a w K' Q) :
    wpB P md ops Q r st (fuel + 1) listed a w := by
  refine ⟨fun h0 => (by rw [h0] at hr; cases hr), fun j hj => ?_⟩
  rw [hr] at hj
  obtain rfl : j = i := by simpa using hj
  refine wpOp_step ho (fun K' hK => ?_)
  rw [if_pos hw]
  exact h K' (fun a' u' hR => hK a' u' ⟨.inl hst, hR⟩)

/-- Numbers i and k may come up. -/
theorem wb_two {i k : Nat} {o q : Oper} {fuel : Nat} {listed : Array Bool} {a : Act} {w : World} (ho : ops[i]? = some o) (hq : ops[k]? = some q) (hr : Region.ready md ops listed = [i, k])
    (hw : Region.wanted o (yielded ops a.tmps) = true) (hw' : Region.wanted q (yielded ops a.tmps) = true)
    (h : ∀ K' : Act → World → Prop, Shut (∀ a' u', Kb r w u' → wpB P md ops Q r st fuel (listed.setIfInBounds i true) a' u' → K' a' u') → Oper.wp P o a w K' Q)
    (h' : ∀ K' : Act → World → Prop, Shut (∀ a' u', Kb r w u' → wpB P md ops Q r st fuel (listed.setIfInBounds k true) a' u' → K' a' u') → Oper.wp P q a w K' Q) :
    wpB P md ops Q r st (fuel + 1) listed a w := by
  refine ⟨fun h0 => (by rw [h0] at hr; cases hr), fun j hj => ?_⟩
  rw [hr] at hj
  have hj' : j = i ∨ j = k := by simpa using hj
  rcases hj' with rfl | rfl
  · refine wpOp_step ho (fun K' hK => ?_)
    rw [if_pos hw]
    exact h K' (fun a' u' hg hR => hK a' u' ⟨.inr hg, hR⟩)
  · refine wpOp_step hq (fun K' hK => ?_)
    rw [if_pos hw']
    exact h' K' (fun a' u' hg hR => hK a' u' ⟨.inr hg, hR⟩)

/-- A new block is made: the world gets a name. -/
theorem wb_new {cs : List Value} {t : TypeId} {fuel : Nat} {listed : Array Bool} {a : Act} {w : World}
    (h : ∀ u, Below w.heap.size w u → Blk u w.heap.size cs t → u.heap.size = w.heap.size + 1 → wpB P md ops Q r st fuel listed a u) : wpB P md ops Q r st fuel listed a (w.alloc (.cells cs.toArray t)) :=
  h _ ((Below.refl _ _).alloc (Nat.le_refl _) _) (Blk.new w cs t) (by simp)

/-- All have come up. -/
theorem wb_done {listed : Array Bool} {a : Act} {w : World} (hr : Region.ready md ops listed = []) (h : Q .normal a w) : ∀ fuel, wpB P md ops Q r st fuel listed a w
  | 0 => ⟨hr, h⟩
  | _ + 1 => ⟨fun _ => h, by rw [hr]; simp⟩
end
end Go.Proofs.YtfiocnjogbpgoaaGreatDoor
namespace Go.Proofs.YtfiocnjogbpgoaaGreatDoor
open Go.RowKit
set_option linter.unusedVariables false

/-- All results are put, in the order of the text. -/
def putL : List Oper → (Nat → Value) → Nat → Act → Act
  | [], _, _, a => a
  | o :: os, vs, i, a => putL os vs (i + 1) (a.put o.dst (vs i))
def dstAt (ops : Array Oper) (i : Nat) : Option Tmp := (ops[i]?).bind (·.dst)
def dstsOk (ops : Array Oper) : Bool := (List.range ops.size).all fun i => (List.range ops.size).all fun j => i == j || (dstAt ops i).isNone || dstAt ops i != dstAt ops j
def dstsIn (ops : Array Oper) (m : Nat) : Bool := (List.range ops.size).all fun i => ((dstAt ops i).map fun d => decide (d < m)).getD true
def acyc (md : Region.Mode) (ops : Array Oper) : Bool := (List.range ops.size).all fun i => ((ops[i]?).map fun o => o.after.all fun e => !Region.binds md e || decide (e.on < i)).getD true
def bare (ops : Array Oper) : Bool := ops.all fun o => o.guard.isNone
/-- No operation puts into k. -/
def noDst (ops : Array Oper) (k : Nat) : Bool := (List.range ops.size).all fun i => dstAt ops i != some k

theorem put_size (a : Act) (d : Option Tmp) (v : Value) : (a.put d v).tmps.size = a.tmps.size := by cases d <;> simp [Act.put]
theorem put_defers (a : Act) (d : Option Tmp) (v : Value) : (a.put d v).defers = a.defers := by cases d <;> rfl
theorem put_miss (a : Act) (d : Option Tmp) (v : Value) (k : Nat) (h : d ≠ some k) : (a.put d v).tmps[k]? = a.tmps[k]? := by
  cases d with
  | none => rfl
  | some d => simp only [Act.put]; rw [Array.getElem?_setIfInBounds_ne (by intro e; exact h (by rw [e]))]
theorem put_hit (a : Act) (k : Nat) (v : Value) (h : k < a.tmps.size) : (a.put (some k) v).tmps[k]? = some v := by
  simp only [Act.put]; rw [Array.getElem?_setIfInBounds_self_of_lt h]
theorem putL_defers : ∀ (os : List Oper) (vs : Nat → Value) (i : Nat) (a : Act), (putL os vs i a).defers = a.defers
  | [], _, _, _ => rfl
  | o :: os, vs, i, a => by unfold putL; rw [putL_defers os, put_defers]
theorem putL_miss (k : Nat) : ∀ (os : List Oper) (vs : Nat → Value) (i : Nat) (a : Act), (∀ o ∈ os, o.dst ≠ some k) → (putL os vs i a).tmps[k]? = a.tmps[k]?
  | [], _, _, _, _ => rfl
  | o :: os, vs, i, a, h => by
    unfold putL
    rw [putL_miss k os _ _ _ (fun x hx => h x (List.mem_cons_of_mem _ hx)), put_miss _ _ _ _ (h o (List.mem_cons_self ..))]
theorem putL_hit (k : Nat) : ∀ (os : List Oper) (vs : Nat → Value) (i : Nat) (a : Act) (j : Nat) (o : Oper), os[j]? = some o → o.dst = some k →
    (∀ j' o', os[j']? = some o' → o'.dst = some k → j' = j) → k < a.tmps.size → (putL os vs i a).tmps[k]? = some (vs (i + j))
  | [], _, _, _, j, o, h, _, _, _ => by simp at h
  | x :: os, vs, i, a, j, o, h, hd, hu, hk => by
    unfold putL
    cases j with
    | zero =>
      simp only [List.getElem?_cons_zero, Option.some.injEq] at h
      subst h
      rw [putL_miss k os _ _ _ (fun y hy e => by
        obtain ⟨n, hn⟩ := List.getElem?_of_mem hy
        have := hu (n + 1) y (by rw [List.getElem?_cons_succ]; exact hn) e
        omega), hd, put_hit _ _ _ hk]
      rfl
    | succ j =>
      rw [List.getElem?_cons_succ] at h
      have := putL_hit k os vs (i + 1) (a.put x.dst (vs i)) j o h hd (fun j' o' h1 h2 => by
        have := hu (j' + 1) o' (by rw [List.getElem?_cons_succ]; exact h1) h2
        omega) (by rw [put_size]; exact hk)
      rw [this]
      congr 2
      omega

/-- What has been put so far. -/
structure Kept (ops : Array Oper) (listed : Array Bool) (vs : Nat → Value) (a0 a : Act) : Prop where
  defers : a.defers = a0.defers
  size : a.tmps.size = a0.tmps.size
  hit : ∀ j d, dstAt ops j = some d → listed.getD j false = true → a.tmps[d]? = some (vs j)
  miss : ∀ k, (∀ j, dstAt ops j = some k → listed.getD j false = false) → a.tmps[k]? = a0.tmps[k]?

theorem dstAt_lt {ops : Array Oper} {i : Nat} {d : Tmp} (h : dstAt ops i = some d) : i < ops.size := by
  unfold dstAt at h
  cases ho : ops[i]? with
  | none => rw [ho] at h; cases h
  | some o => exact (Array.getElem?_eq_some_iff.1 ho).1
theorem dstsOk_spec {ops : Array Oper} (h : dstsOk ops = true) {i j : Nat} {d : Tmp} (hi : dstAt ops i = some d) (hj : dstAt ops j = some d) : i = j := by
  have h1 := List.all_eq_true.1 (List.all_eq_true.1 h i (List.mem_range.2 (dstAt_lt hi))) j (List.mem_range.2 (dstAt_lt hj))
  rw [hi, hj] at h1
  simpa using h1
theorem dstsIn_spec {ops : Array Oper} {m : Nat} (h : dstsIn ops m = true) {i : Nat} {d : Tmp} (hi : dstAt ops i = some d) : d < m := by
  have h1 := List.all_eq_true.1 h i (List.mem_range.2 (dstAt_lt hi))
  rw [hi] at h1
  simpa using h1
theorem acyc_spec {md : Region.Mode} {ops : Array Oper} (h : acyc md ops = true) {i : Nat} {o : Oper} (hi : ops[i]? = some o) {e : Edge} (he : e ∈ o.after) (hb : Region.binds md e = true) : e.on < i := by
  have h1 := List.all_eq_true.1 h i (List.mem_range.2 (Array.getElem?_eq_some_iff.1 hi).1)
  rw [hi] at h1
  simp only [Option.map_some, Option.getD_some] at h1
  have h2 := Array.all_eq_true_iff_forall_mem.1 h1 e he
  rw [hb] at h2
  simpa using h2

theorem Kept.all {ops : Array Oper} {listed : Array Bool} {vs : Nat → Value} {a0 a : Act} (h : Kept ops listed vs a0 a) (hall : ∀ j, dstAt ops j ≠ none → listed.getD j false = true) (hok : dstsOk ops = true) (hin : dstsIn ops a0.tmps.size = true) : a = putL ops.toList vs 0 a0 := by
  have e1 : a.tmps = (putL ops.toList vs 0 a0).tmps := by
    refine Array.ext_getElem? fun k => ?_
    by_cases hk : ∃ j, dstAt ops j = some k
    · obtain ⟨j, hj⟩ := hk
      rw [h.hit j k hj (hall j (by rw [hj]; exact Option.some_ne_none _))]
      have hj' := hj
      unfold dstAt at hj'
      cases ho : ops[j]? with
      | none => rw [ho] at hj'; cases hj'
      | some o =>
        rw [ho] at hj'
        have := putL_hit k ops.toList vs 0 a0 j o (by simpa using ho) hj' (fun j' o' h1 h2 => by
          refine dstsOk_spec hok (d := k) ?_ hj
          unfold dstAt
          have : ops[j']? = some o' := by simpa using h1
          rw [this]
          exact h2) (dstsIn_spec hin hj)
        rw [this, Nat.zero_add]
    · rw [h.miss k (fun j hj => absurd ⟨j, hj⟩ hk), putL_miss k _ _ _ _ (fun o ho e => by
        obtain ⟨j, hj⟩ := List.getElem?_of_mem ho
        exact hk ⟨j, by unfold dstAt; have : ops[j]? = some o := by simpa using hj
                        rw [this]; exact e⟩)]
  have e2 : a.defers = (putL ops.toList vs 0 a0).defers := by rw [h.defers, putL_defers]
  cases a
  cases hp : putL ops.toList vs 0 a0
  rw [hp] at e1 e2
  simp_all

/-- How many are still to come. -/
def unl (listed : Array Bool) : Nat := listed.toList.count false
theorem unl_set {listed : Array Bool} {i : Nat} (h : listed.getD i true = false) : unl (listed.setIfInBounds i true) + 1 = unl listed := by
  have hi : i < listed.size := by
    rcases Nat.lt_or_ge i listed.size with k | k
    · exact k
    · simp [Array.getD, Nat.not_lt.2 k] at h
  unfold unl
  rw [Array.toList_setIfInBounds]
  have hg : listed.toList[i]'(by simpa using hi) = false := by simpa [Array.getD, hi] using h
  rw [List.count_set (by simpa using hi), hg]
  have : 0 < listed.toList.count false := List.count_pos_iff.2 (by rw [← hg]; exact List.getElem_mem _)
  rw [if_pos (show (false == false) = true from rfl), if_neg (show ¬ (true == false) = true from by decide)]
  omega
theorem unl_zero {listed : Array Bool} (h : unl listed = 0) {j : Nat} (hj : j < listed.size) : listed.getD j false = true := by
  have h1 := List.count_eq_zero.1 h
  cases hb : listed.getD j false with
  | true => rfl
  | false =>
    refine absurd ?_ h1
    have : listed.toList[j]'(by simpa using hj) = false := by simpa [Array.getD, hj] using hb
    rw [← this]
    exact List.getElem_mem _
theorem ready_nil {md : Region.Mode} {ops : Array Oper} {listed : Array Bool} (hs : listed.size = ops.size) (ha : acyc md ops = true) (hr : Region.ready md ops listed = []) : ∀ j, j < ops.size → listed.getD j false = true := by
  intro j
  induction j using Nat.strongRecOn with
  | _ j ih =>
    intro hj
    cases hb : listed.getD j false with
    | true => rfl
    | false =>
      have hm : j ∈ Region.ready md ops listed := mem_ready.2 ⟨by simpa [Array.getD, hs, hj] using hb, ops[j], Array.getElem?_eq_getElem hj, fun e he hbi => by
        have := acyc_spec ha (Array.getElem?_eq_getElem hj) he hbi
        exact ih e.on this (by omega)⟩
      rw [hr] at hm
      cases hm

section
variable {P : Program} {ops : Array Oper} {Q : Exit → Act → World → Prop} {md : Region.Mode}

/-- One operation, whenever it comes up: what it waits for is there, and what stands in the frame's other slots is as it was. -/
def StepI (P : Program) (md : Region.Mode) (ops : Array Oper) (Q : Exit → Act → World → Prop) (Φ : Nat → Value → World → Prop) (J : Array Bool → World → Prop) (Rel : World → World → Prop) (a0 : Act) (i : Nat) (o : Oper) : Prop :=
  ∀ (listed : Array Bool) (vs : Nat → Value) (a : Act) (w : World), listed.getD i true = false → listed.size = ops.size → J listed w →
    (∀ j, waitsFor md ops j i = true → Φ j (vs j) w ∧ ∀ d, dstAt ops j = some d → a.tmps[d]?.getD undef = vs j) →
    (∀ k, noDst ops k = true → a.tmps[k]?.getD undef = a0.tmps[k]?.getD undef) →
    ∀ K' : Act → World → Prop, Shut (∀ v u, Rel w u → Φ i v u → J (listed.setIfInBounds i true) u → K' (a.put o.dst v) u) → Oper.wp P o a w K' Q

/-- The last operation, which puts nothing: A is the frame behind all others. -/
def LastI (P : Program) (ops : Array Oper) (Q : Exit → Act → World → Prop) (Φ : Nat → Value → World → Prop) (J : Array Bool → World → Prop) (a0 : Act) (t : Nat) (ot : Oper) : Prop :=
  ∀ (listed : Array Bool) (vs : Nat → Value) (w : World), listed.size = ops.size → (∀ j, j < t → listed.getD j true = true) → J listed w → (∀ i, i < t → Φ i (vs i) w) →
    ∀ A : Act, Hid (A = putL ops.toList vs 0 a0) → (∀ j d, dstAt ops j = some d → j < t → A.tmps[d]?.getD undef = vs j) → (∀ k, noDst ops k = true → A.tmps[k]?.getD undef = a0.tmps[k]?.getD undef) →
      ∀ K' : Act → World → Prop, Shut (∀ v u, Q .normal A u → K' (A.put none v) u) → Oper.wp P ot A w K' Q

theorem wpAny_full {listed : Array Bool} {a : Act} {w : World} (hs : listed.size = ops.size) (hall : ∀ j, j < ops.size → listed.getD j false = true) (h : Q .normal a w) : ∀ fuel, wpAny P md ops Q fuel listed a w := by
  have hr : Region.ready md ops listed = [] := by
    rw [List.eq_nil_iff_forall_not_mem]
    intro j hj
    obtain ⟨h1, o, ho, _⟩ := mem_ready.1 hj
    have hjl := (Array.getElem?_eq_some_iff.1 ho).1
    have h2 := hall j hjl
    simp [Array.getD, hs, hjl] at h1 h2
    rw [h1] at h2
    cases h2
  intro fuel
  cases fuel with
  | zero => exact ⟨hr, h⟩
  | succ n => exact ⟨fun _ => h, by rw [hr]; simp⟩

/-- Number t comes last, and puts nothing. -/
theorem wpAny_tail {Φ : Nat → Value → World → Prop} {J : Array Bool → World → Prop} {Rel : World → World → Prop} {a0 : Act} {t : Nat} {ot : Oper} (hok : dstsOk ops = true) (hin : dstsIn ops a0.tmps.size = true) (ha : acyc md ops = true) (hb : bare ops = true)
    (hto : ops[t]? = some ot) (htd : ot.dst = none) (htl : t + 1 = ops.size) (htw : ((List.range t).all fun j => waitsFor md ops j t) = true)
    (hrel : ∀ i v w w', Rel w w' → Φ i v w → Φ i v w')
    (hstep : ∀ i o, i < t → ops[i]? = some o → StepI P md ops Q Φ J Rel a0 i o)
    (hlast : LastI P ops Q Φ J a0 t ot) :
    ∀ (fuel : Nat) (listed : Array Bool) (vs : Nat → Value) (a : Act) (w : World), unl listed ≤ fuel → listed.size = ops.size → listed.getD t true = false → Kept ops listed vs a0 a → J listed w →
      (∀ j, j < ops.size → listed.getD j false = true → Φ j (vs j) w) → wpAny P md ops Q fuel listed a w := by
  intro fuel
  have htf : ∀ listed : Array Bool, listed.size = ops.size → listed.getD t true = false → listed.getD t false = false := by
    intro listed hs h
    have : t < listed.size := by omega
    simpa [Array.getD, this] using h
  induction fuel with
  | zero =>
    intro listed vs a w hu hs ht hk hJ hP
    have := unl_zero (Nat.le_zero.1 hu) (j := t) (by omega)
    rw [htf listed hs ht] at this
    cases this
  | succ fuel ih =>
    intro listed vs a w hu hs ht hk hJ hP
    refine ⟨fun hr => ?_, fun i hi => ?_⟩
    · have := ready_nil hs ha hr t (by omega)
      rw [htf listed hs ht] at this
      cases this
    obtain ⟨h1, o, ho, hall⟩ := mem_ready.1 hi
    have hil := (Array.getElem?_eq_some_iff.1 ho).1
    have hg : Region.wanted o (yielded ops a.tmps) = true := by
      have : o.guard = none := by
        have h2 := (Array.all_eq_true_iff_forall_mem.1 hb) o (Array.mem_of_getElem? ho)
        simpa using h2
      unfold Region.wanted
      rw [this]
    refine wpOp_step ho (fun K' hK => ?_)
    rw [if_pos hg]
    by_cases hit : i = t
    · subst hit
      rw [hto] at ho
      obtain rfl := Option.some.inj ho
      have hlo : ∀ j, j < i → listed.getD j false = true := fun j hj => by
        obtain ⟨e, he, hbi, rfl⟩ := waitsFor_spec (List.all_eq_true.1 htw j (List.mem_range.2 hj)) hto
        exact hall e he hbi
      have hput : a = putL ops.toList vs 0 a0 := hk.all (fun j hj => by
        obtain ⟨d, hd⟩ := Option.ne_none_iff_exists'.1 hj
        refine hlo j ?_
        have hjl := dstAt_lt hd
        rcases Nat.lt_or_ge j i with k | k
        · exact k
        · have hji : j = i := by omega
          subst hji
          unfold dstAt at hd
          rw [hto] at hd
          simp [htd] at hd) hok hin
      refine hlast listed vs w hs (fun j hj => by
        have := hlo j hj
        have hjs : j < listed.size := by omega
        simpa [Array.getD, hjs] using this) hJ (fun j hj => hP j (by omega) (hlo j hj)) a (Lib.hid hput) (fun j d hd hj => by rw [hk.hit j d hd (hlo j hj)]; rfl) (fun k hk' => by
        rw [hk.miss k (fun j hj => absurd hj (by
          have h3 := List.all_eq_true.1 hk' j (List.mem_range.2 (dstAt_lt hj))
          simpa using h3))]) K' (fun v u hQ => ?_)
      refine hK _ _ (wpAny_full (by simpa using hs) (fun j hj => ?_) hQ fuel)
      by_cases hji : j = i
      · subst hji
        have : j < listed.size := by omega
        simp [Array.getD, this]
      · have := getD_set_ne (listed := listed) false (Ne.symm hji)
        rw [this]
        exact hlo j (by omega)
    refine hstep i o (by omega) ho listed vs a w h1 hs hJ ?_ ?_ K' (fun v u hR hΦ hJ' => hK _ _ ?_)
    · intro j hj
      obtain ⟨e, he, hbi, rfl⟩ := waitsFor_spec hj ho
      have hl := hall e he hbi
      have hjl : e.on < ops.size := by
        rcases Nat.lt_or_ge e.on ops.size with k | k
        · exact k
        · simp [Array.getD, Nat.not_lt.2 k, hs] at hl
      refine ⟨hP _ hjl hl, fun d hd => ?_⟩
      rw [hk.hit _ d hd hl]
      rfl
    · intro k hk'
      have := hk.miss k (fun j hj => absurd hj (by
        have h3 := List.all_eq_true.1 hk' j (List.mem_range.2 (dstAt_lt hj))
        simpa using h3))
      rw [this]
    · have hne : ∀ j, j ≠ i → (listed.setIfInBounds i true).getD j false = listed.getD j false := fun j hj => getD_set_ne false (Ne.symm hj)
      have heq : (listed.setIfInBounds i true).getD i false = true := by
        have : i < listed.size := by omega
        simp [Array.getD, this]
      refine ih (listed.setIfInBounds i true) (fun j => if j = i then v else vs j) (a.put o.dst v) u (by have := unl_set h1; omega) (by simpa using hs) (by rw [getD_set_ne true hit]; exact ht) ?_ hJ' ?_
      · refine ⟨by rw [put_defers, hk.defers], by rw [put_size, hk.size], ?_, ?_⟩
        · intro j d hd hl
          by_cases hji : j = i
          · subst hji
            have hod : o.dst = some d := by unfold dstAt at hd; rw [ho] at hd; exact hd
            rw [hod, put_hit _ _ _ (by rw [hk.size]; exact dstsIn_spec hin hd), if_pos rfl]
          · rw [if_neg hji, put_miss]
            · rw [hne j hji] at hl
              exact hk.hit j d hd hl
            · intro e
              refine hji (dstsOk_spec hok hd (j := i) ?_)
              unfold dstAt
              rw [ho]
              exact e
        · intro k hm
          rw [put_miss]
          · refine hk.miss k (fun j hj => ?_)
            by_cases hji : j = i
            · subst hji
              have := hm j hj
              rw [heq] at this
              cases this
            · rw [← hne j hji]; exact hm j hj
          · intro e
            have := hm i (by unfold dstAt; rw [ho]; exact e)
            rw [heq] at this
            cases this
      · intro j hj hl
        by_cases hji : j = i
        · subst hji; simpa using hΦ
        · simp only [if_neg hji]
          rw [hne j hji] at hl
          exact hrel j _ _ _ hR (hP j hj hl)

/-- A drawn region by an invariant; its last operation stores. -/
theorem wi_tail {Φ : Nat → Value → World → Prop} {J : Array Bool → World → Prop} {Rel : World → World → Prop} {id : Nat} {a : Act} {w : World} (t : Nat) {ot : Oper} (hm : P.follows .mixedOrders = true)
    (hok : dstsOk ops = true) (hin : dstsIn ops a.tmps.size = true) (ha : acyc .any ops = true) (hb : bare ops = true)
    (hto : ops[t]? = some ot) (htd : ot.dst = none) (htl : t + 1 = ops.size) (htw : ((List.range t).all fun j => waitsFor .any ops j t) = true)
    (hrel : ∀ i v w w', Rel w w' → Φ i v w → Φ i v w') (hJ : J (Array.replicate ops.size false) w.drew)
    (hstep : ∀ i o, i < t → ops[i]? = some o → StepI P .any ops Q Φ J Rel a i o)
    (hlast : LastI P ops Q Φ J a t ot) : (Code.region id ops true).wp P Q a w := by
  refine wp_region_any hm ?_
  have hr : ∀ j, (Array.replicate ops.size false).getD j false = false := by
    intro j
    by_cases hj : j < ops.size
    · simp [Array.getD, hj]
    · simp [Array.getD, hj]
  refine wpAny_tail hok hin ha hb hto htd htl htw hrel hstep hlast ops.size (Array.replicate ops.size false) (fun _ => undef) a _ ?_ (by simp) ?_ ⟨rfl, rfl, ?_, fun _ _ => rfl⟩ hJ ?_
  · unfold unl
    simp
  · have : t < ops.size := by omega
    simp [Array.getD, this]
  · intro j d hd hl
    rw [hr] at hl
    cases hl
  · intro j hj hl
    rw [hr] at hl
    cases hl
end
end Go.Proofs.YtfiocnjogbpgoaaGreatDoor
