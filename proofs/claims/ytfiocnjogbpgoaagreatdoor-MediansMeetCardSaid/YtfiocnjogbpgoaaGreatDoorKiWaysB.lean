/- As WaysX; each operation leaves the blocks of a list. -/
import Derived.Test.YtfiocnjogbpgoaaGreatDoorKiWaysX
namespace Go.Proofs.YtfiocnjogbpgoaaGreatDoor
open Go.RowKit

/-- The blocks of a list are as they were. -/
def Kb (r : List Nat) (x y : World) : Prop := ∀ p ∈ r, y.heap[p]? = x.heap[p]?
theorem Kb.refl (r : List Nat) (x : World) : Kb r x x := fun _ _ => rfl
theorem Kb.trans {r : List Nat} {x y z : World} (h : Kb r x y) (k : Kb r y z) : Kb r x z := fun p hp => (k p hp).trans (h p hp)
theorem Kb.below {r : List Nat} {x y : World} {B : Nat} (h : Below B x y) (hr : ∀ p ∈ r, p < B) : Kb r x y := fun p hp => h.block p (hr p hp)
theorem Kb.gb {r : List Nat} {x y : World} {o : Option Nat} (h : x.grownBy y o) (hr : ∀ p ∈ r, p < x.heap.size ∧ some p ≠ o) : Kb r x y := fun p hp => h.block p (hr p hp).1 (hr p hp).2
theorem Blk.kb {w w' : World} {p : Nat} {r : List Nat} {cs : List Value} {t : TypeId} (h : Blk w p cs t) (hb : Kb r w w') (hp : p ∈ r) : Blk w' p cs t := (hb p hp).trans h

section
variable {P : Program} {ops : Array Oper} {Q : Exit → Act → World → Prop} {md : Region.Mode} {R : World → World → Prop}

/-- Whatever is picked from here on; each operation that is carried out leads on by Kb r, but for those of st. -/
def wpB (P : Program) (md : Region.Mode) (ops : Array Oper) (Q : Exit → Act → World → Prop) (r : List Nat) (st : List Nat) : Nat → Array Bool → Act → World → Prop
  | 0, listed, a, w => Region.ready md ops listed = [] ∧ Q .normal a w
  | fuel + 1, listed, a, w => (Region.ready md ops listed = [] → Q .normal a w) ∧
    ∀ i ∈ Region.ready md ops listed, wpOp P ops Q i (fun a' w' => (st.contains i = true ∨ Kb r w w') ∧ wpB P md ops Q r st fuel (listed.setIfInBounds i true) a' w') a w

theorem wpAny_of_B {r : List Nat} {st : List Nat} : ∀ (fuel : Nat) (listed : Array Bool) (a : Act) (w : World), wpB P md ops Q r st fuel listed a w → wpAny P md ops Q fuel listed a w
  | 0, _, _, _, h => ⟨h.1, h.2⟩
  | _ + 1, _, _, _, h => ⟨h.1, fun i hi => wpOp_mono (fun a' w' h' => wpAny_of_B _ _ a' w' h'.2) (h.2 i hi)⟩

theorem wpB_first {r : List Nat} {st : List Nat} (hrr : ∀ x : World, R x x) (ht : ∀ x y z : World, R x y → R y z → R x z) {i : Nat} {oi : Oper} {v : Value} (hi : ops[i]? = some oi) (hsel : ∀ (j : Nat) (o : Oper) cs b, ops[j]? = some o → o.op ≠ .select cs b)
    (hQ : ∀ c a w, Q (.panic c) (a.put oi.dst v) w → Q (.panic c) a w)
    (hE : ∀ j oj x y, ops[j]? = some oj → (∀ e ∈ oj.after, Region.binds md e = true → e.on ≠ i) → st.contains j = true ∨ Kb r x y → R x y) :
    ∀ (fuel : Nat) (listed : Array Bool) (a : Act) (w : World),
      (∀ j oj, ops[j]? = some oj → j ≠ i → listed.getD j true = false → (∀ e ∈ oj.after, Region.binds md e = true → e.on ≠ i) → oi.apart ops oj = true) →
      i ∈ Region.ready md ops listed → Reads1 P ops R oi v a w →
      wpB P md ops Q r st fuel (listed.setIfInBounds i true) (a.put oi.dst v) w → wpB P md ops Q r st (fuel + 1) listed a w := by
  intro fuel
  induction fuel with
  | zero =>
    intro listed a w _ hr hy H
    refine ⟨fun h => (by rw [h] at hr; cases hr), fun j hj => ?_⟩
    by_cases hji : j = i
    · subst hji; exact hy.wpOp hi (hrr w) ⟨.inr (Kb.refl r w), H⟩
    · have := ready_mono hj hji
      rw [H.1] at this
      cases this
  | succ fuel ih =>
    intro listed a w hfree hr hy H
    refine ⟨fun h => (by rw [h] at hr; cases hr), fun j hj => ?_⟩
    by_cases hji : j = i
    · subst hji; exact hy.wpOp hi (hrr w) ⟨.inr (Kb.refl r w), H⟩
    · obtain ⟨hjun, oj, hoj, hall⟩ := mem_ready.1 hj
      have hnot : ∀ e ∈ oj.after, Region.binds md e = true → e.on ≠ i := fun e he hb heq => by
        have h1 := hall e he hb
        have h0 := (mem_ready.1 hr).1
        rw [heq] at h1
        rcases Nat.lt_or_ge i listed.size with h' | h'
        · simp [h'] at h0 h1; rw [h0] at h1; cases h1
        · simp [Array.getElem?_eq_none h'] at h1
      have h1 := H.2 j (ready_mono hj hji)
      have h2 := wpOp_putX ht hoj (hfree j oj hoj hji hjun hnot) (fun cs b => hsel i oi cs b hi) (fun cs b => hsel j oj cs b hoj) hQ (fun x hx => hE j oj w x hoj hnot hx) hy h1
      have hfree' : ∀ k ok, ops[k]? = some ok → k ≠ i → (listed.setIfInBounds j true).getD k true = false →
          (∀ e ∈ ok.after, Region.binds md e = true → e.on ≠ i) → oi.apart ops ok = true := fun k ok hk hki hun hno => by
        refine hfree k ok hk hki ?_ hno
        by_cases hjk : j = k
        · subst hjk; exact hjun
        · rw [getD_set_ne true hjk] at hun; exact hun
      refine wpOp_mono (fun a' w' h3 => ⟨h3.2.1, ih (listed.setIfInBounds j true) a' w' hfree' (ready_mono hr (Ne.symm hji)) h3.1 ?_⟩) h2
      rw [Array.setIfInBounds_comm _ _ hji]
      exact h3.2.2
end

section
variable {P : Program} {ops : Array Oper} {Q : Exit → Act → World → Prop} {md : Region.Mode} {r : List Nat} {st : List Nat}

theorem wb_begin (r : List Nat) (st : List Nat) {id : Nat} {a : Act} {w : World} (hm : P.follows .mixedOrders = true)
    (h : ∀ u, Below w.heap.size w u → u.heap.size = w.heap.size → wpB P .any ops Q r st ops.size (Array.replicate ops.size false) a u) : (Code.region id ops true).wp P Q a w :=
  wp_region_any hm (wpAny_of_B _ _ _ _ (h w.drew ⟨rfl, rfl, rfl, Nat.le_refl _, fun _ _ => rfl⟩ rfl))

/-- An operation that reads memory: those of st wait for it. -/
theorem wb_take {i : Nat} {oi : Oper} {d : Option Tmp} {v : Value} {fuel : Nat} {listed : Array Bool} {a : Act} {w : World} (hi : ops[i]? = some oi) (hd : oi.dst = d)
    (hs : Region.noSelect ops = true) (hf : Region.free md ops listed i = true) (hr : (Region.ready md ops listed).contains i = true)
    (hQ : ∀ c a w, Q (.panic c) (a.put d v) w → Q (.panic c) a w) (hw : Region.wanted oi (yielded ops a.tmps) = true) (hst : (st.all fun j => waitsFor md ops i j) = true)
    (hy : ∀ u, Kb r w u → (execOp a.eval oi).run P u = .ok (.value v) u)
    (h : wpB P md ops Q r st fuel (listed.setIfInBounds i true) (a.put d v) w) : wpB P md ops Q r st (fuel + 1) listed a w := by
  subst hd
  refine wpB_first (R := Kb r) (fun x => Kb.refl r x) (fun _ _ _ => Kb.trans) hi (Region.noSelect_spec hs) hQ (fun j oj x y hj hno hxy => ?_) fuel listed a w (Region.free_spec hi hf) (by simpa using hr) (.inl ⟨hw, hy⟩) h
  rcases hxy with hxy | hxy
  · obtain ⟨e, he, hb, ho⟩ := waitsFor_spec (List.all_eq_true.1 hst j (by simpa using hxy)) hj
    exact absurd ho (hno e he hb)
  · exact hxy

/-- An operation that reads nothing. -/
theorem wb_pure {i : Nat} {oi : Oper} {d : Option Tmp} {v : Value} {fuel : Nat} {listed : Array Bool} {a : Act} {w : World} (hi : ops[i]? = some oi) (hd : oi.dst = d)
    (hs : Region.noSelect ops = true) (hf : Region.free md ops listed i = true) (hr : (Region.ready md ops listed).contains i = true)
    (hQ : ∀ c a w, Q (.panic c) (a.put d v) w → Q (.panic c) a w) (hw : Region.wanted oi (yielded ops a.tmps) = true)
    (hy : ∀ u, (execOp a.eval oi).run P u = .ok (.value v) u)
    (h : wpB P md ops Q r st fuel (listed.setIfInBounds i true) (a.put d v) w) : wpB P md ops Q r st (fuel + 1) listed a w := by
  subst hd
  exact wpB_first (R := fun _ _ => True) (fun _ => trivial) (fun _ _ _ _ _ => trivial) hi (Region.noSelect_spec hs) hQ (fun _ _ _ _ _ _ _ => trivial) fuel listed a w (Region.free_spec hi hf) (by simpa using hr) (.inl ⟨hw, fun u _ => hy u⟩) h

/-- Number i alone may come up. -/
theorem wb_one {i : Nat} {o : Oper} {fuel : Nat} {listed : Array Bool} {a : Act} {w : World} (ho : ops[i]? = some o) (hr : Region.ready md ops listed = [i]) (hw : Region.wanted o (yielded ops a.tmps) = true)
    (h : ∀ K' : Act → World → Prop, Shut (∀ a' u', Kb r w u' → wpB P md ops Q r st fuel (listed.setIfInBounds i true) a' u' → K' a' u') → Oper.wp P o a w K' Q) :
    wpB P md ops Q r st (fuel + 1) listed a w := by
  refine ⟨fun h0 => (by rw [h0] at hr; cases hr), fun j hj => ?_⟩
  rw [hr] at hj
  obtain rfl : j = i := by simpa using hj
  refine wpOp_step ho (fun K' hK => ?_)
  rw [if_pos hw]
  exact h K' (fun a' u' hg hR => hK a' u' ⟨.inr hg, hR⟩)

/-- Number i, one of st, alone may come up. -/
theorem wb_store {i : Nat} {o : Oper} {fuel : Nat} {listed : Array Bool} {a : Act} {w : World} (ho : ops[i]? = some o) (hr : Region.ready md ops listed = [i]) (hw : Region.wanted o (yielded ops a.tmps) = true) (hst : st.contains i = true)
    (h : ∀ K' : Act → World → Prop, Shut (∀ a' u', wpB P md ops Q r st fuel (listed.setIfInBounds i true) a' u' → K' a' u') → Oper.wp P o a w K' Q) :
    wpB P md ops Q r st (fuel + 1) listed a w := by
  refine ⟨fun h0 => (by rw [h0] at hr; cases hr), fun j hj => ?_⟩
  rw [hr] at hj
  obtain rfl : j = i := by simpa using hj
  refine wpOp_step ho (fun K' hK => ?_)
  rw [if_pos hw]
  exact h K' (fun a' u' hR => hK a' u' ⟨.inl hst, hR⟩)

/-- Numbers i and k may come up. -/
theorem wb_two {i k : Nat} {o q : Oper} {fuel : Nat} {listed : Array Bool} {a : Act} {w : World} (ho : ops[i]? = some o) (hq : ops[k]? = some q) (hr : Region.ready md ops listed = [i, k])
    (hw : Region.wanted o (yielded ops a.tmps) = true) (hw' : Region.wanted q (yielded ops a.tmps) = true)
    (h : ∀ K' : Act → World → Prop, Shut (∀ a' u', Kb r w u' → wpB P md ops Q r st fuel (listed.setIfInBounds i true) a' u' → K' a' u') → Oper.wp P o a w K' Q)
    (h' : ∀ K' : Act → World → Prop, Shut (∀ a' u', Kb r w u' → wpB P md ops Q r st fuel (listed.setIfInBounds k true) a' u' → K' a' u') → Oper.wp P q a w K' Q) :
    wpB P md ops Q r st (fuel + 1) listed a w := by
  refine ⟨fun h0 => (by rw [h0] at hr; cases hr), fun j hj => ?_⟩
  rw [hr] at hj
  have hj' : j = i ∨ j = k := by simpa using hj
  rcases hj' with rfl | rfl
  · refine wpOp_step ho (fun K' hK => ?_)
    rw [if_pos hw]
    exact h K' (fun a' u' hg hR => hK a' u' ⟨.inr hg, hR⟩)
  · refine wpOp_step hq (fun K' hK => ?_)
    rw [if_pos hw']
    exact h' K' (fun a' u' hg hR => hK a' u' ⟨.inr hg, hR⟩)

/-- A new block is made: the world gets a name. -/
theorem wb_new {cs : List Value} {t : TypeId} {fuel : Nat} {listed : Array Bool} {a : Act} {w : World}
    (h : ∀ u, Below w.heap.size w u → Blk u w.heap.size cs t → u.heap.size = w.heap.size + 1 → wpB P md ops Q r st fuel listed a u) : wpB P md ops Q r st fuel listed a (w.alloc (.cells cs.toArray t)) :=
  h _ ((Below.refl _ _).alloc (Nat.le_refl _) _) (Blk.new w cs t) (by simp)

/-- All have come up. -/
theorem wb_done {listed : Array Bool} {a : Act} {w : World} (hr : Region.ready md ops listed = []) (h : Q .normal a w) : ∀ fuel, wpB P md ops Q r st fuel listed a w
  | 0 => ⟨hr, h⟩
  | _ + 1 => ⟨fun _ => h, by rw [hr]; simp⟩
end
end Go.Proofs.YtfiocnjogbpgoaaGreatDoor
