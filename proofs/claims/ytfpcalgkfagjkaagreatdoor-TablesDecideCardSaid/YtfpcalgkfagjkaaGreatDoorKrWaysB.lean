/- As WaysX; each operation leaves the blocks of a list. -/
import Derived.Test.YtfpcalgkfagjkaaGreatDoorKrGzA
import Derived.Test.YtfpcalgkfagjkaaGreatDoorKrWays
namespace Go.Proofs.YtfpcalgkfagjkaaGreatDoor
open Go.RowKit

section
variable {P : Program} {ops : Array Oper} {Q : Exit → Act → World → Prop} {md : Region.Mode} {R : World → World → Prop}

def Reads1 (P : Program) (ops : Array Oper) (R : World → World → Prop) (o : Oper) (v : Value) (a : Act) (w : World) : Prop :=
  (Region.wanted o (yielded ops a.tmps) = true ∧ ∀ u, R w u → (execOp a.eval o).run P u = .ok (.value v) u) ∨
  (Region.wanted o (yielded ops a.tmps) = false ∧ v = undef)

theorem Reads1.wpOp {i : Nat} {o : Oper} {v : Value} {a : Act} {w : World} (hi : ops[i]? = some o) (hy : Reads1 P ops R o v a w) (hr : R w w)
    {K : Act → World → Prop} (h : K (a.put o.dst v) w) : wpOp P ops Q i K a w := by
  unfold Go.wpOp
  simp only [hi]
  rcases hy with ⟨hw, hv⟩ | ⟨hw, rfl⟩
  · simp only [hw, if_true]
    refine .inl ?_
    unfold Oper.wp
    rw [hv w hr]
    exact h
  · simp only [hw, Bool.false_eq_true, if_false]; exact h

theorem Reads1.of_same {o : Oper} {v : Value} {a a' : Act} {w : World} (hy : Reads1 P ops R o v a w) (he : execOp a'.eval o = execOp a.eval o)
    (hw : Region.wanted o (yielded ops a'.tmps) = Region.wanted o (yielded ops a.tmps)) : Reads1 P ops R o v a' w := by
  unfold Reads1 at *
  rw [he, hw]
  exact hy

theorem Reads1.later {o : Oper} {v : Value} {a : Act} {w u : World} (ht : ∀ x y z : World, R x y → R y z → R x z) (hy : Reads1 P ops R o v a w) (hu : R w u) : Reads1 P ops R o v a u :=
  hy.imp (fun ⟨hw, hv⟩ => ⟨hw, fun _ hx => hv _ (ht _ _ _ hu hx)⟩) id

theorem wpOp_putX {j : Nat} {oi oj : Oper} {v : Value} (ht : ∀ x y z : World, R x y → R y z → R x z) (hj : ops[j]? = some oj) (hap : oi.apart ops oj = true)
    (hsi : ∀ cs b, oi.op ≠ .select cs b) (hsj : ∀ cs b, oj.op ≠ .select cs b)
    (hQ : ∀ c a w, Q (.panic c) (a.put oi.dst v) w → Q (.panic c) a w) {K : Act → World → Prop} {a : Act} {w : World} {E : World → Prop} (hE : ∀ x, E x → R w x)
    (hy : Reads1 P ops R oi v a w) (h : wpOp P ops Q j (fun a' w' => E w' ∧ K a' w') (a.put oi.dst v) w) :
    wpOp P ops Q j (fun a' w' => Reads1 P ops R oi v a' w' ∧ E w' ∧ K (a'.put oi.dst v) w') a w := by
  obtain ⟨h1, h2, h3⟩ := Oper.apart_spec hap
  have keep : ∀ (a : Act), Reads1 P ops R oi v a w → ∀ x u', E u' → Reads1 P ops R oi v (a.put oj.dst x) u' := fun a hy x u' hu' =>
    (hy.of_same (execOp_put oi hsi a oj.dst x h3) (wanted_put oi a oj.dst x h3)).later ht (hE _ hu')
  have keepD : ∀ d, Reads1 P ops R oi v { a with defers := d :: a.defers } w := fun d => hy.of_same rfl rfl
  unfold wpOp at *
  simp only [hj] at *
  rw [wanted_put oj a oi.dst v h1] at h
  split
  · rename_i hw
    simp only [hw, if_true] at h
    rcases h with h | ⟨hasks, hlets⟩
    case inr => exact .inr ⟨by unfold Oper.asks at *; rw [execOp_put oj hsj a oi.dst v h1] at hasks; exact hasks, hlets⟩
    refine .inl ?_
    unfold Oper.wp at *
    rw [execOp_put oj hsj a oi.dst v h1] at h
    generalize (execOp a.eval oj).run P w = r at *
    cases r with
    | ok n w' =>
      cases n <;> simp only [Oper.upon] at h ⊢
      case value x => exact ⟨keep a hy x _ h.1, h.1, by rw [← Act.put_comm a v x h2]; exact h.2⟩
      case skip => exact ⟨keep a hy _ _ h.1, h.1, by rw [← Act.put_comm a v undef h2]; exact h.2⟩
      case defer d =>
        refine ⟨keep _ (keepD d) _ _ h.1, h.1, ?_⟩
        rw [← Act.put_comm _ v undef h2, ← Act.put_defers]
        exact h.2
      case enter f args =>
        refine Calls.mono h fun e w'' he => ?_
        cases e with
        | returned x => exact ⟨keep a hy x _ he.1, he.1, by rw [← Act.put_comm a v x h2]; exact he.2⟩
        | panicked c => exact hQ _ _ _ he
        | outgrown => exact he
      case row row args => exact Rows.mono h fun x w'' he => ⟨keep a hy x _ he.1, he.1, by rw [← Act.put_comm a v x h2]; exact he.2⟩
    | halt x w' =>
      cases x <;> simp only [Oper.upon] at h ⊢
      case panic x => exact hQ _ _ _ h
  · rename_i hw
    simp only [hw] at h
    exact ⟨keep a hy _ _ h.1, h.1, by rw [← Act.put_comm a v undef h2]; exact h.2⟩

def wpX (P : Program) (md : Region.Mode) (ops : Array Oper) (Q : Exit → Act → World → Prop) (r : Option Nat) (st : List Nat) : Nat → Array Bool → Act → World → Prop
  | 0, listed, a, w => Region.ready md ops listed = [] ∧ Q .normal a w
  | fuel + 1, listed, a, w => (Region.ready md ops listed = [] → Q .normal a w) ∧
    ∀ i ∈ Region.ready md ops listed, wpOp P ops Q i (fun a' w' => (st.contains i = true ∨ Gb r w w') ∧ wpX P md ops Q r st fuel (listed.setIfInBounds i true) a' w') a w

theorem wpAny_of_X {r : Option Nat} {st : List Nat} : ∀ (fuel : Nat) (listed : Array Bool) (a : Act) (w : World), wpX P md ops Q r st fuel listed a w → wpAny P md ops Q fuel listed a w
  | 0, _, _, _, h => ⟨h.1, h.2⟩
  | _ + 1, _, _, _, h => ⟨h.1, fun i hi => wpOp_mono (fun a' w' h' => wpAny_of_X _ _ a' w' h'.2) (h.2 i hi)⟩

theorem wpX_first {r : Option Nat} {st : List Nat} (hrr : ∀ x : World, R x x) (ht : ∀ x y z : World, R x y → R y z → R x z) {i : Nat} {oi : Oper} {v : Value} (hi : ops[i]? = some oi) (hsel : ∀ (j : Nat) (o : Oper) cs b, ops[j]? = some o → o.op ≠ .select cs b)
    (hQ : ∀ c a w, Q (.panic c) (a.put oi.dst v) w → Q (.panic c) a w)
    (hE : ∀ j oj x y, ops[j]? = some oj → (∀ e ∈ oj.after, Region.binds md e = true → e.on ≠ i) → st.contains j = true ∨ Gb r x y → R x y) :
    ∀ (fuel : Nat) (listed : Array Bool) (a : Act) (w : World),
      (∀ j oj, ops[j]? = some oj → j ≠ i → listed.getD j true = false → (∀ e ∈ oj.after, Region.binds md e = true → e.on ≠ i) → oi.apart ops oj = true) →
      i ∈ Region.ready md ops listed → Reads1 P ops R oi v a w →
      wpX P md ops Q r st fuel (listed.setIfInBounds i true) (a.put oi.dst v) w → wpX P md ops Q r st (fuel + 1) listed a w := by
  intro fuel
  induction fuel with
  | zero =>
    intro listed a w _ hr hy H
    refine ⟨fun h => (by rw [h] at hr; cases hr), fun j hj => ?_⟩
    by_cases hji : j = i
    · subst hji; exact hy.wpOp hi (hrr w) ⟨.inr (gb_refl w r), H⟩
    · have := ready_mono hj hji
      rw [H.1] at this
      cases this
  | succ fuel ih =>
    intro listed a w hfree hr hy H
    refine ⟨fun h => (by rw [h] at hr; cases hr), fun j hj => ?_⟩
    by_cases hji : j = i
    · subst hji; exact hy.wpOp hi (hrr w) ⟨.inr (gb_refl w r), H⟩
    · obtain ⟨hjun, oj, hoj, hall⟩ := mem_ready.1 hj
      have hnot : ∀ e ∈ oj.after, Region.binds md e = true → e.on ≠ i := fun e he hb heq => by
        have h1 := hall e he hb
        have h0 := (mem_ready.1 hr).1
        rw [heq] at h1
        rcases Nat.lt_or_ge i listed.size with h' | h'
        · simp [h'] at h0 h1; rw [h0] at h1; cases h1
        · simp [Array.getElem?_eq_none h'] at h1
      have h1 := H.2 j (ready_mono hj hji)
      have h2 := wpOp_putX ht hoj (hfree j oj hoj hji hjun hnot) (fun cs b => hsel i oi cs b hi) (fun cs b => hsel j oj cs b hoj) hQ (fun x hx => hE j oj w x hoj hnot hx) hy h1
      have hfree' : ∀ k ok, ops[k]? = some ok → k ≠ i → (listed.setIfInBounds j true).getD k true = false →
          (∀ e ∈ ok.after, Region.binds md e = true → e.on ≠ i) → oi.apart ops ok = true := fun k ok hk hki hun hno => by
        refine hfree k ok hk hki ?_ hno
        by_cases hjk : j = k
        · subst hjk; exact hjun
        · rw [getD_set_ne true hjk] at hun; exact hun
      refine wpOp_mono (fun a' w' h3 => ⟨h3.2.1, ih (listed.setIfInBounds j true) a' w' hfree' (ready_mono hr (Ne.symm hji)) h3.1 ?_⟩) h2
      rw [Array.setIfInBounds_comm _ _ hji]
      exact h3.2.2
end

def waitsFor (md : Region.Mode) (ops : Array Oper) (i j : Nat) : Bool := ((ops[j]?).map fun o => o.after.any fun e => Region.binds md e && e.on == i).getD false
theorem waitsFor_spec {md : Region.Mode} {ops : Array Oper} {i j : Nat} {oj : Oper} (h : waitsFor md ops i j = true) (hj : ops[j]? = some oj) : ∃ e ∈ oj.after, Region.binds md e = true ∧ e.on = i := by
  unfold waitsFor at h
  rw [hj] at h
  simp only [Option.map_some, Option.getD_some] at h
  obtain ⟨e, he, hb⟩ := Array.any_eq_true'.1 h
  simp only [Bool.and_eq_true, beq_iff_eq] at hb
  exact ⟨e, he, hb.1, hb.2⟩

section
variable {P : Program} {ops : Array Oper} {Q : Exit → Act → World → Prop} {md : Region.Mode} {r : Option Nat} {st : List Nat}

theorem wx_begin (r : Option Nat) (st : List Nat) {id : Nat} {a : Act} {w : World} (hm : P.follows .mixedOrders = true)
    (h : ∀ u, Below w.heap.size w u → u.heap.size = w.heap.size → wpX P .any ops Q r st ops.size (Array.replicate ops.size false) a u) : (Code.region id ops true).wp P Q a w :=
  wp_region_any hm (wpAny_of_X _ _ _ _ (h w.drew ⟨rfl, rfl, rfl, Nat.le_refl _, fun _ _ => rfl⟩ rfl))

theorem wx_take {i : Nat} {oi : Oper} {d : Option Tmp} {v : Value} {fuel : Nat} {listed : Array Bool} {a : Act} {w : World} (hi : ops[i]? = some oi) (hd : oi.dst = d)
    (hs : Region.noSelect ops = true) (hf : Region.free md ops listed i = true) (hr : (Region.ready md ops listed).contains i = true)
    (hQ : ∀ c a w, Q (.panic c) (a.put d v) w → Q (.panic c) a w) (hw : Region.wanted oi (yielded ops a.tmps) = true) (hst : (st.all fun j => waitsFor md ops i j) = true)
    (hy : ∀ u, w.grownBy u r → (execOp a.eval oi).run P u = .ok (.value v) u)
    (h : wpX P md ops Q r st fuel (listed.setIfInBounds i true) (a.put d v) w) : wpX P md ops Q r st (fuel + 1) listed a w := by
  subst hd
  refine wpX_first (R := Gb r) (fun x => gb_refl x r) (fun _ _ _ => gb_trans) hi (Region.noSelect_spec hs) hQ (fun j oj x y hj hno hxy => ?_) fuel listed a w (Region.free_spec hi hf) (by simpa using hr) (.inl ⟨hw, hy⟩) h
  rcases hxy with hxy | hxy
  · obtain ⟨e, he, hb, ho⟩ := waitsFor_spec (List.all_eq_true.1 hst j (by simpa using hxy)) hj
    exact absurd ho (hno e he hb)
  · exact hxy

theorem wx_pure {i : Nat} {oi : Oper} {d : Option Tmp} {v : Value} {fuel : Nat} {listed : Array Bool} {a : Act} {w : World} (hi : ops[i]? = some oi) (hd : oi.dst = d)
    (hs : Region.noSelect ops = true) (hf : Region.free md ops listed i = true) (hr : (Region.ready md ops listed).contains i = true)
    (hQ : ∀ c a w, Q (.panic c) (a.put d v) w → Q (.panic c) a w) (hw : Region.wanted oi (yielded ops a.tmps) = true)
    (hy : ∀ u, (execOp a.eval oi).run P u = .ok (.value v) u)
    (h : wpX P md ops Q r st fuel (listed.setIfInBounds i true) (a.put d v) w) : wpX P md ops Q r st (fuel + 1) listed a w := by
  subst hd
  exact wpX_first (R := fun _ _ => True) (fun _ => trivial) (fun _ _ _ _ _ => trivial) hi (Region.noSelect_spec hs) hQ (fun _ _ _ _ _ _ _ => trivial) fuel listed a w (Region.free_spec hi hf) (by simpa using hr) (.inl ⟨hw, fun u _ => hy u⟩) h

theorem wx_one {i : Nat} {o : Oper} {fuel : Nat} {listed : Array Bool} {a : Act} {w : World} (ho : ops[i]? = some o) (hr : Region.ready md ops listed = [i]) (hw : Region.wanted o (yielded ops a.tmps) = true)
    (h : ∀ K' : Act → World → Prop, Shut (∀ a' u', w.grownBy u' r → wpX P md ops Q r st fuel (listed.setIfInBounds i true) a' u' → K' a' u') → Oper.wp P o a w K' Q) :
    wpX P md ops Q r st (fuel + 1) listed a w := by
  refine ⟨fun h0 => (by rw [h0] at hr; cases hr), fun j hj => ?_⟩
  rw [hr] at hj
  obtain rfl : j = i := by simpa using hj
  refine wpOp_step ho (fun K' hK => ?_)
  rw [if_pos hw]
  exact h K' (fun a' u' hg hR => hK a' u' ⟨.inr hg, hR⟩)

theorem wx_done {listed : Array Bool} {a : Act} {w : World} (hr : Region.ready md ops listed = []) (h : Q .normal a w) : ∀ fuel, wpX P md ops Q r st fuel listed a w
  | 0 => ⟨hr, h⟩
  | _ + 1 => ⟨fun _ => h, by rw [hr]; simp⟩
theorem wx_takeZ (i : Nat) {oi : Oper} (d : Option Tmp) {v : Value} {fuel : Nat} {listed : Array Bool} {a : Act} {w : World}
    (hy : ∀ u, w.grownBy u r → (execOp a.eval oi).run P u = .ok (.value v) u) (h : wpX P md ops Q r st fuel (listed.setIfInBounds i true) (a.put d v) w)
    (hi : ops[i]? = some oi := by simp only [gzA, gzB, gzC] <;> rfl) (hd : oi.dst = d := by rfl) (hs : Region.noSelect ops = true := by kernel_rfl) (hf : Region.free md ops listed i = true := by kernel_rfl) (hr : (Region.ready md ops listed).contains i = true := by kernel_rfl) (hQ : ∀ c a w, Q (.panic c) (a.put d v) w → Q (.panic c) a w := by exact fun _ _ _ h => h) (hw : Region.wanted oi (yielded ops a.tmps) = true := by rfl) (hst : (st.all fun j => waitsFor md ops i j) = true := by kernel_rfl)
    : wpX P md ops Q r st (fuel + 1) listed a w :=
  wx_take hi hd hs hf hr hQ hw hst hy h
theorem wx_pureZ (i : Nat) {oi : Oper} (d : Option Tmp) {v : Value} {fuel : Nat} {listed : Array Bool} {a : Act} {w : World}
    (hy : ∀ u, (execOp a.eval oi).run P u = .ok (.value v) u) (h : wpX P md ops Q r st fuel (listed.setIfInBounds i true) (a.put d v) w)
    (hi : ops[i]? = some oi := by simp only [gzA, gzB, gzC] <;> rfl) (hd : oi.dst = d := by rfl) (hs : Region.noSelect ops = true := by kernel_rfl) (hf : Region.free md ops listed i = true := by kernel_rfl) (hr : (Region.ready md ops listed).contains i = true := by kernel_rfl) (hQ : ∀ c a w, Q (.panic c) (a.put d v) w → Q (.panic c) a w := by exact fun _ _ _ h => h) (hw : Region.wanted oi (yielded ops a.tmps) = true := by rfl)
    : wpX P md ops Q r st (fuel + 1) listed a w :=
  wx_pure hi hd hs hf hr hQ hw hy h
theorem wx_oneZ (i : Nat) {o : Oper} {fuel : Nat} {listed : Array Bool} {a : Act} {w : World}
    (h : ∀ K' : Act → World → Prop, Shut (∀ a' u', w.grownBy u' r → wpX P md ops Q r st fuel (listed.setIfInBounds i true) a' u' → K' a' u') → Oper.wp P o a w K' Q)
    (ho : ops[i]? = some o := by simp only [gzA, gzB, gzC] <;> rfl) (hr : Region.ready md ops listed = [i] := by kernel_rfl) (hw : Region.wanted o (yielded ops a.tmps) = true := by rfl)
    :
    wpX P md ops Q r st (fuel + 1) listed a w :=
  wx_one ho hr hw h
end

def Kb (r : List Nat) (x y : World) : Prop := ∀ p ∈ r, y.heap[p]? = x.heap[p]?
theorem Kb.refl (r : List Nat) (x : World) : Kb r x x := fun _ _ => rfl
theorem Kb.trans {r : List Nat} {x y z : World} (h : Kb r x y) (k : Kb r y z) : Kb r x z := fun p hp => (k p hp).trans (h p hp)
theorem Kb.below {r : List Nat} {x y : World} {B : Nat} (h : Below B x y) (hr : ∀ p ∈ r, p < B) : Kb r x y := fun p hp => h.block p (hr p hp)
theorem Kb.gb {r : List Nat} {x y : World} {o : Option Nat} (h : x.grownBy y o) (hr : ∀ p ∈ r, p < x.heap.size ∧ some p ≠ o) : Kb r x y := fun p hp => h.block p (hr p hp).1 (hr p hp).2
theorem Blk.kb {w w' : World} {p : Nat} {r : List Nat} {cs : List Value} {t : TypeId} (h : Blk w p cs t) (hb : Kb r w w') (hp : p ∈ r) : Blk w' p cs t := (hb p hp).trans h

section
variable {P : Program} {ops : Array Oper} {Q : Exit → Act → World → Prop} {md : Region.Mode} {R : World → World → Prop}

def wpB (P : Program) (md : Region.Mode) (ops : Array Oper) (Q : Exit → Act → World → Prop) (r : List Nat) (st : List Nat) : Nat → Array Bool → Act → World → Prop
  | 0, listed, a, w => Region.ready md ops listed = [] ∧ Q .normal a w
  | fuel + 1, listed, a, w => (Region.ready md ops listed = [] → Q .normal a w) ∧
    ∀ i ∈ Region.ready md ops listed, wpOp P ops Q i (fun a' w' => (st.contains i = true ∨ Kb r w w') ∧ wpB P md ops Q r st fuel (listed.setIfInBounds i true) a' w') a w

theorem wpAny_of_B {r : List Nat} {st : List Nat} : ∀ (fuel : Nat) (listed : Array Bool) (a : Act) (w : World), wpB P md ops Q r st fuel listed a w → wpAny P md ops Q fuel listed a w
  | 0, _, _, _, h => ⟨h.1, h.2⟩
  | _ + 1, _, _, _, h => ⟨h.1, fun i hi => wpOp_mono (fun a' w' h' => wpAny_of_B _ _ a' w' h'.2) (h.2 i hi)⟩

theorem wpB_first {r : List Nat} {st : List Nat} (hrr : ∀ x : World, R x x) (ht : ∀ x y z : World, R x y → R y z → R x z) {i : Nat} {oi : Oper} {v : Value} (hi : ops[i]? = some oi) (hsel : ∀ (j : Nat) (o : Oper) cs b, ops[j]? = some o → o.op ≠ .select cs b)
    (hQ : ∀ c a w, Q (.panic c) (a.put oi.dst v) w → Q (.panic c) a w)
    (hE : ∀ j oj x y, ops[j]? = some oj → (∀ e ∈ oj.after, Region.binds md e = true → e.on ≠ i) → st.contains j = true ∨ Kb r x y → R x y) :
    ∀ (fuel : Nat) (listed : Array Bool) (a : Act) (w : World),
      (∀ j oj, ops[j]? = some oj → j ≠ i → listed.getD j true = false → (∀ e ∈ oj.after, Region.binds md e = true → e.on ≠ i) → oi.apart ops oj = true) →
      i ∈ Region.ready md ops listed → Reads1 P ops R oi v a w →
      wpB P md ops Q r st fuel (listed.setIfInBounds i true) (a.put oi.dst v) w → wpB P md ops Q r st (fuel + 1) listed a w := by
  intro fuel
  induction fuel with
  | zero =>
    intro listed a w _ hr hy H
    refine ⟨fun h => (by rw [h] at hr; cases hr), fun j hj => ?_⟩
    by_cases hji : j = i
    · subst hji; exact hy.wpOp hi (hrr w) ⟨.inr (Kb.refl r w), H⟩
    · have := ready_mono hj hji
      rw [H.1] at this
      cases this
  | succ fuel ih =>
    intro listed a w hfree hr hy H
    refine ⟨fun h => (by rw [h] at hr; cases hr), fun j hj => ?_⟩
    by_cases hji : j = i
    · subst hji; exact hy.wpOp hi (hrr w) ⟨.inr (Kb.refl r w), H⟩
    · obtain ⟨hjun, oj, hoj, hall⟩ := mem_ready.1 hj
      have hnot : ∀ e ∈ oj.after, Region.binds md e = true → e.on ≠ i := fun e he hb heq => by
        have h1 := hall e he hb
        have h0 := (mem_ready.1 hr).1
        rw [heq] at h1
        rcases Nat.lt_or_ge i listed.size with h' | h'
        · simp [h'] at h0 h1; rw [h0] at h1; cases h1
        · simp [Array.getElem?_eq_none h'] at h1
      have h1 := H.2 j (ready_mono hj hji)
      have h2 := wpOp_putX ht hoj (hfree j oj hoj hji hjun hnot) (fun cs b => hsel i oi cs b hi) (fun cs b => hsel j oj cs b hoj) hQ (fun x hx => hE j oj w x hoj hnot hx) hy h1
      have hfree' : ∀ k ok, ops[k]? = some ok → k ≠ i → (listed.setIfInBounds j true).getD k true = false →
          (∀ e ∈ ok.after, Region.binds md e = true → e.on ≠ i) → oi.apart ops ok = true := fun k ok hk hki hun hno => by
        refine hfree k ok hk hki ?_ hno
        by_cases hjk : j = k
        · subst hjk; exact hjun
        · rw [getD_set_ne true hjk] at hun; exact hun
      refine wpOp_mono (fun a' w' h3 => ⟨h3.2.1, ih (listed.setIfInBounds j true) a' w' hfree' (ready_mono hr (Ne.symm hji)) h3.1 ?_⟩) h2
      rw [Array.setIfInBounds_comm _ _ hji]
      exact h3.2.2
end

section
variable {P : Program} {ops : Array Oper} {Q : Exit → Act → World → Prop} {md : Region.Mode} {r : List Nat} {st : List Nat}

theorem wb_begin (r : List Nat) (st : List Nat) {id : Nat} {a : Act} {w : World} (hm : P.follows .mixedOrders = true)
    (h : ∀ u, Below w.heap.size w u → u.heap.size = w.heap.size → wpB P .any ops Q r st ops.size (Array.replicate ops.size false) a u) : (Code.region id ops true).wp P Q a w :=
  wp_region_any hm (wpAny_of_B _ _ _ _ (h w.drew ⟨rfl, rfl, rfl, Nat.le_refl _, fun _ _ => rfl⟩ rfl))

theorem wb_take {i : Nat} {oi : Oper} {d : Option Tmp} {v : Value} {fuel : Nat} {listed : Array Bool} {a : Act} {w : World} (hi : ops[i]? = some oi) (hd : oi.dst = d)
    (hs : Region.noSelect ops = true) (hf : Region.free md ops listed i = true) (hr : (Region.ready md ops listed).contains i = true)
    (hQ : ∀ c a w, Q (.panic c) (a.put d v) w → Q (.panic c) a w) (hw : Region.wanted oi (yielded ops a.tmps) = true) (hst : (st.all fun j => waitsFor md ops i j) = true)
    (hy : ∀ u, Kb r w u → (execOp a.eval oi).run P u = .ok (.value v) u)
    (h : wpB P md ops Q r st fuel (listed.setIfInBounds i true) (a.put d v) w) : wpB P md ops Q r st (fuel + 1) listed a w := by
  subst hd
  refine wpB_first (R := Kb r) (fun x => Kb.refl r x) (fun _ _ _ => Kb.trans) hi (Region.noSelect_spec hs) hQ (fun j oj x y hj hno hxy => ?_) fuel listed a w (Region.free_spec hi hf) (by simpa using hr) (.inl ⟨hw, hy⟩) h
  rcases hxy with hxy | hxy
  · obtain ⟨e, he, hb, ho⟩ := waitsFor_spec (List.all_eq_true.1 hst j (by simpa using hxy)) hj
    exact absurd ho (hno e he hb)
  · exact hxy

theorem wb_pure {i : Nat} {oi : Oper} {d : Option Tmp} {v : Value} {fuel : Nat} {listed : Array Bool} {a : Act} {w : World} (hi : ops[i]? = some oi) (hd : oi.dst = d)
    (hs : Region.noSelect ops = true) (hf : Region.free md ops listed i = true) (hr : (Region.ready md ops listed).contains i = true)
    (hQ : ∀ c a w, Q (.panic c) (a.put d v) w → Q (.panic c) a w) (hw : Region.wanted oi (yielded ops a.tmps) = true)
    (hy : ∀ u, (execOp a.eval oi).run P u = .ok (.value v) u)
    (h : wpB P md ops Q r st fuel (listed.setIfInBounds i true) (a.put d v) w) : wpB P md ops Q r st (fuel + 1) listed a w := by
  subst hd
  exact wpB_first (R := fun _ _ => True) (fun _ => trivial) (fun _ _ _ _ _ => trivial) hi (Region.noSelect_spec hs) hQ (fun _ _ _ _ _ _ _ => trivial) fuel listed a w (Region.free_spec hi hf) (by simpa using hr) (.inl ⟨hw, fun u _ => hy u⟩) h

theorem wb_skip {i : Nat} {oi : Oper} {d : Option Tmp} {fuel : Nat} {listed : Array Bool} {a : Act} {w : World} (hi : ops[i]? = some oi) (hd : oi.dst = d)
    (hs : Region.noSelect ops = true) (hf : Region.free md ops listed i = true) (hr : (Region.ready md ops listed).contains i = true)
    (hQ : ∀ c a w, Q (.panic c) (a.put d undef) w → Q (.panic c) a w) (hw : Region.wanted oi (yielded ops a.tmps) = false)
    (h : wpB P md ops Q r st fuel (listed.setIfInBounds i true) (a.put d undef) w) : wpB P md ops Q r st (fuel + 1) listed a w := by
  subst hd
  exact wpB_first (R := fun _ _ => True) (fun _ => trivial) (fun _ _ _ _ _ => trivial) hi (Region.noSelect_spec hs) hQ (fun _ _ _ _ _ _ _ => trivial) fuel listed a w (Region.free_spec hi hf) (by simpa using hr) (.inr ⟨hw, rfl⟩) h

theorem wb_one {i : Nat} {o : Oper} {fuel : Nat} {listed : Array Bool} {a : Act} {w : World} (ho : ops[i]? = some o) (hr : Region.ready md ops listed = [i]) (hw : Region.wanted o (yielded ops a.tmps) = true)
    (h : ∀ K' : Act → World → Prop, Shut (∀ a' u', Kb r w u' → wpB P md ops Q r st fuel (listed.setIfInBounds i true) a' u' → K' a' u') → Oper.wp P o a w K' Q) :
    wpB P md ops Q r st (fuel + 1) listed a w := by
  refine ⟨fun h0 => (by rw [h0] at hr; cases hr), fun j hj => ?_⟩
  rw [hr] at hj
  obtain rfl : j = i := by simpa using hj
  refine wpOp_step ho (fun K' hK => ?_)
  rw [if_pos hw]
  exact h K' (fun a' u' hg hR => hK a' u' ⟨.inr hg, hR⟩)

theorem wb_new {cs : List Value} {t : TypeId} {fuel : Nat} {listed : Array Bool} {a : Act} {w : World}
    (h : ∀ u, Below w.heap.size w u → Blk u w.heap.size cs t → u.heap.size = w.heap.size + 1 → wpB P md ops Q r st fuel listed a u) : wpB P md ops Q r st fuel listed a (w.alloc (.cells cs.toArray t)) :=
  h _ ((Below.refl _ _).alloc (Nat.le_refl _) _) (Blk.new w cs t) (by simp)

theorem wb_done {listed : Array Bool} {a : Act} {w : World} (hr : Region.ready md ops listed = []) (h : Q .normal a w) : ∀ fuel, wpB P md ops Q r st fuel listed a w
  | 0 => ⟨hr, h⟩
  | _ + 1 => ⟨fun _ => h, by rw [hr]; simp⟩
theorem wb_takeZ (i : Nat) {oi : Oper} (d : Option Tmp) {v : Value} {fuel : Nat} {listed : Array Bool} {a : Act} {w : World}
    (hy : ∀ u, Kb r w u → (execOp a.eval oi).run P u = .ok (.value v) u) (h : wpB P md ops Q r st fuel (listed.setIfInBounds i true) (a.put d v) w)
    (hi : ops[i]? = some oi := by simp only [gzA, gzB, gzC] <;> rfl) (hd : oi.dst = d := by rfl) (hs : Region.noSelect ops = true := by kernel_rfl) (hf : Region.free md ops listed i = true := by kernel_rfl) (hr : (Region.ready md ops listed).contains i = true := by kernel_rfl) (hQ : ∀ c a w, Q (.panic c) (a.put d v) w → Q (.panic c) a w := by exact fun _ _ _ h => h) (hw : Region.wanted oi (yielded ops a.tmps) = true := by rfl) (hst : (st.all fun j => waitsFor md ops i j) = true := by kernel_rfl)
    : wpB P md ops Q r st (fuel + 1) listed a w :=
  wb_take hi hd hs hf hr hQ hw hst hy h
theorem wb_pureZ (i : Nat) {oi : Oper} (d : Option Tmp) {v : Value} {fuel : Nat} {listed : Array Bool} {a : Act} {w : World}
    (hy : ∀ u, (execOp a.eval oi).run P u = .ok (.value v) u) (h : wpB P md ops Q r st fuel (listed.setIfInBounds i true) (a.put d v) w)
    (hi : ops[i]? = some oi := by simp only [gzA, gzB, gzC] <;> rfl) (hd : oi.dst = d := by rfl) (hs : Region.noSelect ops = true := by kernel_rfl) (hf : Region.free md ops listed i = true := by kernel_rfl) (hr : (Region.ready md ops listed).contains i = true := by kernel_rfl) (hQ : ∀ c a w, Q (.panic c) (a.put d v) w → Q (.panic c) a w := by exact fun _ _ _ h => h) (hw : Region.wanted oi (yielded ops a.tmps) = true := by rfl)
    : wpB P md ops Q r st (fuel + 1) listed a w :=
  wb_pure hi hd hs hf hr hQ hw hy h
theorem wb_skipZ (i : Nat) {oi : Oper} (d : Option Tmp) {fuel : Nat} {listed : Array Bool} {a : Act} {w : World}
    (h : wpB P md ops Q r st fuel (listed.setIfInBounds i true) (a.put d undef) w)
    (hi : ops[i]? = some oi := by simp only [gzA, gzB, gzC] <;> rfl) (hd : oi.dst = d := by rfl) (hs : Region.noSelect ops = true := by kernel_rfl) (hf : Region.free md ops listed i = true := by kernel_rfl) (hr : (Region.ready md ops listed).contains i = true := by kernel_rfl) (hQ : ∀ c a w, Q (.panic c) (a.put d undef) w → Q (.panic c) a w := by exact fun _ _ _ h => h) (hw : Region.wanted oi (yielded ops a.tmps) = false := by rfl)
    : wpB P md ops Q r st (fuel + 1) listed a w :=
  wb_skip hi hd hs hf hr hQ hw h
theorem wb_oneZ (i : Nat) {o : Oper} {fuel : Nat} {listed : Array Bool} {a : Act} {w : World}
    (h : ∀ K' : Act → World → Prop, Shut (∀ a' u', Kb r w u' → wpB P md ops Q r st fuel (listed.setIfInBounds i true) a' u' → K' a' u') → Oper.wp P o a w K' Q)
    (ho : ops[i]? = some o := by simp only [gzA, gzB, gzC] <;> rfl) (hr : Region.ready md ops listed = [i] := by kernel_rfl) (hw : Region.wanted o (yielded ops a.tmps) = true := by rfl)
    :
    wpB P md ops Q r st (fuel + 1) listed a w :=
  wb_one ho hr hw h
end
end Go.Proofs.YtfpcalgkfagjkaaGreatDoor
