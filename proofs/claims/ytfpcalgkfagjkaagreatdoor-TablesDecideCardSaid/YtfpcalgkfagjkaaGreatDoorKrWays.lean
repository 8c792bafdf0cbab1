/- A region whose order is open, in ONE way: an operation whose value hangs on no order is taken first, a call that makes memory too; where one operation alone may come up, it is carried out. -/
import Derived.Test.YtfpcalgkfagjkaaGreatDoorKrLaneB
import Derived.Deep.RegionHeld3
namespace Go.Proofs.YtfpcalgkfagjkaaGreatDoor
open Go.RowKit

section
variable {P : Program} {ops : Array Oper} {Q : Exit → Act → World → Prop} {md : Region.Mode} {R : World → World → Prop}

def Does (P : Program) (R : World → World → Prop) (v : Value) (u : World) : Result Next → Prop
  | .ok (.value x) u' => x = v ∧ R u u'
  | .ok .skip u' => undef = v ∧ R u u'
  | .ok (.enter f args) u' => Calls P f args u' fun e u'' => e = .returned v ∧ R u u''
  | _ => False

def StepsTo (P : Program) (ops : Array Oper) (R : World → World → Prop) (o : Oper) (v : Value) (a : Act) (w : World) : Prop :=
  (Region.wanted o (yielded ops a.tmps) = true ∧ ∀ u, R w u → Does P R v u ((execOp a.eval o).run P u)) ∨
  (Region.wanted o (yielded ops a.tmps) = false ∧ v = undef)

theorem StepsTo.wpOp {i : Nat} {o : Oper} {v : Value} {a : Act} {w u : World} (hi : ops[i]? = some o) (hy : StepsTo P ops R o v a w) (hu : R w u) (hr : R u u)
    {K : Act → World → Prop} (h : ∀ u', R u u' → K (a.put o.dst v) u') : wpOp P ops Q i K a u := by
  unfold Go.wpOp
  simp only [hi]
  rcases hy with ⟨hw, hv⟩ | ⟨hw, rfl⟩
  · simp only [hw, if_true]
    refine .inl ?_
    have hd := hv u hu
    unfold Oper.wp
    generalize (execOp a.eval o).run P u = r at hd ⊢
    cases r with
    | ok n u' =>
      cases n <;> simp only [Does, Oper.upon] at hd ⊢
      case value x => obtain ⟨rfl, h1⟩ := hd; exact h _ h1
      case skip => obtain ⟨rfl, h1⟩ := hd; exact h _ h1
      case enter f args =>
        refine Calls.mono hd fun e w'' he => ?_
        obtain ⟨rfl, h1⟩ := he
        exact h _ h1
    | halt x u' => simp only [Does] at hd
  · simp only [hw, Bool.false_eq_true, if_false]; exact h _ hr

theorem StepsTo.of_same {o : Oper} {v : Value} {a a' : Act} {w : World} (hy : StepsTo P ops R o v a w) (he : execOp a'.eval o = execOp a.eval o)
    (hw : Region.wanted o (yielded ops a'.tmps) = Region.wanted o (yielded ops a.tmps)) : StepsTo P ops R o v a' w := by
  unfold StepsTo at *
  rw [he, hw]
  exact hy

theorem StepsTo.later {o : Oper} {v : Value} {a : Act} {w u : World} (ht : ∀ x y z : World, R x y → R y z → R x z) (hy : StepsTo P ops R o v a w) (hu : R w u) : StepsTo P ops R o v a u :=
  hy.imp (fun ⟨hw, hv⟩ => ⟨hw, fun _ hx => hv _ (ht _ _ _ hu hx)⟩) id

theorem wpOp_putR {j : Nat} {oi oj : Oper} {v : Value} (ht : ∀ x y z : World, R x y → R y z → R x z) (hj : ops[j]? = some oj) (hap : oi.apart ops oj = true)
    (hsi : ∀ cs b, oi.op ≠ .select cs b) (hsj : ∀ cs b, oj.op ≠ .select cs b)
    (hQ : ∀ c a w, Q (.panic c) (a.put oi.dst v) w → Q (.panic c) a w) {K : Act → World → Prop} {a : Act} {w u : World} (hu : R w u)
    (hy : StepsTo P ops R oi v a w) (h : wpOp P ops Q j (fun a' w' => R u w' ∧ K a' w') (a.put oi.dst v) u) :
    wpOp P ops Q j (fun a' w' => StepsTo P ops R oi v a' w' ∧ R u w' ∧ K (a'.put oi.dst v) w') a u := by
  obtain ⟨h1, h2, h3⟩ := Oper.apart_spec hap
  have keep : ∀ (a : Act), StepsTo P ops R oi v a w → ∀ x u', R u u' → StepsTo P ops R oi v (a.put oj.dst x) u' := fun a hy x u' hu' =>
    (hy.of_same (execOp_put oi hsi a oj.dst x h3) (wanted_put oi a oj.dst x h3)).later ht (ht _ _ _ hu hu')
  have keepD : ∀ d, StepsTo P ops R oi v { a with defers := d :: a.defers } w := fun d => hy.of_same rfl rfl
  unfold wpOp at *
  simp only [hj] at *
  rw [wanted_put oj a oi.dst v h1] at h
  split
  · rename_i hw
    simp only [hw, if_true] at h
    rcases h with h | ⟨hasks, hlets⟩
    case inr => exact .inr ⟨by unfold Oper.asks at *; rw [execOp_put oj hsj a oi.dst v h1] at hasks; exact hasks, hlets⟩
    refine .inl ?_
    unfold Oper.wp at *
    rw [execOp_put oj hsj a oi.dst v h1] at h
    generalize (execOp a.eval oj).run P u = r at *
    cases r with
    | ok n w' =>
      cases n <;> simp only [Oper.upon] at h ⊢
      case value x => exact ⟨keep a hy x _ h.1, h.1, by rw [← Act.put_comm a v x h2]; exact h.2⟩
      case skip => exact ⟨keep a hy _ _ h.1, h.1, by rw [← Act.put_comm a v undef h2]; exact h.2⟩
      case defer d =>
        refine ⟨keep _ (keepD d) _ _ h.1, h.1, ?_⟩
        rw [← Act.put_comm _ v undef h2, ← Act.put_defers]
        exact h.2
      case enter f args =>
        refine Calls.mono h fun e w'' he => ?_
        cases e with
        | returned x => exact ⟨keep a hy x _ he.1, he.1, by rw [← Act.put_comm a v x h2]; exact he.2⟩
        | panicked c => exact hQ _ _ _ he
        | outgrown => exact he
      case row row args => exact Rows.mono h fun x w'' he => ⟨keep a hy x _ he.1, he.1, by rw [← Act.put_comm a v x h2]; exact he.2⟩
    | halt x w' =>
      cases x <;> simp only [Oper.upon] at h ⊢
      case panic x => exact hQ _ _ _ h
  · rename_i hw
    simp only [hw] at h
    exact ⟨keep a hy _ _ h.1, h.1, by rw [← Act.put_comm a v undef h2]; exact h.2⟩

def lastOps (md : Region.Mode) (ops : Array Oper) (listed : Array Bool) : Bool :=
  (List.range ops.size).all fun j => listed.getD j true || (List.range ops.size).all fun i => !listed.getD i false || ((ops[j]?).map fun o => o.after.any fun e => Region.binds md e && e.on == i).getD false

theorem lastOps_spec {listed : Array Bool} (h : lastOps md ops listed = true) {i j : Nat} {oj : Oper} (hi : i < ops.size) (hj : ops[j]? = some oj) (hun : listed.getD j true = false) (hli : listed.getD i false = true) :
    ∃ e ∈ oj.after, Region.binds md e = true ∧ e.on = i := by
  unfold lastOps at h
  rw [List.all_eq_true] at h
  have h1 := h j (List.mem_range.2 (Array.getElem?_eq_some_iff.1 hj).1)
  rw [hun, Bool.false_or, List.all_eq_true] at h1
  have h2 := h1 i (List.mem_range.2 hi)
  rw [hli, hj] at h2
  simp only [Bool.not_true, Bool.false_or, Option.map_some, Option.getD_some] at h2
  obtain ⟨e, he, hb⟩ := Array.any_eq_true'.1 h2
  simp only [Bool.and_eq_true, beq_iff_eq] at hb
  exact ⟨e, he, hb.1, hb.2⟩

def wpR (P : Program) (md : Region.Mode) (ops : Array Oper) (Q : Exit → Act → World → Prop) (R : World → World → Prop) : Nat → Array Bool → Act → World → Prop
  | 0, listed, a, w => Region.ready md ops listed = [] ∧ ∀ u, R w u → Q .normal a u
  | fuel + 1, listed, a, w => (∀ u, R w u →
    (Region.ready md ops listed = [] → Q .normal a u) ∧
    ∀ i ∈ Region.ready md ops listed, wpOp P ops Q i (fun a' w' => R u w' ∧ wpR P md ops Q R fuel (listed.setIfInBounds i true) a' w') a u) ∨
    (lastOps md ops listed = true ∧ ∀ u, R w u → wpAny P md ops Q (fuel + 1) listed a u)

theorem wpR.later (ht : ∀ x y z : World, R x y → R y z → R x z) : ∀ {fuel : Nat} {listed : Array Bool} {a : Act} {w u : World}, wpR P md ops Q R fuel listed a w → R w u → wpR P md ops Q R fuel listed a u
  | 0, _, _, _, _, h, hu => ⟨h.1, fun x hx => h.2 x (ht _ _ _ hu hx)⟩
  | _ + 1, _, _, _, _, .inl h, hu => .inl fun x hx => h x (ht _ _ _ hu hx)
  | _ + 1, _, _, _, _, .inr h, hu => .inr ⟨h.1, fun x hx => h.2 x (ht _ _ _ hu hx)⟩

theorem wpAny_of_R (hr : ∀ x : World, R x x) : ∀ (fuel : Nat) (listed : Array Bool) (a : Act) (w : World), wpR P md ops Q R fuel listed a w → wpAny P md ops Q fuel listed a w
  | 0, _, _, w, h => ⟨h.1, h.2 w (hr w)⟩
  | fuel + 1, _, _, w, .inl h => ⟨(h w (hr w)).1, fun i hi => wpOp_mono (fun a' w' h' => wpAny_of_R hr fuel _ a' w' h'.2) ((h w (hr w)).2 i hi)⟩
  | _ + 1, _, _, w, .inr h => h.2 w (hr w)

theorem wpR_first (hrr : ∀ x : World, R x x) (ht : ∀ x y z : World, R x y → R y z → R x z) {i : Nat} {oi : Oper} {v : Value} (hi : ops[i]? = some oi) (hsel : ∀ (j : Nat) (o : Oper) cs b, ops[j]? = some o → o.op ≠ .select cs b)
    (hQ : ∀ c a w, Q (.panic c) (a.put oi.dst v) w → Q (.panic c) a w) :
    ∀ (fuel : Nat) (listed : Array Bool) (a : Act) (w : World),
      (∀ j oj, ops[j]? = some oj → j ≠ i → listed.getD j true = false → (∀ e ∈ oj.after, Region.binds md e = true → e.on ≠ i) → oi.apart ops oj = true) →
      i ∈ Region.ready md ops listed → StepsTo P ops R oi v a w →
      wpR P md ops Q R fuel (listed.setIfInBounds i true) (a.put oi.dst v) w → wpR P md ops Q R (fuel + 1) listed a w := by
  intro fuel
  induction fuel with
  | zero =>
    intro listed a w _ hr hy H
    refine .inl fun u hu => ⟨fun h => (by rw [h] at hr; cases hr), fun j hj => ?_⟩
    by_cases hji : j = i
    · subst hji; exact hy.wpOp hi hu (hrr u) fun u' hu' => ⟨hu', H.later ht (ht _ _ _ hu hu')⟩
    · have := ready_mono hj hji
      rw [H.1] at this
      cases this
  | succ fuel ih =>
    intro listed a w hfree hr hy H
    refine .inl fun u hu => ⟨fun h => (by rw [h] at hr; cases hr), fun j hj => ?_⟩
    by_cases hji : j = i
    · subst hji; exact hy.wpOp hi hu (hrr u) fun u' hu' => ⟨hu', H.later ht (ht _ _ _ hu hu')⟩
    · obtain ⟨hjun, oj, hoj, hall⟩ := mem_ready.1 hj
      have hnot : ∀ e ∈ oj.after, Region.binds md e = true → e.on ≠ i := fun e he hb heq => by
        have h1 := hall e he hb
        have h0 := (mem_ready.1 hr).1
        rw [heq] at h1
        rcases Nat.lt_or_ge i listed.size with h' | h'
        · simp [h'] at h0 h1; rw [h0] at h1; cases h1
        · simp [Array.getElem?_eq_none h'] at h1
      rcases H with H | H
      · have h1 := (H u hu).2 j (ready_mono hj hji)
        have h2 := wpOp_putR ht hoj (hfree j oj hoj hji hjun hnot) (fun cs b => hsel i oi cs b hi) (fun cs b => hsel j oj cs b hoj) hQ hu hy h1
        have hfree' : ∀ k ok, ops[k]? = some ok → k ≠ i → (listed.setIfInBounds j true).getD k true = false →
            (∀ e ∈ ok.after, Region.binds md e = true → e.on ≠ i) → oi.apart ops ok = true := fun k ok hk hki hun hno => by
          refine hfree k ok hk hki ?_ hno
          by_cases hjk : j = k
          · subst hjk; exact hjun
          · rw [getD_set_ne true hjk] at hun; exact hun
        refine wpOp_mono (fun a' w' h3 => ⟨h3.2.1, ih (listed.setIfInBounds j true) a' w' hfree' (ready_mono hr (Ne.symm hji)) h3.1 ?_⟩) h2
        rw [Array.setIfInBounds_comm _ _ hji]
        exact h3.2.2
      · exfalso
        have hlt : i < listed.size := by
          rcases Nat.lt_or_ge i listed.size with h' | h'
          · exact h'
          · have h0 := (mem_ready.1 hr).1
            simp [Array.getElem?_eq_none h'] at h0
        obtain ⟨e, he, hb, heq⟩ := lastOps_spec (i := i) H.1 (Array.getElem?_eq_some_iff.1 hi).1 hoj (by rw [getD_set_ne true (Ne.symm hji)]; exact hjun) (by simp [hlt])
        exact hnot e he hb heq
end

section
variable {P : Program} {ops : Array Oper} {Q : Exit → Act → World → Prop} {md : Region.Mode} {r : Option Nat}

def Gb (r : Option Nat) (w u : World) : Prop := w.grownBy u r

theorem ways_begin (r : Option Nat) {id : Nat} {a : Act} {w : World} (hm : P.follows .mixedOrders = true)
    (h : wpR P .any ops Q (Gb r) ops.size (Array.replicate ops.size false) a w.drew) : (Code.region id ops true).wp P Q a w :=
  wp_region_any hm (wpAny_of_R (R := Gb r) (fun x => gb_refl x r) _ _ _ _ h)

theorem ways_take {i : Nat} {oi : Oper} {d : Option Tmp} {v : Value} {fuel : Nat} {listed : Array Bool} {a : Act} {w : World} (hi : ops[i]? = some oi) (hd : oi.dst = d)
    (hs : Region.noSelect ops = true) (hf : Region.free md ops listed i = true) (hr : (Region.ready md ops listed).contains i = true)
    (hQ : ∀ c a w, Q (.panic c) (a.put d v) w → Q (.panic c) a w) (hw : Region.wanted oi (yielded ops a.tmps) = true)
    (hy : ∀ u, w.grownBy u r → (execOp a.eval oi).run P u = .ok (.value v) u)
    (h : wpR P md ops Q (Gb r) fuel (listed.setIfInBounds i true) (a.put d v) w) : wpR P md ops Q (Gb r) (fuel + 1) listed a w := by
  subst hd
  exact wpR_first (R := Gb r) (fun x => gb_refl x r) (fun _ _ _ => gb_trans) hi (Region.noSelect_spec hs) hQ fuel listed a w (Region.free_spec hi hf) (by simpa using hr)
    (.inl ⟨hw, fun u hu => by rw [hy u hu]; exact ⟨rfl, gb_refl u r⟩⟩) h

theorem ways_skip {i : Nat} {oi : Oper} {d : Option Tmp} {fuel : Nat} {listed : Array Bool} {a : Act} {w : World} (hi : ops[i]? = some oi) (hd : oi.dst = d)
    (hs : Region.noSelect ops = true) (hf : Region.free md ops listed i = true) (hr : (Region.ready md ops listed).contains i = true)
    (hQ : ∀ c a w, Q (.panic c) (a.put d undef) w → Q (.panic c) a w) (hw : Region.wanted oi (yielded ops a.tmps) = false)
    (h : wpR P md ops Q (Gb r) fuel (listed.setIfInBounds i true) (a.put d undef) w) : wpR P md ops Q (Gb r) (fuel + 1) listed a w := by
  subst hd
  exact wpR_first (R := Gb r) (fun x => gb_refl x r) (fun _ _ _ => gb_trans) hi (Region.noSelect_spec hs) hQ fuel listed a w (Region.free_spec hi hf) (by simpa using hr) (.inr ⟨hw, rfl⟩) h

theorem ways_one {i : Nat} {o : Oper} {fuel : Nat} {listed : Array Bool} {a : Act} {w : World} (ho : ops[i]? = some o) (hr : Region.ready md ops listed = [i]) (hw : Region.wanted o (yielded ops a.tmps) = true)
    (h : ∀ u, w.grownBy u r → ∀ K' : Act → World → Prop, Shut (∀ a' u', u.grownBy u' r → wpR P md ops Q (Gb r) fuel (listed.setIfInBounds i true) a' u' → K' a' u') → Oper.wp P o a u K' Q) :
    wpR P md ops Q (Gb r) (fuel + 1) listed a w := .inl fun u hu => by
  refine ⟨fun h0 => (by rw [h0] at hr; cases hr), fun j hj => ?_⟩
  rw [hr] at hj
  obtain rfl : j = i := by simpa using hj
  refine wpOp_step ho (fun K' hK => ?_)
  rw [if_pos hw]
  exact h u hu K' (fun a' u' hg hR => hK a' u' ⟨hg, hR⟩)

theorem ways_done {listed : Array Bool} {a : Act} {w : World} (hr : Region.ready md ops listed = []) (h : ∀ u, w.grownBy u r → Q .normal a u) : ∀ fuel, wpR P md ops Q (Gb r) fuel listed a w
  | 0 => ⟨hr, h⟩
  | _ + 1 => .inl fun u hu => ⟨fun _ => h u hu, by rw [hr]; simp⟩

end
end Go.Proofs.YtfpcalgkfagjkaaGreatDoor
