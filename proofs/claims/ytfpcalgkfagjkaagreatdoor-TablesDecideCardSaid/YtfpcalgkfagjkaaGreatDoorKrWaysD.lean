/- As WaysX; each operation leaves all old memory, and the tape is only read on. -/
import Derived.Test.YtfpcalgkfagjkaaGreatDoorKrGzA
import Derived.Test.YtfpcalgkfagjkaaGreatDoorKrWaysB
import Derived.Test.YtfpcalgkfagjkaaGreatDoorKrMdB
import Derived.Sort.Grow
namespace Go.Proofs.YtfpcalgkfagjkaaGreatDoor
open Go.RowKit

def Gd (x y : World) : Prop := x.grownBy y none ∧ x.drawn ≤ y.drawn
theorem Gd.refl (x : World) : Gd x x := ⟨gb_refl x none, Nat.le_refl _⟩
theorem Gd.trans {x y z : World} (h : Gd x y) (k : Gd y z) : Gd x z := ⟨gb_trans h.1 k.1, Nat.le_trans h.2 k.2⟩
theorem Gd.alloc {x y : World} (h : Gd x y) (o : Obj) : Gd x (y.alloc o) := ⟨gb_alloc h.1 o, h.2⟩
theorem Gd.drewN {x y : World} {m : Nat} (h : Gd x y) : Gd x (y.drewN m) := ⟨gb_drewN h.1, Nat.le_trans h.2 (Nat.le_add_right _ _)⟩
theorem Gd.drew {x y : World} (h : Gd x y) : Gd x y.drew := ⟨gb_drew h.1, Nat.le_trans h.2 (Nat.le_succ _)⟩
theorem Gd.below {x y : World} (h : Gd x y) : Below x.heap.size x y := gb2B h.1
theorem Gd.grows {x y : World} (h : Gd x y) : ∃ q os, y = Sort.grow (x.drewN q) os := by
  obtain ⟨hg, hd⟩ := h
  refine ⟨y.drawn - x.drawn, y.heap.extract x.heap.size y.heap.size, ?_⟩
  have hheap : y.heap = x.heap ++ y.heap.extract x.heap.size y.heap.size := by
    apply Array.ext_getElem?
    intro i
    have hz := hg.size
    by_cases hi : i < x.heap.size
    · rw [Array.getElem?_append_left hi, hg.block i hi (by simp)]
    · rw [Array.getElem?_append_right (by omega), Array.getElem?_extract]
      by_cases hi2 : i < y.heap.size
      · rw [if_pos (by omega)]; congr 1; omega
      · rw [if_neg (by omega), Array.getElem?_eq_none (by omega)]
  unfold Sort.grow World.drewN
  cases y
  cases x
  simp only at *
  congr 1
  · exact hg.tape
  · omega
  · exact hg.os
  · exact hg.output

section
variable {P : Program} {ops : Array Oper} {Q : Exit → Act → World → Prop} {md : Region.Mode} {R : World → World → Prop}

def wpD (P : Program) (md : Region.Mode) (ops : Array Oper) (Q : Exit → Act → World → Prop) (st : List Nat) : Nat → Array Bool → Act → World → Prop
  | 0, listed, a, w => Region.ready md ops listed = [] ∧ Q .normal a w
  | fuel + 1, listed, a, w => (Region.ready md ops listed = [] → Q .normal a w) ∧
    ∀ i ∈ Region.ready md ops listed, wpOp P ops Q i (fun a' w' => (st.contains i = true ∨ Gd w w') ∧ wpD P md ops Q st fuel (listed.setIfInBounds i true) a' w') a w

theorem wpAny_of_D {st : List Nat} : ∀ (fuel : Nat) (listed : Array Bool) (a : Act) (w : World), wpD P md ops Q st fuel listed a w → wpAny P md ops Q fuel listed a w
  | 0, _, _, _, h => ⟨h.1, h.2⟩
  | _ + 1, _, _, _, h => ⟨h.1, fun i hi => wpOp_mono (fun a' w' h' => wpAny_of_D _ _ a' w' h'.2) (h.2 i hi)⟩

theorem wpD_first {st : List Nat} (hrr : ∀ x : World, R x x) (ht : ∀ x y z : World, R x y → R y z → R x z) {i : Nat} {oi : Oper} {v : Value} (hi : ops[i]? = some oi) (hsel : ∀ (j : Nat) (o : Oper) cs b, ops[j]? = some o → o.op ≠ .select cs b)
    (hQ : ∀ c a w, Q (.panic c) (a.put oi.dst v) w → Q (.panic c) a w)
    (hE : ∀ j oj x y, ops[j]? = some oj → (∀ e ∈ oj.after, Region.binds md e = true → e.on ≠ i) → st.contains j = true ∨ Gd x y → R x y) :
    ∀ (fuel : Nat) (listed : Array Bool) (a : Act) (w : World),
      (∀ j oj, ops[j]? = some oj → j ≠ i → listed.getD j true = false → (∀ e ∈ oj.after, Region.binds md e = true → e.on ≠ i) → oi.apart ops oj = true) →
      i ∈ Region.ready md ops listed → Reads1 P ops R oi v a w →
      wpD P md ops Q st fuel (listed.setIfInBounds i true) (a.put oi.dst v) w → wpD P md ops Q st (fuel + 1) listed a w := by
  intro fuel
  induction fuel with
  | zero =>
    intro listed a w _ hr hy H
    refine ⟨fun h => (by rw [h] at hr; cases hr), fun j hj => ?_⟩
    by_cases hji : j = i
    · subst hji; exact hy.wpOp hi (hrr w) ⟨.inr (Gd.refl w), H⟩
    · have := ready_mono hj hji
      rw [H.1] at this
      cases this
  | succ fuel ih =>
    intro listed a w hfree hr hy H
    refine ⟨fun h => (by rw [h] at hr; cases hr), fun j hj => ?_⟩
    by_cases hji : j = i
    · subst hji; exact hy.wpOp hi (hrr w) ⟨.inr (Gd.refl w), H⟩
    · obtain ⟨hjun, oj, hoj, hall⟩ := mem_ready.1 hj
      have hnot : ∀ e ∈ oj.after, Region.binds md e = true → e.on ≠ i := fun e he hb heq => by
        have h1 := hall e he hb
        have h0 := (mem_ready.1 hr).1
        rw [heq] at h1
        rcases Nat.lt_or_ge i listed.size with h' | h'
        · simp [h'] at h0 h1; rw [h0] at h1; cases h1
        · simp [Array.getElem?_eq_none h'] at h1
      have h1 := H.2 j (ready_mono hj hji)
      have h2 := wpOp_putX ht hoj (hfree j oj hoj hji hjun hnot) (fun cs b => hsel i oi cs b hi) (fun cs b => hsel j oj cs b hoj) hQ (fun x hx => hE j oj w x hoj hnot hx) hy h1
      have hfree' : ∀ k ok, ops[k]? = some ok → k ≠ i → (listed.setIfInBounds j true).getD k true = false →
          (∀ e ∈ ok.after, Region.binds md e = true → e.on ≠ i) → oi.apart ops ok = true := fun k ok hk hki hun hno => by
        refine hfree k ok hk hki ?_ hno
        by_cases hjk : j = k
        · subst hjk; exact hjun
        · rw [getD_set_ne true hjk] at hun; exact hun
      refine wpOp_mono (fun a' w' h3 => ⟨h3.2.1, ih (listed.setIfInBounds j true) a' w' hfree' (ready_mono hr (Ne.symm hji)) h3.1 ?_⟩) h2
      rw [Array.setIfInBounds_comm _ _ hji]
      exact h3.2.2
end

section
variable {P : Program} {ops : Array Oper} {Q : Exit → Act → World → Prop} {md : Region.Mode} {st : List Nat}

theorem wd_begin (st : List Nat) {id : Nat} {a : Act} {w : World} (hm : P.follows .mixedOrders = true)
    (h : ∀ u, Gd w u → u.heap.size = w.heap.size → wpD P .any ops Q st ops.size (Array.replicate ops.size false) a u) : (Code.region id ops true).wp P Q a w :=
  wp_region_any hm (wpAny_of_D _ _ _ _ (h w.drew (Gd.refl w).drew rfl))

theorem wd_take {i : Nat} {oi : Oper} {d : Option Tmp} {v : Value} {fuel : Nat} {listed : Array Bool} {a : Act} {w : World} (hi : ops[i]? = some oi) (hd : oi.dst = d)
    (hs : Region.noSelect ops = true) (hf : Region.free md ops listed i = true) (hr : (Region.ready md ops listed).contains i = true)
    (hQ : ∀ c a w, Q (.panic c) (a.put d v) w → Q (.panic c) a w) (hw : Region.wanted oi (yielded ops a.tmps) = true) (hst : (st.all fun j => waitsFor md ops i j) = true)
    (hy : ∀ u, Gd w u → (execOp a.eval oi).run P u = .ok (.value v) u)
    (h : wpD P md ops Q st fuel (listed.setIfInBounds i true) (a.put d v) w) : wpD P md ops Q st (fuel + 1) listed a w := by
  subst hd
  refine wpD_first (R := Gd) (fun x => Gd.refl x) (fun _ _ _ => Gd.trans) hi (Region.noSelect_spec hs) hQ (fun j oj x y hj hno hxy => ?_) fuel listed a w (Region.free_spec hi hf) (by simpa using hr) (.inl ⟨hw, hy⟩) h
  rcases hxy with hxy | hxy
  · obtain ⟨e, he, hb, ho⟩ := waitsFor_spec (List.all_eq_true.1 hst j (by simpa using hxy)) hj
    exact absurd ho (hno e he hb)
  · exact hxy

theorem wd_pure {i : Nat} {oi : Oper} {d : Option Tmp} {v : Value} {fuel : Nat} {listed : Array Bool} {a : Act} {w : World} (hi : ops[i]? = some oi) (hd : oi.dst = d)
    (hs : Region.noSelect ops = true) (hf : Region.free md ops listed i = true) (hr : (Region.ready md ops listed).contains i = true)
    (hQ : ∀ c a w, Q (.panic c) (a.put d v) w → Q (.panic c) a w) (hw : Region.wanted oi (yielded ops a.tmps) = true)
    (hy : ∀ u, (execOp a.eval oi).run P u = .ok (.value v) u)
    (h : wpD P md ops Q st fuel (listed.setIfInBounds i true) (a.put d v) w) : wpD P md ops Q st (fuel + 1) listed a w := by
  subst hd
  exact wpD_first (R := fun _ _ => True) (fun _ => trivial) (fun _ _ _ _ _ => trivial) hi (Region.noSelect_spec hs) hQ (fun _ _ _ _ _ _ _ => trivial) fuel listed a w (Region.free_spec hi hf) (by simpa using hr) (.inl ⟨hw, fun u _ => hy u⟩) h

theorem wd_one {i : Nat} {o : Oper} {fuel : Nat} {listed : Array Bool} {a : Act} {w : World} (ho : ops[i]? = some o) (hr : Region.ready md ops listed = [i]) (hw : Region.wanted o (yielded ops a.tmps) = true)
    (h : ∀ K' : Act → World → Prop, Shut (∀ a' u', Gd w u' → wpD P md ops Q st fuel (listed.setIfInBounds i true) a' u' → K' a' u') → Oper.wp P o a w K' Q) :
    wpD P md ops Q st (fuel + 1) listed a w := by
  refine ⟨fun h0 => (by rw [h0] at hr; cases hr), fun j hj => ?_⟩
  rw [hr] at hj
  obtain rfl : j = i := by simpa using hj
  refine wpOp_step ho (fun K' hK => ?_)
  rw [if_pos hw]
  exact h K' (fun a' u' hg hR => hK a' u' ⟨.inr hg, hR⟩)

theorem wd_new {cs : List Value} {t : TypeId} {fuel : Nat} {listed : Array Bool} {a : Act} {w : World}
    (h : ∀ u, Gd w u → Blk u w.heap.size cs t → u.heap.size = w.heap.size + 1 → wpD P md ops Q st fuel listed a u) : wpD P md ops Q st fuel listed a (w.alloc (.cells cs.toArray t)) :=
  h _ ((Gd.refl w).alloc _) (Blk.new w cs t) (by simp)

theorem wd_done {listed : Array Bool} {a : Act} {w : World} (hr : Region.ready md ops listed = []) (h : Q .normal a w) : ∀ fuel, wpD P md ops Q st fuel listed a w
  | 0 => ⟨hr, h⟩
  | _ + 1 => ⟨fun _ => h, by rw [hr]; simp⟩
theorem wd_takeZ (i : Nat) {oi : Oper} (d : Option Tmp) {v : Value} {fuel : Nat} {listed : Array Bool} {a : Act} {w : World}
    (hy : ∀ u, Gd w u → (execOp a.eval oi).run P u = .ok (.value v) u) (h : wpD P md ops Q st fuel (listed.setIfInBounds i true) (a.put d v) w)
    (hi : ops[i]? = some oi := by simp only [gzA, gzB, gzC] <;> rfl) (hd : oi.dst = d := by rfl) (hs : Region.noSelect ops = true := by kernel_rfl) (hf : Region.free md ops listed i = true := by kernel_rfl) (hr : (Region.ready md ops listed).contains i = true := by kernel_rfl) (hQ : ∀ c a w, Q (.panic c) (a.put d v) w → Q (.panic c) a w := by exact fun _ _ _ h => h) (hw : Region.wanted oi (yielded ops a.tmps) = true := by rfl) (hst : (st.all fun j => waitsFor md ops i j) = true := by kernel_rfl)
    : wpD P md ops Q st (fuel + 1) listed a w :=
  wd_take hi hd hs hf hr hQ hw hst hy h
theorem wd_pureZ (i : Nat) {oi : Oper} (d : Option Tmp) {v : Value} {fuel : Nat} {listed : Array Bool} {a : Act} {w : World}
    (hy : ∀ u, (execOp a.eval oi).run P u = .ok (.value v) u) (h : wpD P md ops Q st fuel (listed.setIfInBounds i true) (a.put d v) w)
    (hi : ops[i]? = some oi := by simp only [gzA, gzB, gzC] <;> rfl) (hd : oi.dst = d := by rfl) (hs : Region.noSelect ops = true := by kernel_rfl) (hf : Region.free md ops listed i = true := by kernel_rfl) (hr : (Region.ready md ops listed).contains i = true := by kernel_rfl) (hQ : ∀ c a w, Q (.panic c) (a.put d v) w → Q (.panic c) a w := by exact fun _ _ _ h => h) (hw : Region.wanted oi (yielded ops a.tmps) = true := by rfl)
    : wpD P md ops Q st (fuel + 1) listed a w :=
  wd_pure hi hd hs hf hr hQ hw hy h
theorem wd_oneZ (i : Nat) {o : Oper} {fuel : Nat} {listed : Array Bool} {a : Act} {w : World}
    (h : ∀ K' : Act → World → Prop, Shut (∀ a' u', Gd w u' → wpD P md ops Q st fuel (listed.setIfInBounds i true) a' u' → K' a' u') → Oper.wp P o a w K' Q)
    (ho : ops[i]? = some o := by simp only [gzA, gzB, gzC] <;> rfl) (hr : Region.ready md ops listed = [i] := by kernel_rfl) (hw : Region.wanted o (yielded ops a.tmps) = true := by rfl)
    :
    wpD P md ops Q st (fuel + 1) listed a w :=
  wd_one ho hr hw h
end
end Go.Proofs.YtfpcalgkfagjkaaGreatDoor
