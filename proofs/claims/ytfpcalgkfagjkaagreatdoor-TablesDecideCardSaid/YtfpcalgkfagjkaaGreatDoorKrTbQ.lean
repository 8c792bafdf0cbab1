/- Sorted rows of a subtype; orders that are laid one behind another. -/
import Derived.Test.YtfpcalgkfagjkaaGreatDoorKrStG
import Derived.Test.YtfpcalgkfagjkaaGreatDoorKrStE
import Derived.Shelf.SlSortCmp.WholeK
import Derived.Shelf.SlSortCmp.NoneTotal
set_option linter.unusedVariables false
set_option linter.unusedSimpArgs false
namespace Go.Proofs.YtfpcalgkfagjkaaGreatDoor
open Go.RowKit Go.Shelf

section
variable {α : Type} {P : α → Prop}
def onP (P : α → Prop) (E : Enc α) : Enc {x : α // P x} := ⟨fun x => E.enc x.1, E.k, E.pos, fun x => E.len x.1, fun x => E.one x.1⟩
theorem lift_P : ∀ xs : List α, (∀ x ∈ xs, P x) → ∃ ys : List {x : α // P x}, xs = ys.map (·.1)
  | [], _ => ⟨[], rfl⟩
  | x :: r, h => by
    obtain ⟨ys, hy⟩ := lift_P r (fun z hz => h z (List.mem_cons_of_mem _ hz))
    exact ⟨⟨x, h x List.mem_cons_self⟩ :: ys, by show x :: r = x :: ys.map _; rw [← hy]⟩
theorem cells_onP (E : Enc α) : ∀ ys : List {x : α // P x}, E.cells (ys.map (·.1)) = (onP P E).cells ys
  | [] => rfl
  | y :: r => by rw [List.map_cons, E.cells_cons, (onP P E).cells_cons, cells_onP E r]; rfl
variable [Inhabited {x : α // P x}]
theorem flatP_cells (E : Enc α) (ys : List {x : α // P x}) (j : Nat) (hj : j < (ys.toArray.size) * E.k) : ∃ u, ((onP P E).cells ys)[j]? = some u ∧ ((onP P E).enc ys.toArray[j / E.k]!)[j % E.k]? = some u := by
  have hp := E.pos
  have hq : j / E.k < ys.length := Nat.div_lt_of_lt_mul (by rw [Nat.mul_comm]; simpa using hj)
  have hm : j % E.k < E.k := Nat.mod_lt _ hp
  have hx : ys[j / E.k]? = some ys[j / E.k] := List.getElem?_eq_getElem hq
  have hl : j % E.k < ((onP P E).enc ys[j / E.k]).length := by rw [(onP P E).len]; exact hm
  refine ⟨((onP P E).enc ys[j / E.k])[j % E.k], ?_, ?_⟩
  · have := (onP P E).cells_get ys (j / E.k) _ hx (j % E.k) _ (List.getElem?_eq_getElem hl)
    rwa [show j / E.k * (onP P E).k + j % E.k = j by rw [Nat.mul_comm]; exact Nat.div_add_mod j E.k] at this
  · rw [getElem!_pos ys.toArray (j / E.k) (by simpa using hq)]
    simp
theorem holdsP_own {E : Enc α} {t : TypeId} {w : World} {B g n cap : Nat} {ys : List {x : α // P x}} (h : OwnE E t B w (.slice (some ⟨g, 0, none⟩) n cap) (ys.map (·.1))) : Sort.HoldsK (onP P E).enc (onP P E).k w g 0 ys.toArray := by
  intro j hj
  have hj' := hj
  rw [Sort.size_flatK] at hj'
  obtain ⟨u, h1, h2⟩ := flatP_cells E ys j (by simpa [onP] using hj')
  rw [Sort.get_flatK _ _ _ _ hj']
  have hc := World.ownsRow.cells h (g := g) rfl j u (by rw [cells_onP]; exact h1)
  rw [Addr.add_lit, Nat.zero_add] at hc
  refine ⟨?_, ?_⟩
  · rw [Nat.zero_add, hc]
    show some u = some (((onP P E).enc ys.toArray[j / E.k]!)[j % E.k]!)
    rw [List.getElem!_eq_getElem?_getD, h2]; rfl
  · rcases h.2 with ⟨hv, _⟩ | ⟨g', cap', cur, hv, hg, hh, _⟩
    · cases hv
    · cases hv; exact frozen_of_row w g _ _ _ hh
theorem below_sortP {enc : {x : α // P x} → List Value} {k : Nat} {w : World} {B g off m : Nat} {d : Array {x : α // P x}} {os : Array Obj} (hg : B ≤ g) (hB : B ≤ w.heap.size) : Below B w (sortWorldK enc k w g off m d os) := by
  refine ⟨rfl, rfl, rfl, size_sortWorldK_c _ _ _ _ _ _ _ _, fun k hk => ?_⟩
  unfold sortWorldK Sort.grow Sort.putRowK Sort.putRow Sort.mapBlock Sort.ahead
  show (w.heap.modify g _ ++ os)[k]? = _
  rw [Array.getElem?_append_left (by simp; omega), Array.getElem?_modify, if_neg (by omega)]
theorem perm_ofP {d d' : Array {x : α // P x}} (h : Sort.PermIn 0 d.size d d') : d'.toList.Perm d.toList := by
  obtain ⟨h1, _, h3⟩ := h
  have a : d'.extract 0 d.size = d' := by rw [← h1]; simp
  have b : d.extract 0 d.size = d := by simp
  rw [a, b] at h3
  exact h3
theorem own_sortedP {E : Enc α} {t : TypeId} {w : World} {B g n cap : Nat} {ys : List {x : α // P x}} {d' : Array {x : α // P x}} {m : Nat} {os : Array Obj} (h : OwnE E t B w (.slice (some ⟨g, 0, none⟩) n cap) (ys.map (·.1))) (hd : d'.size = ys.length) :
    OwnE E t B (sortWorldK (onP P E).enc (onP P E).k w g 0 m d' os) (.slice (some ⟨g, 0, none⟩) n cap) (d'.toList.map (·.1)) := by
  obtain ⟨h1, h2⟩ := h
  have hlen : (d'.toList.map (·.1)).length = ys.length := by simp [hd]
  have hcl : (E.cells (d'.toList.map (·.1))).length = ys.length * E.k := by rw [E.cells_len, hlen]
  refine ⟨by rw [hcl, hlen], ?_⟩
  rcases h2 with ⟨hv, _⟩ | ⟨g', cap', cur, hv, hB, hh, hn, hc, hsz, htake⟩
  · cases hv
  · cases hv
    rw [List.length_map] at hn htake
    have hg : g < w.heap.size := (Array.getElem?_eq_some_iff.1 hh).1
    refine .inr ⟨g, cap, Sort.putCells id 0 (Sort.flatK (onP P E).enc (onP P E).k d') cur, by rw [hlen, List.length_map], hB, ?_, by rw [hlen]; exact hn, hc, ?_, ?_⟩
    · unfold sortWorldK Sort.grow Sort.putRowK Sort.putRow Sort.mapBlock Sort.ahead
      show (w.heap.modify g _ ++ os)[g]? = _
      rw [Array.getElem?_append_left (by simp; omega), Array.getElem?_modify, if_pos rfl, hh]
      rfl
    · unfold Sort.putCells; rw [Array.size_mapIdx]; exact hsz
    · have hfs : (Sort.flatK (onP P E).enc (onP P E).k d').size = ys.length * E.k := by rw [Sort.size_flatK, hd]; rfl
      have hle : ys.length * E.k ≤ cur.size := by rw [hsz]; exact Nat.mul_le_mul_right _ hn
      rw [hlen]
      apply List.ext_getElem
      · have e3 : (Sort.putCells id 0 (Sort.flatK (onP P E).enc (onP P E).k d') cur).toList.length = cur.size := by unfold Sort.putCells; simp
        rw [List.length_take, e3, hcl]
        omega
      · intro j j1 j2
        rw [hcl] at j2
        rw [List.getElem_take, Array.getElem_toList]
        unfold Sort.putCells
        rw [Array.getElem_mapIdx, if_pos ⟨Nat.zero_le _, by rw [hfs]; omega⟩, Nat.sub_zero]
        have hj' : j < (Sort.flatK (onP P E).enc (onP P E).k d').size := by rw [hfs]; exact j2
        have hj2 := hj'
        rw [Sort.size_flatK] at hj2
        rw [Sort.get_flatK _ _ _ _ hj2]
        obtain ⟨u, k1, k2⟩ := flatP_cells E d'.toList j (by rw [Sort.size_flatK] at hj'; simpa [onP] using hj')
        have k3 : (E.cells (d'.toList.map (·.1)))[j]? = some u := by rw [cells_onP]; exact k1
        have e : (E.cells (d'.toList.map (·.1)))[j] = u := by
          have := (List.getElem?_eq_some_iff.1 k3).2
          exact this
        rw [e]
        have e2 : d'.toList.toArray = d' := by simp
        rw [e2] at k2
        show id (((onP P E).enc d'[j / E.k]!)[j % E.k]!) = u
        rw [List.getElem!_eq_getElem?_getD, k2]; rfl
end

/-! Orders. -/
structure Cm {α : Type} (f : α → α → Int) : Prop where
  anti : ∀ x y, f y x = - f x y
  trans : ∀ x y z, f x y ≤ 0 → f y z ≤ 0 → f x z ≤ 0
theorem Cm.self {α : Type} {f : α → α → Int} (h : Cm f) (x : α) : f x x = 0 := by have := h.anti x x; omega
theorem Cm.lt {α : Type} {f : α → α → Int} (h : Cm f) {x y z : α} (a : f x y ≤ 0) (b : f y z ≤ 0) (c : f x y < 0 ∨ f y z < 0) : f x z < 0 := by
  have h1 := h.trans _ _ _ a b
  rcases Int.lt_or_eq_of_le h1 with k | k
  · exact k
  · exfalso
    have e := h.anti x z
    have t1 := h.trans z x y (by omega) a
    have t2 := h.trans y z x b (by omega)
    have e1 := h.anti y z
    have e2 := h.anti x y
    omega
def thn {α : Type} (f g : α → α → Int) (x y : α) : Int := if f x y = 0 then g x y else f x y
theorem Cm.thn {α : Type} {f g : α → α → Int} (hf : Cm f) (hg : Cm g) : Cm (thn f g) where
  anti := fun x y => by
    unfold Proofs.YtfpcalgkfagjkaaGreatDoor.thn
    have e := hf.anti x y
    by_cases h : f x y = 0
    · rw [if_pos h, if_pos (by omega)]; exact hg.anti x y
    · rw [if_neg h, if_neg (by omega)]; exact e
  trans := fun x y z a b => by
    unfold Proofs.YtfpcalgkfagjkaaGreatDoor.thn at a b ⊢
    have a' : f x y ≤ 0 := by split at a <;> omega
    have b' : f y z ≤ 0 := by split at b <;> omega
    by_cases h1 : f x y = 0
    · by_cases h2 : f y z = 0
      · have e : f x z = 0 := by
          have t1 := hf.trans x y z a' b'
          have e1 := hf.anti x y
          have e2 := hf.anti y z
          have e3 := hf.anti x z
          have t2 := hf.trans z y x (by omega) (by omega)
          omega
        rw [if_pos e]
        rw [if_pos h1] at a
        rw [if_pos h2] at b
        exact hg.trans x y z a b
      · have := hf.lt a' b' (.inr (by omega))
        rw [if_neg (by omega)]; omega
    · have := hf.lt a' b' (.inl (by omega))
      rw [if_neg (by omega)]; omega
theorem Cm.on {α β : Type} {f : β → β → Int} (h : Cm f) (p : α → β) : Cm (fun x y => f (p x) (p y)) := ⟨fun x y => h.anti _ _, fun x y z => h.trans _ _ _⟩
theorem cmpN_anti (x y : Nat) : cmpN y x = - cmpN x y := by
  unfold cmpN
  by_cases h1 : x < y
  · rw [if_pos h1, if_neg (by omega), if_neg (by omega)]; rfl
  · rw [if_neg h1]
    by_cases h2 : x = y
    · rw [if_pos h2, if_neg (by omega), if_pos h2.symm]; rfl
    · rw [if_neg h2, if_pos (by omega)]
theorem cm_n : Cm cmpN := ⟨cmpN_anti, fun x y z a b => by
  unfold cmpN at a b ⊢
  (repeat' split at a) <;> (repeat' split at b) <;> (repeat' split) <;> omega⟩
end Go.Proofs.YtfpcalgkfagjkaaGreatDoor
