/- Slices of structs: how they lie in memory; rows of one's own. -/
import Derived.Test.YtmfflcemceonhaaDoorKfGen
import Derived.OwnWalk
import Derived.Maps.AppendAt
import Derived.Laws.AppendOwnNone
import Derived.Deep.Onto
namespace Go.Proofs.YtmfflcemceonhaaDoor
open Go.RowKit
set_option linter.unusedVariables false

/-- How elements lie in memory: k cells each. -/
structure Enc (α : Type) where
  enc : α → List Value
  k : Nat
  pos : 0 < k
  len : ∀ x, (enc x).length = k
  one : ∀ x, ∀ v ∈ enc x, v.oneCell' = true

section
variable {α : Type} (E : Enc α)
def Enc.cells (xs : List α) : List Value := xs.flatMap E.enc
theorem Enc.cells_nil : E.cells [] = [] := rfl
theorem Enc.cells_cons (x : α) (xs : List α) : E.cells (x :: xs) = E.enc x ++ E.cells xs := rfl
theorem Enc.cells_len : ∀ xs : List α, (E.cells xs).length = xs.length * E.k
  | [] => by rw [E.cells_nil]; simp
  | x :: r => by rw [E.cells_cons, List.length_append, Enc.cells_len r, E.len, List.length_cons, Nat.succ_mul, Nat.add_comm]
theorem Enc.cells_get : ∀ (xs : List α) (j : Nat) (x : α), xs[j]? = some x → ∀ (i : Nat) (v : Value), (E.enc x)[i]? = some v → (E.cells xs)[j * E.k + i]? = some v
  | [], j, x, h, _, _, _ => by simp at h
  | y :: r, 0, x, h, i, v, hv => by
    simp at h; subst h
    have hi := (List.getElem?_eq_some_iff.1 hv).1
    rw [E.cells_cons, Nat.zero_mul, Nat.zero_add, List.getElem?_append_left hi]; exact hv
  | y :: r, j + 1, x, h, i, v, hv => by
    have h' : r[j]? = some x := by simpa using h
    have ih := Enc.cells_get r j x h' i v hv
    rw [E.cells_cons, List.getElem?_append_right (by rw [E.len, Nat.succ_mul]; omega), E.len, Nat.succ_mul, show j * E.k + E.k + i - E.k = j * E.k + i by omega]
    exact ih
theorem Enc.cells_at : ∀ (xs : List α) (m : Nat) (u : Value), (E.cells xs)[m]? = some u → ∃ j x i, xs[j]? = some x ∧ m = j * E.k + i ∧ i < E.k ∧ (E.enc x)[i]? = some u
  | [], m, u, h => by rw [E.cells_nil] at h; simp at h
  | y :: r, m, u, h => by
    rw [E.cells_cons] at h
    by_cases hm : m < E.k
    · rw [List.getElem?_append_left (by rw [E.len]; exact hm)] at h
      exact ⟨0, y, m, rfl, by omega, hm, h⟩
    · rw [List.getElem?_append_right (by rw [E.len]; omega), E.len] at h
      obtain ⟨j, x, i, h1, h2, h3, h4⟩ := Enc.cells_at r _ u h
      exact ⟨j + 1, x, i, by simpa using h1, by rw [Nat.succ_mul]; omega, h3, h4⟩
/-- A slice that reads as a list of elements. -/
def SlE (w : World) (A : Option Addr) (n cap : Nat) (xs : List α) : Prop :=
  n = xs.length ∧ n ≤ cap ∧ (A = none → cap = 0) ∧ (n = 0 ∨ ∃ g off, A = some ⟨g, off, none⟩ ∧ g < w.heap.size ∧ ∀ j x, xs[j]? = some x → ∀ i v, (E.enc x)[i]? = some v → w.cell? ⟨g, off + j * E.k + i, none⟩ = some v)
variable {E}
theorem SlE.keep {w w' : World} {A : Option Addr} {n cap : Nat} {xs : List α} (h : SlE E w A n cap xs) (hz : w.heap.size ≤ w'.heap.size) (hb : ∀ j, j < w.heap.size → w'.heap[j]? = w.heap[j]?) : SlE E w' A n cap xs := by
  obtain ⟨h1, h2, h3, h4⟩ := h
  refine ⟨h1, h2, h3, ?_⟩
  rcases h4 with h4 | ⟨g, off, hA, hg, hc⟩
  · exact .inl h4
  · refine .inr ⟨g, off, hA, by omega, fun j x hj i v hv => ?_⟩
    rw [World.cell?_of_block (w := w) (hb g hg)]
    exact hc j x hj i v hv
theorem SlE.below {w w' : World} {A : Option Addr} {n cap : Nat} {xs : List α} (h : SlE E w A n cap xs) (hb : Below w.heap.size w w') : SlE E w' A n cap xs := h.keep hb.size hb.block
theorem SlE.nil (w : World) : SlE E w none 0 0 [] := ⟨rfl, Nat.le_refl _, fun _ => rfl, .inl rfl⟩
theorem SlE.len {w : World} {A : Option Addr} {n cap : Nat} {xs : List α} (h : SlE E w A n cap xs) : n = xs.length := h.1
/-- An element of it. -/
theorem SlE.at' {w : World} {A : Option Addr} {n cap : Nat} {xs : List α} (h : SlE E w A n cap xs) {k : Nat} (hk : k < n) :
    ∃ g off, A = some ⟨g, off, none⟩ ∧ g < w.heap.size ∧ ∀ j x, xs[j]? = some x → ∀ i v, (E.enc x)[i]? = some v → w.cell? ⟨g, off + j * E.k + i, none⟩ = some v := by
  rcases h.2.2.2 with h | h
  · omega
  · exact h
/-- Its cells, one behind the other. -/
theorem SlE.cells {w : World} {a : Addr} {n cap : Nat} {xs : List α} (h : SlE E w (some a) n cap xs) : ∀ j u, (E.cells xs)[j]? = some u → w.cell? (a.add j) = some u := by
  intro m u hm
  obtain ⟨j, x, i, h1, h2, h3, h4⟩ := E.cells_at xs m u hm
  obtain ⟨_, _, _, h5⟩ := h
  have hj := (List.getElem?_eq_some_iff.1 h1).1
  rcases h5 with h5 | ⟨g, off, hA, _, hc⟩
  · omega
  · cases hA
    rw [Addr.add_lit, h2, ← Nat.add_assoc]
    exact hc j x h1 i u h4
/-- A row of one's own of elements, which lies from block B on. -/
def OwnE (E : Enc α) (t : TypeId) (B : Nat) (w : World) (v : Value) (xs : List α) : Prop := w.ownsRow B t E.k v xs.length (E.cells xs)
variable {t : TypeId}
theorem OwnE.nil (B : Nat) (w : World) : OwnE E t B w (.slice none 0 0) [] := World.ownsRow_nil _ _ _ _
theorem OwnE.mono {B B' : Nat} {w : World} {v : Value} {xs : List α} (h : OwnE E t B' w v xs) (hb : B ≤ B') : OwnE E t B w v xs := World.ownsRow.mono h hb
theorem OwnE.gb {B : Nat} {w w' : World} {v : Value} {xs : List α} {r : Option Nat} (h : OwnE E t B w v xs) (hg : w.grownBy w' r) (hr : v.ownBlock = none ∨ v.ownBlock ≠ r) : OwnE E t B w' v xs := World.ownsRow.kept h hg hr
theorem OwnE.below {B : Nat} {w w' : World} {v : Value} {xs : List α} (h : OwnE E t B w v xs) (hb : Below w.heap.size w w') : OwnE E t B w' v xs :=
  h.gb (gbB (r := none) hb) (by
    cases hv : v.ownBlock with
    | none => exact .inl rfl
    | some k => exact .inr (by intro e; cases e))
theorem OwnE.lt {B : Nat} {w : World} {v : Value} {xs : List α} (h : OwnE E t B w v xs) : ∀ k, v.ownBlock = some k → B ≤ k ∧ k < w.heap.size := World.ownsRow.lt h
theorem OwnE.sl {B : Nat} {w : World} {v : Value} {xs : List α} (h : OwnE E t B w v xs) : ∃ A cap, v = .slice A xs.length cap ∧ SlE E w A xs.length cap xs := by
  have h0 := h
  rcases h.2 with ⟨rfl, h1⟩ | ⟨g, cap, cur, rfl, hg, hh, hle, _⟩
  · exact ⟨none, 0, by rw [h1], rfl, by omega, fun _ => rfl, .inl h1⟩
  · refine ⟨_, cap, rfl, rfl, hle, (fun e => by cases e), .inr ⟨g, 0, rfl, (Array.getElem?_eq_some_iff.1 hh).1, fun j x hj i v hv => ?_⟩⟩
    have := World.ownsRow.cells h0 (g := g) rfl _ _ (E.cells_get xs j x hj i v hv)
    rw [Addr.add_lit] at this
    rw [Nat.zero_add]
    simpa using this
/-- The row with an element or more stands in memory as a slice at its head. -/
theorem OwnE.form {B : Nat} {w : World} {v : Value} {xs : List α} (h : OwnE E t B w v xs) (hx : xs ≠ []) :
    ∃ g cap, v = .slice (some ⟨g, 0, none⟩) xs.length cap ∧ B ≤ g ∧ g < w.heap.size ∧ xs.length ≤ cap ∧ (∀ j x, xs[j]? = some x → ∀ i u, (E.enc x)[i]? = some u → w.cell? ⟨g, j * E.k + i, none⟩ = some u) ∧ (∀ j, w.frozen? ⟨g, j, none⟩ = false) := by
  have h0 := h
  rcases h.2 with ⟨rfl, h1⟩ | ⟨g, cap, cur, rfl, hg, hh, hle, _⟩
  · exact absurd (List.eq_nil_of_length_eq_zero h1) hx
  · refine ⟨g, cap, rfl, hg, (Array.getElem?_eq_some_iff.1 hh).1, hle, fun j x hj i u hu => ?_, fun j => frozen_of_row w g j _ _ hh⟩
    have := World.ownsRow.cells h0 (g := g) rfl _ _ (E.cells_get xs j x hj i u hu)
    rw [Addr.add_lit] at this
    simpa using this
/-- What the program's tables say of the elements and their slices. -/
structure Ty (E : Enc α) (t st : TypeId) (z : Value) (bytes : Nat) : Prop where
  sl : Tryd.prog.underlying st = some (.slice t)
  info : (Tryd.prog.info? t).map (fun i => (i.zero, i.size, i.bytes)) = some (some z, E.k, bytes)
  zs : z.cells.size = E.k
  small : bytes ≤ 1000

end
end Go.Proofs.YtmfflcemceonhaaDoor
