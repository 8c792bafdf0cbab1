/- What the calls read of package-level variables: internal/bytealg.MaxLen alone. Slices that read as lists of values. (In a seat that has no other variable: in the place of Cons.) -/
import Derived.Test.YtmfflcemceonhaaDoorKfLaneB
import Derived.Test.YtmfflcemceonhaaDoorKfWideA
import Derived.Test.YtmfflcemceonhaaDoorKfShelf
namespace Go.Proofs.YtmfflcemceonhaaDoor
open Go.RowKit

/-- A slice (its address, length, capacity) that reads as a list of values of one cell. -/
def Sl (w : World) (A : Option Addr) (n cap : Nat) (vs : List Value) : Prop :=
  n = vs.length ∧ n ≤ cap ∧ (n = 0 ∨ ∃ g off, A = some ⟨g, off, none⟩ ∧ g < w.heap.size ∧ ∀ j u, vs[j]? = some u → w.cell? ⟨g, off + j, none⟩ = some u)
theorem Sl.keep {w w' : World} {A : Option Addr} {n cap : Nat} {vs : List Value} (h : Sl w A n cap vs) (hs : w.heap.size ≤ w'.heap.size) (hk : ∀ j, j < w.heap.size → w'.heap[j]? = w.heap[j]?) : Sl w' A n cap vs := by
  obtain ⟨h1, h2, h3⟩ := h
  refine ⟨h1, h2, ?_⟩
  rcases h3 with h3 | ⟨g, off, hA, hg, hc⟩
  · exact .inl h3
  · exact .inr ⟨g, off, hA, by omega, fun j u hu => by rw [World.cell?_of_block (w := w) (hk g hg)]; exact hc j u hu⟩
theorem Sl.below {w w' : World} {A : Option Addr} {n cap : Nat} {vs : List Value} (h : Sl w A n cap vs) (hb : Below w.heap.size w w') : Sl w' A n cap vs := h.keep hb.size hb.block
theorem Sl.alloc {w : World} {A : Option Addr} {n cap : Nat} {vs : List Value} (h : Sl w A n cap vs) (o : Obj) : Sl (w.alloc o) A n cap vs := h.below (.alloc (.refl _ _) (Nat.le_refl _) _)
theorem Sl.drew {w : World} {A : Option Addr} {n cap : Nat} {vs : List Value} (h : Sl w A n cap vs) : Sl w.drew A n cap vs := h
theorem Sl.head {w : World} {A : Option Addr} {n cap k : Nat} {vs : List Value} (h : Sl w A n cap vs) (hk : k ≤ n) : Sl w A k cap (vs.take k) := by
  obtain ⟨h1, h2, h3⟩ := h
  refine ⟨by simp; omega, by omega, ?_⟩
  rcases h3 with h3 | ⟨g, off, hA, hg, hc⟩
  · exact .inl (by omega)
  · refine .inr ⟨g, off, hA, hg, fun j u hu => hc j u ?_⟩
    rw [List.getElem?_take] at hu
    split at hu
    · exact hu
    · cases hu
abbrev sv (l : List UInt8) : Value := .string ⟨l.toArray⟩

structure Cons (w : World) : Prop where
  maxl : ∃ m, w.cell? ⟨0, 0, none⟩ = some (.int .i64 m)
  lt : 0 < w.heap.size
theorem Cons.upto {w w' : World} (h : Cons w) (hb : w'.heap[0]? = w.heap[0]?) (hs : w.heap.size ≤ w'.heap.size) : Cons w' := by
  obtain ⟨m, hm⟩ := h.maxl
  exact ⟨⟨m, by rw [World.cell?_of_block (w := w) hb]; exact hm⟩, Nat.lt_of_lt_of_le h.lt hs⟩
theorem Cons.below {w w' : World} (h : Cons w) (k : Below w.heap.size w w') : Cons w' := h.upto (k.block _ h.lt) k.size
theorem Cons.alloc {w : World} (h : Cons w) (o : Obj) : Cons (w.alloc o) := h.below (.alloc (.refl _ _) (Nat.le_refl _) _)
end Go.Proofs.YtmfflcemceonhaaDoor
