/- What the calls read of package-level variables: the tables, internal/bytealg.MaxLen, the errors of strconv. -/
import Derived.Test.YthjhokicojgpbaaGreatDoorKeTxtC
namespace Go.Proofs.YthjhokicojgpbaaGreatDoor
open Go.RowKit

structure Cons (w : World) : Prop where
  tabs : Tabs w
  maxl : ∃ m, w.cell? ⟨0, 0, none⟩ = some (.int .i64 m)
  esyn : ∃ tp p, w.var? Tryz.prog "strconv.ErrSyntax" = some #[.iface tp p]
  eran : ∃ tp p, w.var? Tryz.prog "strconv.ErrRange" = some #[.iface tp p]

theorem Cons.upto {w w' : World} (h : Cons w) (hb : ∀ j, j < 10 → w'.heap[j]? = w.heap[j]?) (hs : w.heap.size ≤ w'.heap.size) : Cons w' := by
  have g1 : Tryz.prog.globalNamed "strconv.ErrSyntax" = some 4 := by kernel_rfl
  have g2 : Tryz.prog.globalNamed "strconv.ErrRange" = some 5 := by kernel_rfl
  obtain ⟨m, hm⟩ := h.maxl
  obtain ⟨t1, p1, h1⟩ := h.esyn
  obtain ⟨t2, p2, h2⟩ := h.eran
  exact ⟨h.tabs.upto hb hs, ⟨m, by rw [World.cell?_of_block (w := w) (hb _ (by simp))]; exact hm⟩, ⟨t1, p1, by rw [var_block g1 (hb _ (by omega))]; exact h1⟩, ⟨t2, p2, by rw [var_block g2 (hb _ (by omega))]; exact h2⟩⟩
theorem Cons.below {w w' : World} (h : Cons w) (k : Below w.heap.size w w') : Cons w' :=
  have := h.tabs.2.2
  h.upto (fun j hj => k.block j (by omega)) k.size
theorem Cons.grown {w w' : World} {b : Nat} (h : Cons w) (k : w.grownBy w' (some b)) (hb : 10 ≤ b) : Cons w' :=
  have := h.tabs.2.2
  h.upto (fun j hj => k.block j (by omega) (by intro e; cases e; omega)) k.size
theorem Cons.alloc {w : World} (h : Cons w) (o : Obj) : Cons (w.alloc o) := h.below (.alloc (.refl _ _) (Nat.le_refl _) _)
theorem Cons.setCell {w : World} (h : Cons w) {p : Addr} (hp : 10 ≤ p.block) (v : Value) : Cons (w.setCell p v) :=
  h.upto (fun j hj => Below.heap_setCell _ _ _ _ (by omega)) (by simp [World.setCell])
end Go.Proofs.YthjhokicojgpbaaGreatDoor
