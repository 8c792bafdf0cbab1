/- Frames between worlds, as the walks of regions need them. -/
import Derived.Test.YtmfflcemceonhaaLaneA
namespace Go.Proofs.Ytmfflcemceonhaa
open Go.RowKit

theorem below_two (w : World) (o o' : Obj) : Below w.heap.size w ((w.alloc o).alloc o') := ((Below.refl _ _).alloc (Nat.le_refl _) _).alloc (by simp) _
theorem gbB {u u' : World} {r : Option Nat} (h : Below u.heap.size u u') : u.grownBy u' r := gb_below (gb_refl u r) h
theorem gb2B {w u : World} (h : w.grownBy u none) : Below w.heap.size w u := ⟨h.os, h.tape, h.output, h.size, fun k hk => h.block k hk (by simp)⟩
theorem Blk.gn {w u : World} {p : Nat} {cs : List Value} {t : TypeId} (h : Blk w p cs t) (hg : w.grownBy u none) : Blk u p cs t := h.below (gb2B hg)
theorem blk2 (w : World) (xs ys : List Value) (t t' : TypeId) : Blk ((w.alloc (.cells xs.toArray t)).alloc (.cells ys.toArray t')) w.heap.size xs t ∧ Blk ((w.alloc (.cells xs.toArray t)).alloc (.cells ys.toArray t')) (w.heap.size + 1) ys t' := by
  refine ⟨(Blk.new w xs t).alloc _, ?_⟩
  have := Blk.new (w.alloc (.cells xs.toArray t)) ys t'
  simpa using this
theorem below_gb2 {w u : World} {o o' : Obj} (h : ((w.alloc o).alloc o').grownBy u none) : Below w.heap.size w u := (below_two w o o').trans ((gb2B h).mono (by simp; omega))
end Go.Proofs.Ytmfflcemceonhaa
