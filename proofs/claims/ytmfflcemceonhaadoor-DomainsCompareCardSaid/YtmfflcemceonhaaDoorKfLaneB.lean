/- What a stream makes: odd numbers, addresses. -/
import Derived.Test.YtmfflcemceonhaaDoorKfLaneA
import Derived.Deep.RegionWith
namespace Go.Proofs.YtmfflcemceonhaaDoor
open Go.RowKit

/-- A stream b and a younger block p of three cells; since w0 nothing old but the stream has turned. -/
structure Pre (w0 : World) (b R p : Nat) (x y z : Value) (t : TypeId) (w : World) : Prop where
  str : Str w b R
  blk : Blk w p [x, y, z] t
  base : w0.grownBy w (some b)
theorem Pre.alloc {w0 : World} {b R p : Nat} {x y z : Value} {t : TypeId} {w : World} (h : Pre w0 b R p x y z t w) (o : Obj) : Pre w0 b R p x y z t (w.alloc o) := ⟨h.str.alloc o, h.blk.alloc o, gb_alloc h.base o⟩
theorem Pre.drew {w0 : World} {b R p : Nat} {x y z : Value} {t : TypeId} {w : World} (h : Pre w0 b R p x y z t w) : Pre w0 b R p x y z t w.drew := ⟨h.str.drew, h.blk.drew, gb_drew h.base⟩
end Go.Proofs.YtmfflcemceonhaaDoor
