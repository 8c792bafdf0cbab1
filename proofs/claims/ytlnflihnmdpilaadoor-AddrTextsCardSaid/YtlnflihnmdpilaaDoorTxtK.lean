/- A round of AddrTexts' loop that makes an address with rows of zeros. -/
import Derived.Test.YtlnflihnmdpilaaDoorWaysX
import Derived.Test.YtlnflihnmdpilaaDoorLaneC
import Derived.Test.YtlnflihnmdpilaaDoorHex
namespace Go.Proofs.YtlnflihnmdpilaaDoor
open Go.RowKit

/-- A stream b, two younger blocks of addresses, the library's tables; nothing older than the stream has turned since w0. -/
structure AT (w0 : World) (b R pa pb : Nat) (x y : List Value) (w : World) : Prop where
  str : Str w b R
  ba : Blk w pa x 28
  bb : Blk w pb y 28
  tabs : Tabs w
  base : Below w0.heap.size w0 w
  lt : 4 ≤ b ∧ b < pa ∧ b < pb ∧ w0.heap.size ≤ b ∧ pa ≠ pb
theorem AT.below {w0 w w' : World} {b R pa pb : Nat} {x y : List Value} (h : AT w0 b R pa pb x y w) (hb : Below w.heap.size w w') : AT w0 b R pa pb x y w' :=
  ⟨h.str.below hb, h.ba.below hb, h.bb.below hb, h.tabs.below hb, h.base.trans (hb.mono h.base.size), h.lt⟩
theorem AT.step {w0 w w' : World} {b R R' pa pb : Nat} {x y : List Value} (h : AT w0 b R pa pb x y w) (hs : Str w' b R') (hg : w.grownBy w' (some b)) : AT w0 b R' pa pb x y w' :=
  ⟨hs, h.ba.gb hg h.lt.2.1, h.bb.gb hg h.lt.2.2.1, h.tabs.grown hg h.lt.1, h.base.trans (gb_toBelow hg h.lt.2.2.2.1 (Nat.le_of_lt h.str.lt)), h.lt⟩
theorem AT.set {w0 w : World} {b R pa pb : Nat} {x y : List Value} (h : AT w0 b R pa pb x y w) (i : Nat) (v : Value) : AT w0 b R pa pb (x.set i v) y (w.setCell ⟨pa, i, none⟩ v) :=
  ⟨h.str.setCell (p := ⟨pa, i, none⟩) h.lt.2.1 v, h.ba.set i v, h.bb.other (a := ⟨pa, i, none⟩) (Ne.symm h.lt.2.2.2.2) v, h.tabs.setCell (p := ⟨pa, i, none⟩) (by have := h.lt; simp; omega) v,
   h.base.setCell (by have := h.lt; simp; omega) v, h.lt⟩

theorem u64_range (x : Int) : U64 (IntKind.u64.wrap x) := by
  rw [IntKind.wrap_u64]; constructor <;> omega
theorem u64_bits (x y : Int) : U64 (bits .or .u64 x y) := u64_range _

theorem AT.le {w0 w : World} {b R R' pa pb : Nat} {x y : List Value} (h : AT w0 b R pa pb x y w) (hR : R' ≤ R) : AT w0 b R' pa pb x y w := ⟨h.str.le hR, h.ba, h.bb, h.tabs, h.base, h.lt⟩
/-- Some address in the block pa. -/
def AnyAT (w0 : World) (b pa pb : Nat) (y : List Value) (w : World) : Prop := ∃ (s : Bool) (hi lo : Int) (R : Nat), U64 hi ∧ U64 lo ∧ AT w0 b R pa pb [.bool s, .int .u64 hi, .int .u64 lo] y w
/-- An address of 128 bits in the block pa. -/
def SixAT (w0 : World) (b R pa pb : Nat) (y : List Value) (w : World) : Prop := ∃ hi lo : Int, U64 hi ∧ U64 lo ∧ AT w0 b R pa pb [.bool true, .int .u64 hi, .int .u64 lo] y w

/-- Pick out of a fresh literal. -/
theorem pick_blk (w : World) (b R p cap : Nat) (zs : List Int) (t : TypeId) (hs : Str w b (R + 1)) (hb : b < p) (hB : Blk w p (zs.map (Value.int .i64)) t) (h1 : 1 ≤ zs.length) (h2 : zs.length ≤ 1000) (P : Int → Prop) (hP : ∀ z ∈ zs, P z) :
    Calls Tryd.prog 8 #[.pointer (some ⟨b, 0, none⟩), .slice (some ⟨p, 0, none⟩) zs.length cap] w (NumPost P b R w) :=
  pick_any w b R p zs.length cap zs hs hb h1 h2 (fun i hi => hB.cell (by simp [hi, List.getD_eq_getElem?_getD])) P (fun i hi => hP _ (by rw [List.getD_eq_getElem?_getD, List.getElem?_eq_getElem hi]; exact List.getElem_mem hi))
end Go.Proofs.YtlnflihnmdpilaaDoor
