/- Reports of flows, their cells, and their order. -/
import Derived.Test.YtbheigndfhhpcaaGreatDoorKgStF
import Derived.Lib.Small
import Derived.Lib.Bytealg
namespace Go.Proofs.YtbheigndfhhpcaaGreatDoor
open Go.RowKit
set_option linter.unusedVariables false
set_option linter.unusedSimpArgs false

/-- A flow; a report of one. -/
structure Fl where
  p : Int
  f : Ad
  t : Ad
  fp : Int
  tp : Int
structure Rp where
  node : List UInt8
  hour : Int
  out : Bool
  fl : Fl
  pk : Int
  by_ : Int
def flC (x : Fl) : List Value := [.int .i64 x.p, .bool x.f.s, .int .u64 x.f.hi, .int .u64 x.f.lo, .bool x.t.s, .int .u64 x.t.hi, .int .u64 x.t.lo, .int .i64 x.fp, .int .i64 x.tp]
def rpC (r : Rp) : List Value := [.string ⟨r.node.toArray⟩, .int .i64 r.hour, .bool r.out] ++ flC r.fl ++ [.int .i64 r.pk, .int .i64 r.by_]
abbrev flA (x : Fl) : Value := .agg (flC x).toArray
abbrev rpA (r : Rp) : Value := .agg (rpC r).toArray
theorem flC_len (x : Fl) : (flC x).length = 9 := rfl
theorem rpC_len (r : Rp) : (rpC r).length = 14 := rfl
theorem flC_one (x : Fl) : ∀ v ∈ flC x, v.oneCell' = true := by
  intro v hv
  simp [flC] at hv
  rcases hv with rfl | rfl | rfl | rfl | rfl | rfl | rfl | rfl | rfl <;> rfl
theorem rpC_one (r : Rp) : ∀ v ∈ rpC r, v.oneCell' = true := by
  intro v hv
  simp [rpC, flC] at hv
  rcases hv with rfl | rfl | rfl | rfl | rfl | rfl | rfl | rfl | rfl | rfl | rfl | rfl | rfl | rfl <;> rfl
def eRp : Enc Rp := ⟨rpC, 14, by decide, rpC_len, rpC_one⟩
/-- What every flow and report in memory is. -/
def i60 (z : Int) : Prop := -1152921504606846976 ≤ z ∧ z ≤ 1152921504606846976
def Fl.U (x : Fl) : Prop := x.f.U ∧ x.t.U ∧ i60 x.p ∧ i60 x.fp ∧ i60 x.tp
def Rp.U (r : Rp) : Prop := r.fl.U ∧ i60 r.hour ∧ r.node.length ≤ 1000
/-- The order of flows, of reports. -/
def cmpFl (x y : Fl) : Int := firstZ [Lib.compareInt x.p y.p, cmpN x.f.n y.f.n, cmpN x.t.n y.t.n, Lib.compareInt x.fp y.fp, Lib.compareInt x.tp y.tp]
def rank (b : Bool) : Int := if b then 1 else 0
def cmpRp (x y : Rp) : Int := firstZ [Lib.compareInt x.hour y.hour, Lib.compareBytes x.node y.node, Lib.compareInt (rank x.out) (rank y.out), cmpFl x.fl y.fl]

section
variable (ρ : Operand → Value) (dst : Option Tmp) (x y : Operand) (ty : TypeId) (pos : String) (after : Array Edge) (guard : Option (Nat × Bool))
@[go_sem ↓ high] theorem execOp_ldFl : execOp ρ ⟨dst, .load 35 x, ty, pos, after, guard⟩ = ldT 35 (ρ x) := rfl
@[go_sem high] theorem execOp_ldFl' : execOp ρ ⟨dst, .load 35 x, ty, pos, after, guard⟩ = ldT 35 (ρ x) := rfl
@[go_sem ↓ high] theorem execOp_ldRp : execOp ρ ⟨dst, .load 37 x, ty, pos, after, guard⟩ = ldT 37 (ρ x) := rfl
@[go_sem high] theorem execOp_ldRp' : execOp ρ ⟨dst, .load 37 x, ty, pos, after, guard⟩ = ldT 37 (ρ x) := rfl
@[go_sem ↓ high] theorem execOp_stFl : execOp ρ ⟨dst, .store 35 x y, ty, pos, after, guard⟩ = stT 35 (ρ x) (ρ y) := rfl
@[go_sem high] theorem execOp_stFl' : execOp ρ ⟨dst, .store 35 x y, ty, pos, after, guard⟩ = stT 35 (ρ x) (ρ y) := rfl
@[go_sem ↓ high] theorem execOp_stRp : execOp ρ ⟨dst, .store 37 x y, ty, pos, after, guard⟩ = stT 37 (ρ x) (ρ y) := rfl
@[go_sem high] theorem execOp_stRp' : execOp ρ ⟨dst, .store 37 x y, ty, pos, after, guard⟩ = stT 37 (ρ x) (ρ y) := rfl
end
theorem rowFl : RowT 35 9 := ⟨⟨_, Tryz.underlying35, rfl⟩, by kernel_rfl⟩
theorem rowRp : RowT 37 14 := ⟨⟨_, Tryz.underlying37, rfl⟩, by kernel_rfl⟩
end Go.Proofs.YtbheigndfhhpcaaGreatDoor
