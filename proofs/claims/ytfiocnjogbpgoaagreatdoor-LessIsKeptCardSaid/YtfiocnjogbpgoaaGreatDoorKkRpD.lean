/- Keys. -/
import Derived.Test.YtfiocnjogbpgoaaGreatDoorKkStF
import Derived.Lib.Small
import Derived.Lib.Bytealg
import Derived.Test.YtfiocnjogbpgoaaGreatDoorKkShelf
import Derived.Shelf.Strings.SlTrimAscii
namespace Go.Proofs.YtfiocnjogbpgoaaGreatDoor
open Go.RowKit
set_option linter.unusedVariables false
set_option linter.unusedSimpArgs false

/-- A flow; a report of one. -/
structure Fl where
  p : Int
  f : Ad
  t : Ad
  fp : Int
  tp : Int
structure Rp where
  node : List UInt8
  hour : Int
  out : Bool
  fl : Fl
  pk : Int
  by_ : Int
def flC (x : Fl) : List Value := [.int .i64 x.p, .bool x.f.s, .int .u64 x.f.hi, .int .u64 x.f.lo, .bool x.t.s, .int .u64 x.t.hi, .int .u64 x.t.lo, .int .i64 x.fp, .int .i64 x.tp]
def rpC (r : Rp) : List Value := [.string ⟨r.node.toArray⟩, .int .i64 r.hour, .bool r.out] ++ flC r.fl ++ [.int .i64 r.pk, .int .i64 r.by_]
abbrev flA (x : Fl) : Value := .agg (flC x).toArray
abbrev rpA (r : Rp) : Value := .agg (rpC r).toArray
theorem flC_len (x : Fl) : (flC x).length = 9 := rfl
theorem rpC_len (r : Rp) : (rpC r).length = 14 := rfl
theorem flC_one (x : Fl) : ∀ v ∈ flC x, v.oneCell' = true := by
  intro v hv
  simp [flC] at hv
  rcases hv with rfl | rfl | rfl | rfl | rfl | rfl | rfl | rfl | rfl <;> rfl
theorem rpC_one (r : Rp) : ∀ v ∈ rpC r, v.oneCell' = true := by
  intro v hv
  simp [rpC, flC] at hv
  rcases hv with rfl | rfl | rfl | rfl | rfl | rfl | rfl | rfl | rfl | rfl | rfl | rfl | rfl | rfl <;> rfl
def eRp : Enc Rp := ⟨rpC, 14, by decide, rpC_len, rpC_one⟩
/-- What every flow and report in memory is. -/
def i60 (z : Int) : Prop := -1152921504606846976 ≤ z ∧ z ≤ 1152921504606846976
def Fl.U (x : Fl) : Prop := x.f.U ∧ x.t.U ∧ i60 x.p ∧ i60 x.fp ∧ i60 x.tp
def Rp.U (r : Rp) : Prop := r.fl.U ∧ i60 r.hour ∧ r.node.length ≤ 1000
/-- The order of flows, of reports. -/
def cmpFl (x y : Fl) : Int := firstZ [Lib.compareInt x.p y.p, cmpN x.f.n y.f.n, cmpN x.t.n y.t.n, Lib.compareInt x.fp y.fp, Lib.compareInt x.tp y.tp]
def rank (b : Bool) : Int := if b then 1 else 0
def cmpRp (x y : Rp) : Int := firstZ [Lib.compareInt x.hour y.hour, Lib.compareBytes x.node y.node, Lib.compareInt (rank x.out) (rank y.out), cmpFl x.fl y.fl]

section
variable (ρ : Operand → Value) (dst : Option Tmp) (x y : Operand) (ty : TypeId) (pos : String) (after : Array Edge) (guard : Option (Nat × Bool))
@[go_sem ↓ high] theorem execOp_ldFl : execOp ρ ⟨dst, .load 54 x, ty, pos, after, guard⟩ = ldT 54 (ρ x) := rfl
@[go_sem high] theorem execOp_ldFl' : execOp ρ ⟨dst, .load 54 x, ty, pos, after, guard⟩ = ldT 54 (ρ x) := rfl
@[go_sem ↓ high] theorem execOp_ldRp : execOp ρ ⟨dst, .load 56 x, ty, pos, after, guard⟩ = ldT 56 (ρ x) := rfl
@[go_sem high] theorem execOp_ldRp' : execOp ρ ⟨dst, .load 56 x, ty, pos, after, guard⟩ = ldT 56 (ρ x) := rfl
@[go_sem ↓ high] theorem execOp_stFl : execOp ρ ⟨dst, .store 54 x y, ty, pos, after, guard⟩ = stT 54 (ρ x) (ρ y) := rfl
@[go_sem high] theorem execOp_stFl' : execOp ρ ⟨dst, .store 54 x y, ty, pos, after, guard⟩ = stT 54 (ρ x) (ρ y) := rfl
@[go_sem ↓ high] theorem execOp_stRp : execOp ρ ⟨dst, .store 56 x y, ty, pos, after, guard⟩ = stT 56 (ρ x) (ρ y) := rfl
@[go_sem high] theorem execOp_stRp' : execOp ρ ⟨dst, .store 56 x y, ty, pos, after, guard⟩ = stT 56 (ρ x) (ρ y) := rfl
end
theorem rowFl : RowT 54 9 := ⟨⟨_, Tryz.underlying54, rfl⟩, by kernel_rfl⟩
theorem rowRp : RowT 56 14 := ⟨⟨_, Tryz.underlying56, rfl⟩, by kernel_rfl⟩
end Go.Proofs.YtfiocnjogbpgoaaGreatDoor
namespace Go.Proofs.YtfiocnjogbpgoaaGreatDoor
open Go.RowKit
set_option linter.unusedVariables false
set_option linter.unusedSimpArgs false

theorem intCmp_d (x y : Int) (w : World) : Calls Tryz.prog 108 #[.int .i64 x, .int .i64 y] w fun e w' => e = .returned (.int .i64 (Lib.compareInt x y)) ∧ w' = w := Tryz.cmp_Compare_int x y w
theorem strCmp_d (x y : List UInt8) (w : World) : Calls Tryz.prog 101 #[.string ⟨x.toArray⟩, .string ⟨y.toArray⟩] w fun e w' => e = .returned (.int .i64 (Lib.compareBytes x y)) ∧ w' = w := Tryz.strings_Compare ⟨x.toArray⟩ ⟨y.toArray⟩ w

set_option maxHeartbeats 1000000 in
theorem addrCmp_d (a b : Ad) (w : World) (ha : a.U) (hb : b.U) :
    Calls Tryz.prog 172 #[adA a, adA b] w (GivesD (.int .i64 (cmpN a.n b.n)) w) := by
  have HC := fun w' => Lib.hid (spanCmp_d a b w' ha hb)
  obtain ⟨h1, h2⟩ := two_new w (adC a) (adC b) 28 28
  have l1 := h1.ld rowAd rfl
  have l2 := h2.ld rowAd rfl
  have hG : Gd w ((w.alloc (.cells (adC a).toArray 28)).alloc (.cells (adC b).toArray 28)) := ((Gd.refl w).alloc _).alloc _
  clear h1 h2 ha hb
  go_enter Tryz.func172, Tryz.ntmps172
  go_wp2_with fail
  refine (HC _).out.mono ?_
  rintro e w1 ⟨rfl, hg1⟩
  go_wp2_with fail
  go_ret
  exact ⟨rfl, hG.trans hg1⟩

set_option maxHeartbeats 4000000 in
set_option maxRecDepth 100000 in
theorem flowsCmp_d (x y : Fl) (w : World) (hx : x.U) (hy : y.U) :
    Calls Tryz.prog 110 #[flA x, flA y] w (GivesD (.int .i64 (cmpFl x y)) w) := by
  obtain ⟨z1, hz1⟩ : ∃ z, z = Lib.compareInt x.p y.p := ⟨_, rfl⟩
  obtain ⟨z2, hz2⟩ : ∃ z, z = cmpN x.f.n y.f.n := ⟨_, rfl⟩
  obtain ⟨z3, hz3⟩ : ∃ z, z = cmpN x.t.n y.t.n := ⟨_, rfl⟩
  obtain ⟨z4, hz4⟩ : ∃ z, z = Lib.compareInt x.fp y.fp := ⟨_, rfl⟩
  obtain ⟨z5, hz5⟩ : ∃ z, z = Lib.compareInt x.tp y.tp := ⟨_, rfl⟩
  have C1 := Lib.hid (fun w' => intCmp_d x.p y.p w')
  have C2 := Lib.hid (fun w' => addrCmp_d x.f y.f w' hx.1 hy.1)
  have C3 := Lib.hid (fun w' => addrCmp_d x.t y.t w' hx.2.1 hy.2.1)
  have C4 := Lib.hid (fun w' => intCmp_d x.fp y.fp w')
  have C5 := Lib.hid (fun w' => intCmp_d x.tp y.tp w')
  have HR : Hid (firstZ [z1, z2, z3, z4, z5] = cmpFl x y) := Lib.hid (by rw [hz1, hz2, hz3, hz4, hz5]; rfl)
  rw [← hz1] at C1
  rw [← hz2] at C2
  rw [← hz3] at C3
  rw [← hz4] at C4
  rw [← hz5] at C5
  obtain ⟨R, hR⟩ : ∃ R, R = cmpFl x y := ⟨_, rfl⟩
  rw [← hR] at HR ⊢
  clear hz1 hz2 hz3 hz4 hz5 hR hx hy
  obtain ⟨hA, hD⟩ := two_new w (flC x) (flC y) 54 54
  have hG : Gd w ((w.alloc (.cells (flC x).toArray 54)).alloc (.cells (flC y).toArray 54)) := ((Gd.refl w).alloc _).alloc _
  have hB := Gd.refl ((w.alloc (.cells (flC x).toArray 54)).alloc (.cells (flC y).toArray 54))
  go_enter Tryz.func110, Tryz.ntmps110
  go_upto_region 1 with fail
  refine wd_begin [] (by kernel_rfl) (fun u0 hb0' hz0' => ?_)
  replace hB := hB.trans hb0'
  clear hb0' hz0'
  refine wd_pure (i := 0) (d := some 5) (v := ?_) (by simp only [List.getElem?_toArray, List.getElem?_cons_succ, List.getElem?_cons_zero] <;> rfl) (by rfl) (by kernel_rfl) (by kernel_rfl) (by kernel_rfl) (fun _ _ _ h => h) (by rfl) ?_ ?_
  rotate_left
  · ((intro u); go_simp; try with_reducible rfl)
  try simp only [Act.put, List.setIfInBounds_toArray, List.set_cons_zero, List.set_cons_succ]
  refine wd_take (i := 1) (d := some 6) (v := ?_) (by simp only [List.getElem?_toArray, List.getElem?_cons_succ, List.getElem?_cons_zero] <;> rfl) (by rfl) (by kernel_rfl) (by kernel_rfl) (by kernel_rfl) (fun _ _ _ h => h) (by rfl) (by kernel_rfl) ?_ ?_
  rotate_left
  · ((intro u hu); have ka := hA.gn (hB.trans hu).1; have kb := hD.gn (hB.trans hu).1; have a0 := ka.cell (i := 0) (v := .int .i64 x.p) rfl; have a7 := ka.cell (i := 7) (v := .int .i64 x.fp) rfl; have a8 := ka.cell (i := 8) (v := .int .i64 x.tp) rfl; have b0 := kb.cell (i := 0) (v := .int .i64 y.p) rfl; have b7 := kb.cell (i := 7) (v := .int .i64 y.fp) rfl; have b8 := kb.cell (i := 8) (v := .int .i64 y.tp) rfl; have l1 := ka.ldAt rowAd 1 (adC x.f) ((flC x).drop 4) rfl rfl; have l2 := ka.ldAt rowAd 4 (adC x.t) ((flC x).drop 7) rfl rfl; have l3 := kb.ldAt rowAd 1 (adC y.f) ((flC y).drop 4) rfl rfl; have l4 := kb.ldAt rowAd 4 (adC y.t) ((flC y).drop 7) rfl rfl; clear ka kb; go_simp; try with_reducible rfl)
  try simp only [Act.put, List.setIfInBounds_toArray, List.set_cons_zero, List.set_cons_succ]
  refine wd_pure (i := 2) (d := some 7) (v := ?_) (by simp only [List.getElem?_toArray, List.getElem?_cons_succ, List.getElem?_cons_zero] <;> rfl) (by rfl) (by kernel_rfl) (by kernel_rfl) (by kernel_rfl) (fun _ _ _ h => h) (by rfl) ?_ ?_
  rotate_left
  · ((intro u); go_simp; try with_reducible rfl)
  try simp only [Act.put, List.setIfInBounds_toArray, List.set_cons_zero, List.set_cons_succ]
  refine wd_take (i := 3) (d := some 8) (v := ?_) (by simp only [List.getElem?_toArray, List.getElem?_cons_succ, List.getElem?_cons_zero] <;> rfl) (by rfl) (by kernel_rfl) (by kernel_rfl) (by kernel_rfl) (fun _ _ _ h => h) (by rfl) (by kernel_rfl) ?_ ?_
  rotate_left
  · ((intro u hu); have ka := hA.gn (hB.trans hu).1; have kb := hD.gn (hB.trans hu).1; have a0 := ka.cell (i := 0) (v := .int .i64 x.p) rfl; have a7 := ka.cell (i := 7) (v := .int .i64 x.fp) rfl; have a8 := ka.cell (i := 8) (v := .int .i64 x.tp) rfl; have b0 := kb.cell (i := 0) (v := .int .i64 y.p) rfl; have b7 := kb.cell (i := 7) (v := .int .i64 y.fp) rfl; have b8 := kb.cell (i := 8) (v := .int .i64 y.tp) rfl; have l1 := ka.ldAt rowAd 1 (adC x.f) ((flC x).drop 4) rfl rfl; have l2 := ka.ldAt rowAd 4 (adC x.t) ((flC x).drop 7) rfl rfl; have l3 := kb.ldAt rowAd 1 (adC y.f) ((flC y).drop 4) rfl rfl; have l4 := kb.ldAt rowAd 4 (adC y.t) ((flC y).drop 7) rfl rfl; clear ka kb; go_simp; try with_reducible rfl)
  try simp only [Act.put, List.setIfInBounds_toArray, List.set_cons_zero, List.set_cons_succ]
  refine wd_pure (i := 5) (d := some 10) (v := ?_) (by simp only [List.getElem?_toArray, List.getElem?_cons_succ, List.getElem?_cons_zero] <;> rfl) (by rfl) (by kernel_rfl) (by kernel_rfl) (by kernel_rfl) (fun _ _ _ h => h) (by rfl) ?_ ?_
  rotate_left
  · ((intro u); go_simp; try with_reducible rfl)
  try simp only [Act.put, List.setIfInBounds_toArray, List.set_cons_zero, List.set_cons_succ]
  refine wd_take (i := 6) (d := some 11) (v := ?_) (by simp only [List.getElem?_toArray, List.getElem?_cons_succ, List.getElem?_cons_zero] <;> rfl) (by rfl) (by kernel_rfl) (by kernel_rfl) (by kernel_rfl) (fun _ _ _ h => h) (by rfl) (by kernel_rfl) ?_ ?_
  rotate_left
  · ((intro u hu); have ka := hA.gn (hB.trans hu).1; have kb := hD.gn (hB.trans hu).1; have a0 := ka.cell (i := 0) (v := .int .i64 x.p) rfl; have a7 := ka.cell (i := 7) (v := .int .i64 x.fp) rfl; have a8 := ka.cell (i := 8) (v := .int .i64 x.tp) rfl; have b0 := kb.cell (i := 0) (v := .int .i64 y.p) rfl; have b7 := kb.cell (i := 7) (v := .int .i64 y.fp) rfl; have b8 := kb.cell (i := 8) (v := .int .i64 y.tp) rfl; have l1 := ka.ldAt rowAd 1 (adC x.f) ((flC x).drop 4) rfl rfl; have l2 := ka.ldAt rowAd 4 (adC x.t) ((flC x).drop 7) rfl rfl; have l3 := kb.ldAt rowAd 1 (adC y.f) ((flC y).drop 4) rfl rfl; have l4 := kb.ldAt rowAd 4 (adC y.t) ((flC y).drop 7) rfl rfl; clear ka kb; go_simp; try with_reducible rfl)
  try simp only [Act.put, List.setIfInBounds_toArray, List.set_cons_zero, List.set_cons_succ]
  refine wd_pure (i := 7) (d := some 12) (v := ?_) (by simp only [List.getElem?_toArray, List.getElem?_cons_succ, List.getElem?_cons_zero] <;> rfl) (by rfl) (by kernel_rfl) (by kernel_rfl) (by kernel_rfl) (fun _ _ _ h => h) (by rfl) ?_ ?_
  rotate_left
  · ((intro u); go_simp; try with_reducible rfl)
  try simp only [Act.put, List.setIfInBounds_toArray, List.set_cons_zero, List.set_cons_succ]
  refine wd_take (i := 8) (d := some 13) (v := ?_) (by simp only [List.getElem?_toArray, List.getElem?_cons_succ, List.getElem?_cons_zero] <;> rfl) (by rfl) (by kernel_rfl) (by kernel_rfl) (by kernel_rfl) (fun _ _ _ h => h) (by rfl) (by kernel_rfl) ?_ ?_
  rotate_left
  · ((intro u hu); have ka := hA.gn (hB.trans hu).1; have kb := hD.gn (hB.trans hu).1; have a0 := ka.cell (i := 0) (v := .int .i64 x.p) rfl; have a7 := ka.cell (i := 7) (v := .int .i64 x.fp) rfl; have a8 := ka.cell (i := 8) (v := .int .i64 x.tp) rfl; have b0 := kb.cell (i := 0) (v := .int .i64 y.p) rfl; have b7 := kb.cell (i := 7) (v := .int .i64 y.fp) rfl; have b8 := kb.cell (i := 8) (v := .int .i64 y.tp) rfl; have l1 := ka.ldAt rowAd 1 (adC x.f) ((flC x).drop 4) rfl rfl; have l2 := ka.ldAt rowAd 4 (adC x.t) ((flC x).drop 7) rfl rfl; have l3 := kb.ldAt rowAd 1 (adC y.f) ((flC y).drop 4) rfl rfl; have l4 := kb.ldAt rowAd 4 (adC y.t) ((flC y).drop 7) rfl rfl; clear ka kb; go_simp; try with_reducible rfl)
  try simp only [Act.put, List.setIfInBounds_toArray, List.set_cons_zero, List.set_cons_succ]
  refine wd_pure (i := 10) (d := some 15) (v := ?_) (by simp only [List.getElem?_toArray, List.getElem?_cons_succ, List.getElem?_cons_zero] <;> rfl) (by rfl) (by kernel_rfl) (by kernel_rfl) (by kernel_rfl) (fun _ _ _ h => h) (by rfl) ?_ ?_
  rotate_left
  · ((intro u); go_simp; try with_reducible rfl)
  try simp only [Act.put, List.setIfInBounds_toArray, List.set_cons_zero, List.set_cons_succ]
  refine wd_take (i := 11) (d := some 16) (v := ?_) (by simp only [List.getElem?_toArray, List.getElem?_cons_succ, List.getElem?_cons_zero] <;> rfl) (by rfl) (by kernel_rfl) (by kernel_rfl) (by kernel_rfl) (fun _ _ _ h => h) (by rfl) (by kernel_rfl) ?_ ?_
  rotate_left
  · ((intro u hu); have ka := hA.gn (hB.trans hu).1; have kb := hD.gn (hB.trans hu).1; have a0 := ka.cell (i := 0) (v := .int .i64 x.p) rfl; have a7 := ka.cell (i := 7) (v := .int .i64 x.fp) rfl; have a8 := ka.cell (i := 8) (v := .int .i64 x.tp) rfl; have b0 := kb.cell (i := 0) (v := .int .i64 y.p) rfl; have b7 := kb.cell (i := 7) (v := .int .i64 y.fp) rfl; have b8 := kb.cell (i := 8) (v := .int .i64 y.tp) rfl; have l1 := ka.ldAt rowAd 1 (adC x.f) ((flC x).drop 4) rfl rfl; have l2 := ka.ldAt rowAd 4 (adC x.t) ((flC x).drop 7) rfl rfl; have l3 := kb.ldAt rowAd 1 (adC y.f) ((flC y).drop 4) rfl rfl; have l4 := kb.ldAt rowAd 4 (adC y.t) ((flC y).drop 7) rfl rfl; clear ka kb; go_simp; try with_reducible rfl)
  try simp only [Act.put, List.setIfInBounds_toArray, List.set_cons_zero, List.set_cons_succ]
  refine wd_pure (i := 12) (d := some 17) (v := ?_) (by simp only [List.getElem?_toArray, List.getElem?_cons_succ, List.getElem?_cons_zero] <;> rfl) (by rfl) (by kernel_rfl) (by kernel_rfl) (by kernel_rfl) (fun _ _ _ h => h) (by rfl) ?_ ?_
  rotate_left
  · ((intro u); go_simp; try with_reducible rfl)
  try simp only [Act.put, List.setIfInBounds_toArray, List.set_cons_zero, List.set_cons_succ]
  refine wd_take (i := 13) (d := some 18) (v := ?_) (by simp only [List.getElem?_toArray, List.getElem?_cons_succ, List.getElem?_cons_zero] <;> rfl) (by rfl) (by kernel_rfl) (by kernel_rfl) (by kernel_rfl) (fun _ _ _ h => h) (by rfl) (by kernel_rfl) ?_ ?_
  rotate_left
  · ((intro u hu); have ka := hA.gn (hB.trans hu).1; have kb := hD.gn (hB.trans hu).1; have a0 := ka.cell (i := 0) (v := .int .i64 x.p) rfl; have a7 := ka.cell (i := 7) (v := .int .i64 x.fp) rfl; have a8 := ka.cell (i := 8) (v := .int .i64 x.tp) rfl; have b0 := kb.cell (i := 0) (v := .int .i64 y.p) rfl; have b7 := kb.cell (i := 7) (v := .int .i64 y.fp) rfl; have b8 := kb.cell (i := 8) (v := .int .i64 y.tp) rfl; have l1 := ka.ldAt rowAd 1 (adC x.f) ((flC x).drop 4) rfl rfl; have l2 := ka.ldAt rowAd 4 (adC x.t) ((flC x).drop 7) rfl rfl; have l3 := kb.ldAt rowAd 1 (adC y.f) ((flC y).drop 4) rfl rfl; have l4 := kb.ldAt rowAd 4 (adC y.t) ((flC y).drop 7) rfl rfl; clear ka kb; go_simp; try with_reducible rfl)
  try simp only [Act.put, List.setIfInBounds_toArray, List.set_cons_zero, List.set_cons_succ]
  refine wd_pure (i := 15) (d := some 20) (v := ?_) (by simp only [List.getElem?_toArray, List.getElem?_cons_succ, List.getElem?_cons_zero] <;> rfl) (by rfl) (by kernel_rfl) (by kernel_rfl) (by kernel_rfl) (fun _ _ _ h => h) (by rfl) ?_ ?_
  rotate_left
  · ((intro u); go_simp; try with_reducible rfl)
  try simp only [Act.put, List.setIfInBounds_toArray, List.set_cons_zero, List.set_cons_succ]
  refine wd_take (i := 16) (d := some 21) (v := ?_) (by simp only [List.getElem?_toArray, List.getElem?_cons_succ, List.getElem?_cons_zero] <;> rfl) (by rfl) (by kernel_rfl) (by kernel_rfl) (by kernel_rfl) (fun _ _ _ h => h) (by rfl) (by kernel_rfl) ?_ ?_
  rotate_left
  · ((intro u hu); have ka := hA.gn (hB.trans hu).1; have kb := hD.gn (hB.trans hu).1; have a0 := ka.cell (i := 0) (v := .int .i64 x.p) rfl; have a7 := ka.cell (i := 7) (v := .int .i64 x.fp) rfl; have a8 := ka.cell (i := 8) (v := .int .i64 x.tp) rfl; have b0 := kb.cell (i := 0) (v := .int .i64 y.p) rfl; have b7 := kb.cell (i := 7) (v := .int .i64 y.fp) rfl; have b8 := kb.cell (i := 8) (v := .int .i64 y.tp) rfl; have l1 := ka.ldAt rowAd 1 (adC x.f) ((flC x).drop 4) rfl rfl; have l2 := ka.ldAt rowAd 4 (adC x.t) ((flC x).drop 7) rfl rfl; have l3 := kb.ldAt rowAd 1 (adC y.f) ((flC y).drop 4) rfl rfl; have l4 := kb.ldAt rowAd 4 (adC y.t) ((flC y).drop 7) rfl rfl; clear ka kb; go_simp; try with_reducible rfl)
  try simp only [Act.put, List.setIfInBounds_toArray, List.set_cons_zero, List.set_cons_succ]
  refine wd_pure (i := 17) (d := some 22) (v := ?_) (by simp only [List.getElem?_toArray, List.getElem?_cons_succ, List.getElem?_cons_zero] <;> rfl) (by rfl) (by kernel_rfl) (by kernel_rfl) (by kernel_rfl) (fun _ _ _ h => h) (by rfl) ?_ ?_
  rotate_left
  · ((intro u); go_simp; try with_reducible rfl)
  try simp only [Act.put, List.setIfInBounds_toArray, List.set_cons_zero, List.set_cons_succ]
  refine wd_take (i := 18) (d := some 23) (v := ?_) (by simp only [List.getElem?_toArray, List.getElem?_cons_succ, List.getElem?_cons_zero] <;> rfl) (by rfl) (by kernel_rfl) (by kernel_rfl) (by kernel_rfl) (fun _ _ _ h => h) (by rfl) (by kernel_rfl) ?_ ?_
  rotate_left
  · ((intro u hu); have ka := hA.gn (hB.trans hu).1; have kb := hD.gn (hB.trans hu).1; have a0 := ka.cell (i := 0) (v := .int .i64 x.p) rfl; have a7 := ka.cell (i := 7) (v := .int .i64 x.fp) rfl; have a8 := ka.cell (i := 8) (v := .int .i64 x.tp) rfl; have b0 := kb.cell (i := 0) (v := .int .i64 y.p) rfl; have b7 := kb.cell (i := 7) (v := .int .i64 y.fp) rfl; have b8 := kb.cell (i := 8) (v := .int .i64 y.tp) rfl; have l1 := ka.ldAt rowAd 1 (adC x.f) ((flC x).drop 4) rfl rfl; have l2 := ka.ldAt rowAd 4 (adC x.t) ((flC x).drop 7) rfl rfl; have l3 := kb.ldAt rowAd 1 (adC y.f) ((flC y).drop 4) rfl rfl; have l4 := kb.ldAt rowAd 4 (adC y.t) ((flC y).drop 7) rfl rfl; clear ka kb; go_simp; try with_reducible rfl)
  try simp only [Act.put, List.setIfInBounds_toArray, List.set_cons_zero, List.set_cons_succ]
  refine wd_pure (i := 20) (d := some 25) (v := ?_) (by simp only [List.getElem?_toArray, List.getElem?_cons_succ, List.getElem?_cons_zero] <;> rfl) (by rfl) (by kernel_rfl) (by kernel_rfl) (by kernel_rfl) (fun _ _ _ h => h) (by rfl) ?_ ?_
  rotate_left
  · ((intro u); go_simp; try with_reducible rfl)
  try simp only [Act.put, List.setIfInBounds_toArray, List.set_cons_zero, List.set_cons_succ]
  refine wd_take (i := 21) (d := some 26) (v := ?_) (by simp only [List.getElem?_toArray, List.getElem?_cons_succ, List.getElem?_cons_zero] <;> rfl) (by rfl) (by kernel_rfl) (by kernel_rfl) (by kernel_rfl) (fun _ _ _ h => h) (by rfl) (by kernel_rfl) ?_ ?_
  rotate_left
  · ((intro u hu); have ka := hA.gn (hB.trans hu).1; have kb := hD.gn (hB.trans hu).1; have a0 := ka.cell (i := 0) (v := .int .i64 x.p) rfl; have a7 := ka.cell (i := 7) (v := .int .i64 x.fp) rfl; have a8 := ka.cell (i := 8) (v := .int .i64 x.tp) rfl; have b0 := kb.cell (i := 0) (v := .int .i64 y.p) rfl; have b7 := kb.cell (i := 7) (v := .int .i64 y.fp) rfl; have b8 := kb.cell (i := 8) (v := .int .i64 y.tp) rfl; have l1 := ka.ldAt rowAd 1 (adC x.f) ((flC x).drop 4) rfl rfl; have l2 := ka.ldAt rowAd 4 (adC x.t) ((flC x).drop 7) rfl rfl; have l3 := kb.ldAt rowAd 1 (adC y.f) ((flC y).drop 4) rfl rfl; have l4 := kb.ldAt rowAd 4 (adC y.t) ((flC y).drop 7) rfl rfl; clear ka kb; go_simp; try with_reducible rfl)
  try simp only [Act.put, List.setIfInBounds_toArray, List.set_cons_zero, List.set_cons_succ]
  refine wd_pure (i := 22) (d := some 27) (v := ?_) (by simp only [List.getElem?_toArray, List.getElem?_cons_succ, List.getElem?_cons_zero] <;> rfl) (by rfl) (by kernel_rfl) (by kernel_rfl) (by kernel_rfl) (fun _ _ _ h => h) (by rfl) ?_ ?_
  rotate_left
  · ((intro u); go_simp; try with_reducible rfl)
  try simp only [Act.put, List.setIfInBounds_toArray, List.set_cons_zero, List.set_cons_succ]
  refine wd_take (i := 23) (d := some 28) (v := ?_) (by simp only [List.getElem?_toArray, List.getElem?_cons_succ, List.getElem?_cons_zero] <;> rfl) (by rfl) (by kernel_rfl) (by kernel_rfl) (by kernel_rfl) (fun _ _ _ h => h) (by rfl) (by kernel_rfl) ?_ ?_
  rotate_left
  · ((intro u hu); have ka := hA.gn (hB.trans hu).1; have kb := hD.gn (hB.trans hu).1; have a0 := ka.cell (i := 0) (v := .int .i64 x.p) rfl; have a7 := ka.cell (i := 7) (v := .int .i64 x.fp) rfl; have a8 := ka.cell (i := 8) (v := .int .i64 x.tp) rfl; have b0 := kb.cell (i := 0) (v := .int .i64 y.p) rfl; have b7 := kb.cell (i := 7) (v := .int .i64 y.fp) rfl; have b8 := kb.cell (i := 8) (v := .int .i64 y.tp) rfl; have l1 := ka.ldAt rowAd 1 (adC x.f) ((flC x).drop 4) rfl rfl; have l2 := ka.ldAt rowAd 4 (adC x.t) ((flC x).drop 7) rfl rfl; have l3 := kb.ldAt rowAd 1 (adC y.f) ((flC y).drop 4) rfl rfl; have l4 := kb.ldAt rowAd 4 (adC y.t) ((flC y).drop 7) rfl rfl; clear ka kb; go_simp; try with_reducible rfl)
  try simp only [Act.put, List.setIfInBounds_toArray, List.set_cons_zero, List.set_cons_succ]
  refine wd_one (i := 4) (by simp only [List.getElem?_toArray, List.getElem?_cons_succ, List.getElem?_cons_zero] <;> rfl) (by kernel_rfl) (by rfl) (fun K hK => ?_)
  go_simp
  refine (C1.out _).mono ?_
  rintro e u4 ⟨rfl, rfl⟩
  refine hK _ _ (Gd.refl _) ?_
  clear hK K
  try simp only [Act.put, List.setIfInBounds_toArray, List.set_cons_zero, List.set_cons_succ]
  refine wd_one (i := 9) (by simp only [List.getElem?_toArray, List.getElem?_cons_succ, List.getElem?_cons_zero] <;> rfl) (by kernel_rfl) (by rfl) (fun K hK => ?_)
  go_simp
  refine (C2.out _).mono ?_
  rintro e u9 ⟨rfl, hv1⟩
  refine hK _ _ hv1 ?_
  replace hB := hB.trans hv1
  clear hv1 hK K
  try simp only [Act.put, List.setIfInBounds_toArray, List.set_cons_zero, List.set_cons_succ]
  refine wd_one (i := 14) (by simp only [List.getElem?_toArray, List.getElem?_cons_succ, List.getElem?_cons_zero] <;> rfl) (by kernel_rfl) (by rfl) (fun K hK => ?_)
  go_simp
  refine (C3.out _).mono ?_
  rintro e u14 ⟨rfl, hv1⟩
  refine hK _ _ hv1 ?_
  replace hB := hB.trans hv1
  clear hv1 hK K
  try simp only [Act.put, List.setIfInBounds_toArray, List.set_cons_zero, List.set_cons_succ]
  refine wd_one (i := 19) (by simp only [List.getElem?_toArray, List.getElem?_cons_succ, List.getElem?_cons_zero] <;> rfl) (by kernel_rfl) (by rfl) (fun K hK => ?_)
  go_simp
  refine (C4.out _).mono ?_
  rintro e u19 ⟨rfl, rfl⟩
  refine hK _ _ (Gd.refl _) ?_
  clear hK K
  try simp only [Act.put, List.setIfInBounds_toArray, List.set_cons_zero, List.set_cons_succ]
  refine wd_one (i := 24) (by simp only [List.getElem?_toArray, List.getElem?_cons_succ, List.getElem?_cons_zero] <;> rfl) (by kernel_rfl) (by rfl) (fun K hK => ?_)
  go_simp
  refine (C5.out _).mono ?_
  rintro e u24 ⟨rfl, rfl⟩
  refine hK _ _ (Gd.refl _) ?_
  clear hK K
  try simp only [Act.put, List.setIfInBounds_toArray, List.set_cons_zero, List.set_cons_succ]
  refine wd_one (i := 25) (by simp only [List.getElem?_toArray, List.getElem?_cons_succ, List.getElem?_cons_zero] <;> rfl) (by kernel_rfl) (by rfl) (fun K hK => ?_)
  go_simp
  refine hK _ _ ((Gd.refl _).alloc _) ?_
  clear hK K
  refine wd_new (cs := [z1, z2, z3, z4, z5].map (Value.int .i64)) (fun u91 hd1 hq1 hz1 => ?_)
  replace hB := hB.trans hd1
  try simp only [Act.put, List.setIfInBounds_toArray, List.set_cons_zero, List.set_cons_succ]
  refine wd_one (i := 26) (by simp only [List.getElem?_toArray, List.getElem?_cons_succ, List.getElem?_cons_zero] <;> rfl) (by kernel_rfl) (by rfl) (fun K hK => ?_)
  go_simp
  refine (orI_blk [z1, z2, z3, z4, z5] _ _ _ _ hq1 (by simp)).mono ?_
  rintro e w' ⟨rfl, rfl⟩
  refine hK _ _ (Gd.refl _) ?_
  clear hK K
  try simp only [Act.put, List.setIfInBounds_toArray, List.set_cons_zero, List.set_cons_succ]
  refine wd_pure (i := 27) (d := some 4) (v := ?_) (by simp only [List.getElem?_toArray, List.getElem?_cons_succ, List.getElem?_cons_zero] <;> rfl) (by rfl) (by kernel_rfl) (by kernel_rfl) (by kernel_rfl) (fun _ _ _ h => h) (by rfl) ?_ ?_
  rotate_left
  · ((intro u); go_simp; try with_reducible rfl)
  try simp only [Act.put, List.setIfInBounds_toArray, List.set_cons_zero, List.set_cons_succ]
  refine wd_done (by kernel_rfl) ?_ _
  go_wp2_with fail
  go_ret
  exact ⟨ret_i64 HR.out, hG.trans hB⟩
end Go.Proofs.YtfiocnjogbpgoaaGreatDoor
namespace Go.Proofs.YtfiocnjogbpgoaaGreatDoor
open Go.RowKit
set_option linter.unusedVariables false
set_option linter.unusedSimpArgs false

theorem rank_any (b : Bool) (w : World) : Calls Tryz.prog 109 #[.bool b] w fun e w' => e = .returned (.int .i64 (rank b)) ∧ w' = w := by
  cases b
  all_goals
    go_enter Tryz.func109, Tryz.ntmps109
    go_wp2_with fail
    go_ret
    exact ⟨rfl, rfl⟩

set_option maxHeartbeats 4000000 in
set_option maxRecDepth 100000 in
theorem repCmp_d (x y : Rp) (w : World) (hx : x.U) (hy : y.U) :
    Calls Tryz.prog 60 #[rpA x, rpA y] w (GivesD (.int .i64 (cmpRp x y)) w) := by
  obtain ⟨z1, hz1⟩ : ∃ z, z = Lib.compareInt x.hour y.hour := ⟨_, rfl⟩
  obtain ⟨z2, hz2⟩ : ∃ z, z = Lib.compareBytes x.node y.node := ⟨_, rfl⟩
  obtain ⟨z3, hz3⟩ : ∃ z, z = Lib.compareInt (rank x.out) (rank y.out) := ⟨_, rfl⟩
  obtain ⟨z4, hz4⟩ : ∃ z, z = cmpFl x.fl y.fl := ⟨_, rfl⟩
  have C1 := Lib.hid (fun w' => intCmp_d x.hour y.hour w')
  have C2 := Lib.hid (fun w' => strCmp_d x.node y.node w')
  have C3 := Lib.hid (fun w' => rank_any x.out w')
  have C4 := Lib.hid (fun w' => rank_any y.out w')
  have C5 := Lib.hid (fun w' => intCmp_d (rank x.out) (rank y.out) w')
  have C6 := Lib.hid (fun w' => flowsCmp_d x.fl y.fl w' hx.1 hy.1)
  have HR : Hid (firstZ [z1, z2, z3, z4] = cmpRp x y) := Lib.hid (by rw [hz1, hz2, hz3, hz4]; rfl)
  rw [← hz1] at C1
  rw [← hz2] at C2
  rw [← hz3] at C5
  rw [← hz4] at C6
  generalize rank x.out = rx at C3 C5
  generalize rank y.out = ry at C4 C5
  obtain ⟨R, hR⟩ : ∃ R, R = cmpRp x y := ⟨_, rfl⟩
  rw [← hR] at HR ⊢
  clear hz1 hz2 hz3 hz4 hR hx hy
  obtain ⟨hA, hD⟩ := two_new w (rpC x) (rpC y) 56 56
  have hG : Gd w ((w.alloc (.cells (rpC x).toArray 56)).alloc (.cells (rpC y).toArray 56)) := ((Gd.refl w).alloc _).alloc _
  have hB := Gd.refl ((w.alloc (.cells (rpC x).toArray 56)).alloc (.cells (rpC y).toArray 56))
  go_enter Tryz.func60, Tryz.ntmps60
  go_upto_region 1 with fail
  refine wd_begin [] (by kernel_rfl) (fun u0 hb0' hz0' => ?_)
  replace hB := hB.trans hb0'
  clear hb0' hz0'
  refine wd_pure (i := 0) (d := some 5) (v := ?_) (by simp only [List.getElem?_toArray, List.getElem?_cons_succ, List.getElem?_cons_zero] <;> rfl) (by rfl) (by kernel_rfl) (by kernel_rfl) (by kernel_rfl) (fun _ _ _ h => h) (by rfl) ?_ ?_
  rotate_left
  · ((intro u); go_simp; try with_reducible rfl)
  try simp only [Act.put, List.setIfInBounds_toArray, List.set_cons_zero, List.set_cons_succ]
  refine wd_take (i := 1) (d := some 6) (v := ?_) (by simp only [List.getElem?_toArray, List.getElem?_cons_succ, List.getElem?_cons_zero] <;> rfl) (by rfl) (by kernel_rfl) (by kernel_rfl) (by kernel_rfl) (fun _ _ _ h => h) (by rfl) (by kernel_rfl) ?_ ?_
  rotate_left
  · ((intro u hu); have ka := hA.gn (hB.trans hu).1; have kb := hD.gn (hB.trans hu).1; have a0 := ka.cell (i := 0) (v := .string ⟨x.node.toArray⟩) rfl; have a1 := ka.cell (i := 1) (v := .int .i64 x.hour) rfl; have a2 := ka.cell (i := 2) (v := .bool x.out) rfl; have b0 := kb.cell (i := 0) (v := .string ⟨y.node.toArray⟩) rfl; have b1 := kb.cell (i := 1) (v := .int .i64 y.hour) rfl; have b2 := kb.cell (i := 2) (v := .bool y.out) rfl; have l1 := ka.ldAt rowFl 3 (flC x.fl) [.int .i64 x.pk, .int .i64 x.by_] rfl rfl; have l2 := kb.ldAt rowFl 3 (flC y.fl) [.int .i64 y.pk, .int .i64 y.by_] rfl rfl; clear ka kb; go_simp; try with_reducible rfl)
  try simp only [Act.put, List.setIfInBounds_toArray, List.set_cons_zero, List.set_cons_succ]
  refine wd_pure (i := 2) (d := some 7) (v := ?_) (by simp only [List.getElem?_toArray, List.getElem?_cons_succ, List.getElem?_cons_zero] <;> rfl) (by rfl) (by kernel_rfl) (by kernel_rfl) (by kernel_rfl) (fun _ _ _ h => h) (by rfl) ?_ ?_
  rotate_left
  · ((intro u); go_simp; try with_reducible rfl)
  try simp only [Act.put, List.setIfInBounds_toArray, List.set_cons_zero, List.set_cons_succ]
  refine wd_take (i := 3) (d := some 8) (v := ?_) (by simp only [List.getElem?_toArray, List.getElem?_cons_succ, List.getElem?_cons_zero] <;> rfl) (by rfl) (by kernel_rfl) (by kernel_rfl) (by kernel_rfl) (fun _ _ _ h => h) (by rfl) (by kernel_rfl) ?_ ?_
  rotate_left
  · ((intro u hu); have ka := hA.gn (hB.trans hu).1; have kb := hD.gn (hB.trans hu).1; have a0 := ka.cell (i := 0) (v := .string ⟨x.node.toArray⟩) rfl; have a1 := ka.cell (i := 1) (v := .int .i64 x.hour) rfl; have a2 := ka.cell (i := 2) (v := .bool x.out) rfl; have b0 := kb.cell (i := 0) (v := .string ⟨y.node.toArray⟩) rfl; have b1 := kb.cell (i := 1) (v := .int .i64 y.hour) rfl; have b2 := kb.cell (i := 2) (v := .bool y.out) rfl; have l1 := ka.ldAt rowFl 3 (flC x.fl) [.int .i64 x.pk, .int .i64 x.by_] rfl rfl; have l2 := kb.ldAt rowFl 3 (flC y.fl) [.int .i64 y.pk, .int .i64 y.by_] rfl rfl; clear ka kb; go_simp; try with_reducible rfl)
  try simp only [Act.put, List.setIfInBounds_toArray, List.set_cons_zero, List.set_cons_succ]
  refine wd_pure (i := 5) (d := some 10) (v := ?_) (by simp only [List.getElem?_toArray, List.getElem?_cons_succ, List.getElem?_cons_zero] <;> rfl) (by rfl) (by kernel_rfl) (by kernel_rfl) (by kernel_rfl) (fun _ _ _ h => h) (by rfl) ?_ ?_
  rotate_left
  · ((intro u); go_simp; try with_reducible rfl)
  try simp only [Act.put, List.setIfInBounds_toArray, List.set_cons_zero, List.set_cons_succ]
  refine wd_take (i := 6) (d := some 11) (v := ?_) (by simp only [List.getElem?_toArray, List.getElem?_cons_succ, List.getElem?_cons_zero] <;> rfl) (by rfl) (by kernel_rfl) (by kernel_rfl) (by kernel_rfl) (fun _ _ _ h => h) (by rfl) (by kernel_rfl) ?_ ?_
  rotate_left
  · ((intro u hu); have ka := hA.gn (hB.trans hu).1; have kb := hD.gn (hB.trans hu).1; have a0 := ka.cell (i := 0) (v := .string ⟨x.node.toArray⟩) rfl; have a1 := ka.cell (i := 1) (v := .int .i64 x.hour) rfl; have a2 := ka.cell (i := 2) (v := .bool x.out) rfl; have b0 := kb.cell (i := 0) (v := .string ⟨y.node.toArray⟩) rfl; have b1 := kb.cell (i := 1) (v := .int .i64 y.hour) rfl; have b2 := kb.cell (i := 2) (v := .bool y.out) rfl; have l1 := ka.ldAt rowFl 3 (flC x.fl) [.int .i64 x.pk, .int .i64 x.by_] rfl rfl; have l2 := kb.ldAt rowFl 3 (flC y.fl) [.int .i64 y.pk, .int .i64 y.by_] rfl rfl; clear ka kb; go_simp; try with_reducible rfl)
  try simp only [Act.put, List.setIfInBounds_toArray, List.set_cons_zero, List.set_cons_succ]
  refine wd_pure (i := 7) (d := some 12) (v := ?_) (by simp only [List.getElem?_toArray, List.getElem?_cons_succ, List.getElem?_cons_zero] <;> rfl) (by rfl) (by kernel_rfl) (by kernel_rfl) (by kernel_rfl) (fun _ _ _ h => h) (by rfl) ?_ ?_
  rotate_left
  · ((intro u); go_simp; try with_reducible rfl)
  try simp only [Act.put, List.setIfInBounds_toArray, List.set_cons_zero, List.set_cons_succ]
  refine wd_take (i := 8) (d := some 13) (v := ?_) (by simp only [List.getElem?_toArray, List.getElem?_cons_succ, List.getElem?_cons_zero] <;> rfl) (by rfl) (by kernel_rfl) (by kernel_rfl) (by kernel_rfl) (fun _ _ _ h => h) (by rfl) (by kernel_rfl) ?_ ?_
  rotate_left
  · ((intro u hu); have ka := hA.gn (hB.trans hu).1; have kb := hD.gn (hB.trans hu).1; have a0 := ka.cell (i := 0) (v := .string ⟨x.node.toArray⟩) rfl; have a1 := ka.cell (i := 1) (v := .int .i64 x.hour) rfl; have a2 := ka.cell (i := 2) (v := .bool x.out) rfl; have b0 := kb.cell (i := 0) (v := .string ⟨y.node.toArray⟩) rfl; have b1 := kb.cell (i := 1) (v := .int .i64 y.hour) rfl; have b2 := kb.cell (i := 2) (v := .bool y.out) rfl; have l1 := ka.ldAt rowFl 3 (flC x.fl) [.int .i64 x.pk, .int .i64 x.by_] rfl rfl; have l2 := kb.ldAt rowFl 3 (flC y.fl) [.int .i64 y.pk, .int .i64 y.by_] rfl rfl; clear ka kb; go_simp; try with_reducible rfl)
  try simp only [Act.put, List.setIfInBounds_toArray, List.set_cons_zero, List.set_cons_succ]
  refine wd_pure (i := 10) (d := some 15) (v := ?_) (by simp only [List.getElem?_toArray, List.getElem?_cons_succ, List.getElem?_cons_zero] <;> rfl) (by rfl) (by kernel_rfl) (by kernel_rfl) (by kernel_rfl) (fun _ _ _ h => h) (by rfl) ?_ ?_
  rotate_left
  · ((intro u); go_simp; try with_reducible rfl)
  try simp only [Act.put, List.setIfInBounds_toArray, List.set_cons_zero, List.set_cons_succ]
  refine wd_take (i := 11) (d := some 16) (v := ?_) (by simp only [List.getElem?_toArray, List.getElem?_cons_succ, List.getElem?_cons_zero] <;> rfl) (by rfl) (by kernel_rfl) (by kernel_rfl) (by kernel_rfl) (fun _ _ _ h => h) (by rfl) (by kernel_rfl) ?_ ?_
  rotate_left
  · ((intro u hu); have ka := hA.gn (hB.trans hu).1; have kb := hD.gn (hB.trans hu).1; have a0 := ka.cell (i := 0) (v := .string ⟨x.node.toArray⟩) rfl; have a1 := ka.cell (i := 1) (v := .int .i64 x.hour) rfl; have a2 := ka.cell (i := 2) (v := .bool x.out) rfl; have b0 := kb.cell (i := 0) (v := .string ⟨y.node.toArray⟩) rfl; have b1 := kb.cell (i := 1) (v := .int .i64 y.hour) rfl; have b2 := kb.cell (i := 2) (v := .bool y.out) rfl; have l1 := ka.ldAt rowFl 3 (flC x.fl) [.int .i64 x.pk, .int .i64 x.by_] rfl rfl; have l2 := kb.ldAt rowFl 3 (flC y.fl) [.int .i64 y.pk, .int .i64 y.by_] rfl rfl; clear ka kb; go_simp; try with_reducible rfl)
  try simp only [Act.put, List.setIfInBounds_toArray, List.set_cons_zero, List.set_cons_succ]
  refine wd_pure (i := 13) (d := some 18) (v := ?_) (by simp only [List.getElem?_toArray, List.getElem?_cons_succ, List.getElem?_cons_zero] <;> rfl) (by rfl) (by kernel_rfl) (by kernel_rfl) (by kernel_rfl) (fun _ _ _ h => h) (by rfl) ?_ ?_
  rotate_left
  · ((intro u); go_simp; try with_reducible rfl)
  try simp only [Act.put, List.setIfInBounds_toArray, List.set_cons_zero, List.set_cons_succ]
  refine wd_take (i := 14) (d := some 19) (v := ?_) (by simp only [List.getElem?_toArray, List.getElem?_cons_succ, List.getElem?_cons_zero] <;> rfl) (by rfl) (by kernel_rfl) (by kernel_rfl) (by kernel_rfl) (fun _ _ _ h => h) (by rfl) (by kernel_rfl) ?_ ?_
  rotate_left
  · ((intro u hu); have ka := hA.gn (hB.trans hu).1; have kb := hD.gn (hB.trans hu).1; have a0 := ka.cell (i := 0) (v := .string ⟨x.node.toArray⟩) rfl; have a1 := ka.cell (i := 1) (v := .int .i64 x.hour) rfl; have a2 := ka.cell (i := 2) (v := .bool x.out) rfl; have b0 := kb.cell (i := 0) (v := .string ⟨y.node.toArray⟩) rfl; have b1 := kb.cell (i := 1) (v := .int .i64 y.hour) rfl; have b2 := kb.cell (i := 2) (v := .bool y.out) rfl; have l1 := ka.ldAt rowFl 3 (flC x.fl) [.int .i64 x.pk, .int .i64 x.by_] rfl rfl; have l2 := kb.ldAt rowFl 3 (flC y.fl) [.int .i64 y.pk, .int .i64 y.by_] rfl rfl; clear ka kb; go_simp; try with_reducible rfl)
  try simp only [Act.put, List.setIfInBounds_toArray, List.set_cons_zero, List.set_cons_succ]
  refine wd_pure (i := 17) (d := some 22) (v := ?_) (by simp only [List.getElem?_toArray, List.getElem?_cons_succ, List.getElem?_cons_zero] <;> rfl) (by rfl) (by kernel_rfl) (by kernel_rfl) (by kernel_rfl) (fun _ _ _ h => h) (by rfl) ?_ ?_
  rotate_left
  · ((intro u); go_simp; try with_reducible rfl)
  try simp only [Act.put, List.setIfInBounds_toArray, List.set_cons_zero, List.set_cons_succ]
  refine wd_take (i := 18) (d := some 23) (v := ?_) (by simp only [List.getElem?_toArray, List.getElem?_cons_succ, List.getElem?_cons_zero] <;> rfl) (by rfl) (by kernel_rfl) (by kernel_rfl) (by kernel_rfl) (fun _ _ _ h => h) (by rfl) (by kernel_rfl) ?_ ?_
  rotate_left
  · ((intro u hu); have ka := hA.gn (hB.trans hu).1; have kb := hD.gn (hB.trans hu).1; have a0 := ka.cell (i := 0) (v := .string ⟨x.node.toArray⟩) rfl; have a1 := ka.cell (i := 1) (v := .int .i64 x.hour) rfl; have a2 := ka.cell (i := 2) (v := .bool x.out) rfl; have b0 := kb.cell (i := 0) (v := .string ⟨y.node.toArray⟩) rfl; have b1 := kb.cell (i := 1) (v := .int .i64 y.hour) rfl; have b2 := kb.cell (i := 2) (v := .bool y.out) rfl; have l1 := ka.ldAt rowFl 3 (flC x.fl) [.int .i64 x.pk, .int .i64 x.by_] rfl rfl; have l2 := kb.ldAt rowFl 3 (flC y.fl) [.int .i64 y.pk, .int .i64 y.by_] rfl rfl; clear ka kb; go_simp; try with_reducible rfl)
  try simp only [Act.put, List.setIfInBounds_toArray, List.set_cons_zero, List.set_cons_succ]
  refine wd_pure (i := 19) (d := some 24) (v := ?_) (by simp only [List.getElem?_toArray, List.getElem?_cons_succ, List.getElem?_cons_zero] <;> rfl) (by rfl) (by kernel_rfl) (by kernel_rfl) (by kernel_rfl) (fun _ _ _ h => h) (by rfl) ?_ ?_
  rotate_left
  · ((intro u); go_simp; try with_reducible rfl)
  try simp only [Act.put, List.setIfInBounds_toArray, List.set_cons_zero, List.set_cons_succ]
  refine wd_take (i := 20) (d := some 25) (v := ?_) (by simp only [List.getElem?_toArray, List.getElem?_cons_succ, List.getElem?_cons_zero] <;> rfl) (by rfl) (by kernel_rfl) (by kernel_rfl) (by kernel_rfl) (fun _ _ _ h => h) (by rfl) (by kernel_rfl) ?_ ?_
  rotate_left
  · ((intro u hu); have ka := hA.gn (hB.trans hu).1; have kb := hD.gn (hB.trans hu).1; have a0 := ka.cell (i := 0) (v := .string ⟨x.node.toArray⟩) rfl; have a1 := ka.cell (i := 1) (v := .int .i64 x.hour) rfl; have a2 := ka.cell (i := 2) (v := .bool x.out) rfl; have b0 := kb.cell (i := 0) (v := .string ⟨y.node.toArray⟩) rfl; have b1 := kb.cell (i := 1) (v := .int .i64 y.hour) rfl; have b2 := kb.cell (i := 2) (v := .bool y.out) rfl; have l1 := ka.ldAt rowFl 3 (flC x.fl) [.int .i64 x.pk, .int .i64 x.by_] rfl rfl; have l2 := kb.ldAt rowFl 3 (flC y.fl) [.int .i64 y.pk, .int .i64 y.by_] rfl rfl; clear ka kb; go_simp; try with_reducible rfl)
  try simp only [Act.put, List.setIfInBounds_toArray, List.set_cons_zero, List.set_cons_succ]
  refine wd_one (i := 4) (by simp only [List.getElem?_toArray, List.getElem?_cons_succ, List.getElem?_cons_zero] <;> rfl) (by kernel_rfl) (by rfl) (fun K hK => ?_)
  go_simp
  refine (C1.out _).mono ?_
  rintro e u4 ⟨rfl, rfl⟩
  refine hK _ _ (Gd.refl _) ?_
  clear hK K
  try simp only [Act.put, List.setIfInBounds_toArray, List.set_cons_zero, List.set_cons_succ]
  refine wd_one (i := 9) (by simp only [List.getElem?_toArray, List.getElem?_cons_succ, List.getElem?_cons_zero] <;> rfl) (by kernel_rfl) (by rfl) (fun K hK => ?_)
  go_simp
  refine (C2.out _).mono ?_
  rintro e u9 ⟨rfl, rfl⟩
  refine hK _ _ (Gd.refl _) ?_
  clear hK K
  try simp only [Act.put, List.setIfInBounds_toArray, List.set_cons_zero, List.set_cons_succ]
  refine wd_one (i := 12) (by simp only [List.getElem?_toArray, List.getElem?_cons_succ, List.getElem?_cons_zero] <;> rfl) (by kernel_rfl) (by rfl) (fun K hK => ?_)
  go_simp
  refine (C3.out _).mono ?_
  rintro e u12 ⟨rfl, rfl⟩
  refine hK _ _ (Gd.refl _) ?_
  clear hK K
  try simp only [Act.put, List.setIfInBounds_toArray, List.set_cons_zero, List.set_cons_succ]
  refine wd_one (i := 15) (by simp only [List.getElem?_toArray, List.getElem?_cons_succ, List.getElem?_cons_zero] <;> rfl) (by kernel_rfl) (by rfl) (fun K hK => ?_)
  go_simp
  refine (C4.out _).mono ?_
  rintro e u15 ⟨rfl, rfl⟩
  refine hK _ _ (Gd.refl _) ?_
  clear hK K
  try simp only [Act.put, List.setIfInBounds_toArray, List.set_cons_zero, List.set_cons_succ]
  refine wd_one (i := 16) (by simp only [List.getElem?_toArray, List.getElem?_cons_succ, List.getElem?_cons_zero] <;> rfl) (by kernel_rfl) (by rfl) (fun K hK => ?_)
  go_simp
  refine (C5.out _).mono ?_
  rintro e u16 ⟨rfl, rfl⟩
  refine hK _ _ (Gd.refl _) ?_
  clear hK K
  try simp only [Act.put, List.setIfInBounds_toArray, List.set_cons_zero, List.set_cons_succ]
  refine wd_one (i := 21) (by simp only [List.getElem?_toArray, List.getElem?_cons_succ, List.getElem?_cons_zero] <;> rfl) (by kernel_rfl) (by rfl) (fun K hK => ?_)
  go_simp
  refine (C6.out _).mono ?_
  rintro e u21 ⟨rfl, hv1⟩
  refine hK _ _ hv1 ?_
  replace hB := hB.trans hv1
  clear hv1 hK K
  try simp only [Act.put, List.setIfInBounds_toArray, List.set_cons_zero, List.set_cons_succ]
  refine wd_one (i := 22) (by simp only [List.getElem?_toArray, List.getElem?_cons_succ, List.getElem?_cons_zero] <;> rfl) (by kernel_rfl) (by rfl) (fun K hK => ?_)
  go_simp
  refine hK _ _ ((Gd.refl _).alloc _) ?_
  clear hK K
  refine wd_new (cs := [z1, z2, z3, z4].map (Value.int .i64)) (fun u91 hd1 hq1 hz1 => ?_)
  replace hB := hB.trans hd1
  try simp only [Act.put, List.setIfInBounds_toArray, List.set_cons_zero, List.set_cons_succ]
  refine wd_one (i := 23) (by simp only [List.getElem?_toArray, List.getElem?_cons_succ, List.getElem?_cons_zero] <;> rfl) (by kernel_rfl) (by rfl) (fun K hK => ?_)
  go_simp
  refine (orI_blk [z1, z2, z3, z4] _ _ _ _ hq1 (by simp)).mono ?_
  rintro e w' ⟨rfl, rfl⟩
  refine hK _ _ (Gd.refl _) ?_
  clear hK K
  try simp only [Act.put, List.setIfInBounds_toArray, List.set_cons_zero, List.set_cons_succ]
  refine wd_pure (i := 24) (d := some 4) (v := ?_) (by simp only [List.getElem?_toArray, List.getElem?_cons_succ, List.getElem?_cons_zero] <;> rfl) (by rfl) (by kernel_rfl) (by kernel_rfl) (by kernel_rfl) (fun _ _ _ h => h) (by rfl) ?_ ?_
  rotate_left
  · ((intro u); go_simp; try with_reducible rfl)
  try simp only [Act.put, List.setIfInBounds_toArray, List.set_cons_zero, List.set_cons_succ]
  refine wd_done (by kernel_rfl) ?_ _
  go_wp2_with fail
  go_ret
  exact ⟨ret_i64 HR.out, hG.trans hB⟩
end Go.Proofs.YtfiocnjogbpgoaaGreatDoor
namespace Go.Proofs.YtfiocnjogbpgoaaGreatDoor
open Go.RowKit
set_option linter.unusedVariables false
set_option linter.unusedSimpArgs false

/-- The bytes of keys. -/
def smlB (c : UInt8) : Bool := decide (97 ≤ (c.toNat : Int)) && decide ((c.toNat : Int) ≤ 122)
def digB (c : UInt8) : Bool := decide (48 ≤ (c.toNat : Int)) && decide ((c.toNat : Int) ≤ 57)
def inkB (c : UInt8) : Bool := smlB c || digB c || c.toNat == 45 || c.toNat == 95
def keyB (l : List UInt8) : Bool := match l with
  | [] => false
  | c :: r => decide (r.length < 40) && smlB c && (c :: r).all inkB
theorem smallK_any (c : UInt8) (w : World) : Calls Tryz.prog 249 #[.int .u8 (c.toNat : Int)] w fun e w' => e = .returned (.bool (smlB c)) ∧ w = w' := by
  by_cases h1 : 97 ≤ (c.toNat : Int)
  · by_cases h2 : (c.toNat : Int) ≤ 122
    · have HD := Lib.hid (show smlB c = true by unfold smlB; rw [decide_eq_true h1, decide_eq_true h2]; rfl)
      go_enter Tryz.func249, Tryz.ntmps249
      go_wp2_with fail
      go_ret
      exact ⟨by rw [HD.out]; rfl, rfl⟩
    · have HD := Lib.hid (show smlB c = false by unfold smlB; rw [decide_eq_true h1, decide_eq_false h2]; rfl)
      go_enter Tryz.func249, Tryz.ntmps249
      go_wp2_with fail
      go_ret
      exact ⟨by rw [HD.out]; rfl, rfl⟩
  · have HD := Lib.hid (show smlB c = false by unfold smlB; rw [decide_eq_false h1]; rfl)
    go_enter Tryz.func249, Tryz.ntmps249
    go_wp2_with fail
    go_ret
    exact ⟨by rw [HD.out]; rfl, rfl⟩
theorem digitK_any (c : UInt8) (w : World) : Calls Tryz.prog 82 #[.int .u8 (c.toNat : Int)] w fun e w' => e = .returned (.bool (digB c)) ∧ w = w' := by
  by_cases h1 : 48 ≤ (c.toNat : Int)
  · by_cases h2 : (c.toNat : Int) ≤ 57
    · have HD := Lib.hid (show digB c = true by unfold digB; rw [decide_eq_true h1, decide_eq_true h2]; rfl)
      go_enter Tryz.func82, Tryz.ntmps82
      go_wp2_with fail
      go_ret
      exact ⟨by rw [HD.out]; rfl, rfl⟩
    · have HD := Lib.hid (show digB c = false by unfold digB; rw [decide_eq_true h1, decide_eq_false h2]; rfl)
      go_enter Tryz.func82, Tryz.ntmps82
      go_wp2_with fail
      go_ret
      exact ⟨by rw [HD.out]; rfl, rfl⟩
  · have HD := Lib.hid (show digB c = false by unfold digB; rw [decide_eq_false h1]; rfl)
    go_enter Tryz.func82, Tryz.ntmps82
    go_wp2_with fail
    go_ret
    exact ⟨by rw [HD.out]; rfl, rfl⟩
theorem inKey_any (c : UInt8) (w : World) : Calls Tryz.prog 250 #[.int .u8 (c.toNat : Int)] w fun e w' => e = .returned (.bool (inkB c)) ∧ w = w' := by
  have H1 := fun w => Lib.hid (smallK_any c w)
  have H2 := fun w => Lib.hid (digitK_any c w)
  obtain ⟨r, hr⟩ : ∃ r, r = inkB c := ⟨_, rfl⟩
  rw [← hr]
  unfold inkB at hr
  generalize smlB c = a at *
  generalize digB c = b at *
  cases a
  · cases b
    · by_cases h3 : c.toNat = 45
      · have hd : Hid (r = true) := Lib.hid (by rw [hr, h3]; rfl)
        have h3' : (c.toNat : Int) = 45 := by omega
        generalize (c.toNat : Int) = z at *
        clear hr h3
        subst h3'
        go_enter Tryz.func250, Tryz.ntmps250
        go_wp2_with fail
        refine (H1 _).out.mono ?_
        rintro e w1 ⟨rfl, rfl⟩
        go_wp2_with fail
        refine (H2 _).out.mono ?_
        rintro e w1 ⟨rfl, rfl⟩
        go_wp2_with fail
        go_ret
        exact ⟨by rw [hd.out]; rfl, rfl⟩
      · have hd : Hid (r = (c.toNat == 95)) := Lib.hid (by rw [hr, show (c.toNat == 45) = false by simpa using h3]; rfl)
        have h3' : ((c.toNat : Int) == 45) = false := by simpa using (show ¬ (c.toNat : Int) = 45 by omega)
        have h4 : ((c.toNat : Int) == 95) = (c.toNat == 95) := by rw [Bool.eq_iff_iff, beq_iff_eq, beq_iff_eq]; omega
        generalize (c.toNat == 95) = q at hd h4
        generalize (c.toNat : Int) = z at *
        clear hr h3
        cases q
        all_goals
          go_enter Tryz.func250, Tryz.ntmps250
          go_wp2_with fail
          refine (H1 _).out.mono ?_
          rintro e w1 ⟨rfl, rfl⟩
          go_wp2_with fail
          refine (H2 _).out.mono ?_
          rintro e w1 ⟨rfl, rfl⟩
          go_wp2_with fail
          go_ret
          exact ⟨by rw [hd.out]; rfl, rfl⟩
    · have hd : Hid (r = true) := Lib.hid (by rw [hr]; rfl)
      clear hr
      go_enter Tryz.func250, Tryz.ntmps250
      go_wp2_with fail
      refine (H1 _).out.mono ?_
      rintro e w1 ⟨rfl, rfl⟩
      go_wp2_with fail
      refine (H2 _).out.mono ?_
      rintro e w1 ⟨rfl, rfl⟩
      go_wp2_with fail
      go_ret
      exact ⟨by rw [hd.out]; rfl, rfl⟩
  · have hd : Hid (r = true) := Lib.hid (by rw [hr]; rfl)
    clear hr
    go_enter Tryz.func250, Tryz.ntmps250
    go_wp2_with fail
    refine (H1 _).out.mono ?_
    rintro e w1 ⟨rfl, rfl⟩
    go_wp2_with fail
    go_ret
    exact ⟨by rw [hd.out]; rfl, rfl⟩
end Go.Proofs.YtfiocnjogbpgoaaGreatDoor
