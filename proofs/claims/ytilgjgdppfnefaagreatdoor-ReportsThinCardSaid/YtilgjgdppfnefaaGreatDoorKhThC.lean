/- Reports that are put together: one that is thinned. -/
import Derived.Test.YtilgjgdppfnefaaGreatDoorKhThA
import Derived.Test.YtilgjgdppfnefaaGreatDoorKhRqF
namespace Go.Proofs.YtilgjgdppfnefaaGreatDoor
open Go.RowKit
set_option linter.unusedVariables false
set_option linter.unusedSimpArgs false

theorem below_row {B p : Nat} {w W : World} (h : Below B w W) (hp : B ≤ p) (cs : Array Value) : Below B w (W.setRow p cs) :=
  ⟨h.os, h.tape, h.output, Nat.le_trans h.size (by simp), fun k hk => (setRow_other W p k cs (by omega)).trans (h.block k hk)⟩

set_option maxHeartbeats 2000000 in
set_option maxRecDepth 100000 in
theorem putT_any (x y : Rp) (w : World) (hx : x.N) (hy : y.N) :
    Calls Tryz.prog 74 #[rpA x, rpA y] w (GivesV (rpA (putT x y)) w) := by
  obtain ⟨x0, x1, x2, x3⟩ := hx
  obtain ⟨y0, y1, y2, y3⟩ := hy
  obtain ⟨hA, hD⟩ := two_new w (rpC x) (rpC y) 37 37
  obtain ⟨wz, hwz⟩ : ∃ wz, wz = (w.alloc (.cells (rpC x).toArray 37)).alloc (.cells (rpC y).toArray 37) := ⟨_, rfl⟩
  have hz : wz.heap.size = w.heap.size + 1 + 1 := by rw [hwz]; simp
  have hbw : Below w.heap.size w wz := by rw [hwz]; exact ((Below.refl _ _).alloc (Nat.le_refl _) _).alloc (by simp) _
  rw [← hwz] at hA hD
  have hE := Blk.new wz zRpC 37
  rw [hz] at hE
  obtain ⟨wE, hwE⟩ : ∃ wE, wE = wz.alloc (.cells #[.string ⟨#[]⟩, .int .i64 0, .bool false, .int .i64 0, .bool false, .int .u64 0, .int .u64 0, .bool false, .int .u64 0, .int .u64 0, .int .i64 0, .int .i64 0, .int .i64 0, .int .i64 0] 37) := ⟨_, rfl⟩
  replace hA : Blk wE w.heap.size (rpC x) 37 := by rw [hwE]; exact hA.alloc _
  replace hD : Blk wE (w.heap.size + 1) (rpC y) 37 := by rw [hwE]; exact hD.alloc _
  replace hE : Blk wE (w.heap.size + 1 + 1) zRpC 37 := by rw [hwE]; exact hE
  replace hbw : Below w.heap.size w wE := by rw [hwE]; exact hbw.alloc hbw.size _
  have e1 : IntKind.i64.wrap (x.pk + y.pk) = x.pk + y.pk := IntWalk.i64_in _ (by omega)
  have e2 : IntKind.i64.wrap (x.by_ + y.by_) = x.by_ + y.by_ := IntWalk.i64_in _ (by omega)
  have cx1 := hA.cell (i := 12) (v := .int .i64 x.pk) rfl
  have cy1 := hD.cell (i := 12) (v := .int .i64 y.pk) rfl
  have cx2 := hA.cell (i := 13) (v := .int .i64 x.by_) rfl
  have cy2 := hD.cell (i := 13) (v := .int .i64 y.by_) rfl
  have f1 := hA.free 12
  have f2 := hA.free 13
  obtain ⟨s1, hs1⟩ : ∃ s, s = min (x.pk + y.pk) 1000000000000 := ⟨_, rfl⟩
  obtain ⟨s2, hs2⟩ : ∃ s, s = min (x.by_ + y.by_) 1000000000000 := ⟨_, rfl⟩
  have hT : rpC (putT x y) = ((rpC x).set 12 (.int .i64 s1)).set 13 (.int .i64 s2) := by rw [hs1, hs2]; rfl
  have hA2 := (hA.set 12 (.int .i64 s1)).set 13 (.int .i64 s2)
  rw [← hT] at hA2
  have hE2 := (hE.other (a := ⟨w.heap.size, 12, none⟩) (by simp; omega) (.int .i64 s1)).other (a := ⟨w.heap.size, 13, none⟩) (by simp; omega) (.int .i64 s2)
  have lA := hA2.ld rowRp (rpC_len _)
  have S := stT_row rowRp hE2 rfl (rpC_len (putT x y)) (rpC_one (putT x y))
  have hbF := (hbw.setCell (p := ⟨w.heap.size, 12, none⟩) (Nat.le_refl _) (.int .i64 s1)).setCell (p := ⟨w.heap.size, 13, none⟩) (Nat.le_refl _) (.int .i64 s2)
  generalize putT x y = t at *
  subst hs1 hs2
  clear hA hD hE hT
  go_enter Tryz.func74, Tryz.ntmps74
  go_upto_region 1 with fail
  rw [← hwz, ← hwE]
  generalize hp : w.heap.size = p at *
  replace hp := Lib.hid hp
  clear hwz hwE hz
  go_upto_region 2 with fail
  go_upto_region 3 with fail
  go_wp2_with fail
  refine bodyPost_ret (v := rpA t) (results_cell_row rfl _ _ (p + 1 + 1) _ _ (0, 0) _ rfl (setRow_heap _ (p + 1 + 1) _ _ _ _ hE2) Tryz.underlying37 rfl (by rw [rowRp.size]; rfl)) rfl ⟨rfl, ?_⟩
  rw [hp.out]
  exact below_row (p := p + 1 + 1) hbF (by omega) _
end Go.Proofs.YtilgjgdppfnefaaGreatDoor
namespace Go.Proofs.YtilgjgdppfnefaaGreatDoor
open Go.RowKit
set_option linter.unusedVariables false
set_option linter.unusedSimpArgs false

/-- One that is thinned, whatever its hour. -/
def dayR (r : Rp) : Rp := { r with hour := r.hour - r.hour % 24, fl := { r.fl with fp := 0, tp := 0 } }
def thinR (d : Int) (r : Rp) : Rp := if r.hour < d * 24 then dayR r else r

set_option maxHeartbeats 2000000 in
set_option maxRecDepth 100000 in
theorem thin1_any (bs : Nat) (d : Int) (r : Rp) (w : World) (hB : Blk w bs [.int .i64 d] 3) (hd : 0 ≤ d ∧ d ≤ 4001) (hr : 0 ≤ r.hour ∧ r.hour ≤ 96023) :
    Calls Tryz.prog 45 #[rpA r, .pointer (some ⟨bs, 0, none⟩)] w (GivesV (rpA (thinR d r)) w) := by
  have hbl := hB.lt
  have hA := (Blk.new w (rpC r) 37).alloc (.cells #[.string ⟨#[]⟩, .int .i64 0, .bool false, .int .i64 0, .bool false, .int .u64 0, .int .u64 0, .bool false, .int .u64 0, .int .u64 0, .int .i64 0, .int .i64 0, .int .i64 0, .int .i64 0] 37)
  have hE := Blk.new (w.alloc (.cells (rpC r).toArray 37)) zRpC 37
  rw [World.size_alloc] at hE
  obtain ⟨wE, hwE⟩ : ∃ wE, wE = (w.alloc (.cells (rpC r).toArray 37)).alloc (.cells #[.string ⟨#[]⟩, .int .i64 0, .bool false, .int .i64 0, .bool false, .int .u64 0, .int .u64 0, .bool false, .int .u64 0, .int .u64 0, .int .i64 0, .int .i64 0, .int .i64 0, .int .i64 0] 37) := ⟨_, rfl⟩
  have hbw : Below w.heap.size w wE := by rw [hwE]; exact ((Below.refl _ _).alloc (Nat.le_refl _) _).alloc (by simp) _
  replace hA : Blk wE w.heap.size (rpC r) 37 := by rw [hwE]; exact hA
  replace hE : Blk wE (w.heap.size + 1) zRpC 37 := by rw [hwE]; exact hE
  have hB2 := hB.below hbw
  have q1 := hB2.cell (i := 0) (v := .int .i64 d) rfl
  have m0 := Int.emod_nonneg r.hour (show (24 : Int) ≠ 0 by decide)
  have m1 := Int.emod_lt_of_pos r.hour (show (0 : Int) < 24 by decide)
  have e1 : IntKind.i64.wrap (d * 24) = d * 24 := IntWalk.i64_in _ (by omega)
  have e2 : IntKind.i64.wrap (r.hour % 24) = r.hour % 24 := IntWalk.i64_in _ (by omega)
  have e3 : IntKind.i64.wrap (r.hour - r.hour % 24) = r.hour - r.hour % 24 := IntWalk.i64_in _ (by omega)
  have c1 := hA.cell (i := 1) (v := .int .i64 r.hour) rfl
  have c10 := hA.cell (i := 10) (v := .int .i64 r.fl.fp) rfl
  have c11 := hA.cell (i := 11) (v := .int .i64 r.fl.tp) rfl
  have f1 := hA.free 1
  have f10 := hA.free 10
  have f11 := hA.free 11
  have hA2 := ((hA.set 1 (.int .i64 (r.hour - r.hour % 24))).set 10 (.int .i64 0)).set 11 (.int .i64 0)
  replace hA2 : Blk _ _ (rpC (dayR r)) _ := hA2
  have hE2 := ((hE.other (a := ⟨w.heap.size, 1, none⟩) (by simp) (.int .i64 (r.hour - r.hour % 24))).other (a := ⟨w.heap.size, 10, none⟩) (by simp) (.int .i64 0)).other (a := ⟨w.heap.size, 11, none⟩) (by simp) (.int .i64 0)
  have hbF := ((hbw.setCell (p := ⟨w.heap.size, 1, none⟩) (Nat.le_refl _) (.int .i64 (r.hour - r.hour % 24))).setCell (p := ⟨w.heap.size, 10, none⟩) (Nat.le_refl _) (.int .i64 0)).setCell (p := ⟨w.heap.size, 11, none⟩) (Nat.le_refl _) (.int .i64 0)
  by_cases h : r.hour < d * 24
  · have ht : Hid (thinR d r = dayR r) := Lib.hid (if_pos h)
    have l1 := hA2.ld rowRp (rpC_len (dayR r))
    have S := stT_row rowRp hE2 rfl (rpC_len (dayR r)) (rpC_one (dayR r))
    rw [ht.out]
    generalize dayR r = t at *
    clear hA hA2 hE hB hB2 ht m0 m1
    go_enter Tryz.func45, Tryz.ntmps45
    go_upto_region 1 with fail
    rw [← hwE]
    generalize hp : w.heap.size = p at *
    replace hp := Lib.hid hp
    clear hwE
    go_wp2_with fail
    refine bodyPost_ret (v := rpA t) (results_cell_row rfl _ _ (p + 1) _ _ (0, 0) _ rfl (setRow_heap _ (p + 1) _ _ _ _ hE2) Tryz.underlying37 rfl (by rw [rowRp.size]; rfl)) rfl ⟨rfl, ?_⟩
    rw [hp.out]
    exact below_row (p := p + 1) hbF (by omega) _
  · have ht : Hid (thinR d r = r) := Lib.hid (if_neg h)
    have l1 := hA.ld rowRp (rpC_len r)
    have S := stT_row rowRp hE rfl (rpC_len r) (rpC_one r)
    rw [ht.out]
    clear hA2 hE2 hbF hB hB2 ht m0 m1 hA
    go_enter Tryz.func45, Tryz.ntmps45
    go_upto_region 1 with fail
    rw [← hwE]
    generalize hp : w.heap.size = p at *
    replace hp := Lib.hid hp
    clear hwE
    go_wp2_with fail
    refine bodyPost_ret (v := rpA r) (results_cell_row rfl _ _ (p + 1) _ _ (0, 0) _ rfl (setRow_heap _ (p + 1) _ _ _ _ hE) Tryz.underlying37 rfl (by rw [rowRp.size]; rfl)) rfl ⟨rfl, ?_⟩
    rw [hp.out]
    exact below_row (p := p + 1) hbw (by omega) _
end Go.Proofs.YtilgjgdppfnefaaGreatDoor
