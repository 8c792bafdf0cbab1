/- Reports whose addresses are hidden: one report; a list. -/
import Derived.Test.YtilgjgdppfnefaaGreatDoorKhThO
import Derived.Laws.EntriesVeiled
namespace Go.Proofs.YtilgjgdppfnefaaGreatDoor
open Go.RowKit
set_option linter.unusedVariables false
set_option linter.unusedSimpArgs false

theorem rpC_split (r : Rp) : rpC r = [.string ⟨r.node.toArray⟩, .int .i64 r.hour, .bool r.out, .int .i64 r.fl.p] ++ (adC r.fl.f ++ (adC r.fl.t ++ [.int .i64 r.fl.fp, .int .i64 r.fl.tp, .int .i64 r.pk, .int .i64 r.by_])) := rfl
theorem setL_len' : ∀ (vs : List Value) (o : Nat) (xs : List Value), (setL xs o vs).length = xs.length
  | [], _, _ => rfl
  | v :: r, o, xs => by unfold setL; rw [setL_len' r, List.length_set]
/-- A right address of a flow, a right report's. -/
def Rp.A (x : Rp) : Prop := adF x.fl.f.s x.fl.f.hi x.fl.f.lo = 0 ∧ adF x.fl.t.s x.fl.t.hi x.fl.t.lo = 0

set_option maxHeartbeats 4000000 in
set_option maxRecDepth 100000 in
theorem hide2_any (f p q : Nat) (b4 b6 : Int) (r : Rp) (w : World) (hF : Blk w f [.func (.func 46) #[] #[.pointer (some ⟨p, 0, none⟩), .pointer (some ⟨q, 0, none⟩)]] 81) (hp : Blk w p [.int .i64 b4] 3) (hq : Blk w q [.int .i64 b6] 3) (hI : InB b4 b6) (hU : r.U) (hA : r.A) :
    Calls Tryz.prog 48 #[rpA r, .pointer (some ⟨f, 0, none⟩)] w (GivesV (rpA (hidR b4 b6 r)) w) := by
  have H1 := Lib.hid (fun W (hW : Below w.heap.size w W) => hide1_any p q b4 b6 r.fl.f W (hp.below hW) (hq.below hW) hI hU.1.1 hA.1)
  have H2 := Lib.hid (fun W (hW : Below w.heap.size w W) => hide1_any p q b4 b6 r.fl.t W (hp.below hW) (hq.below hW) hI hU.1.2.1 hA.2)
  have hfl := hF.lt
  have hX := (Blk.new w (rpC r) 37).alloc (.cells #[.string ⟨#[]⟩, .int .i64 0, .bool false, .int .i64 0, .bool false, .int .u64 0, .int .u64 0, .bool false, .int .u64 0, .int .u64 0, .int .i64 0, .int .i64 0, .int .i64 0, .int .i64 0] 37)
  have hE := Blk.new (w.alloc (.cells (rpC r).toArray 37)) zRpC 37
  rw [World.size_alloc] at hE
  obtain ⟨wE, hwE⟩ : ∃ wE, wE = (w.alloc (.cells (rpC r).toArray 37)).alloc (.cells #[.string ⟨#[]⟩, .int .i64 0, .bool false, .int .i64 0, .bool false, .int .u64 0, .int .u64 0, .bool false, .int .u64 0, .int .u64 0, .int .i64 0, .int .i64 0, .int .i64 0, .int .i64 0] 37) := ⟨_, rfl⟩
  have hbw : Below w.heap.size w wE := by rw [hwE]; exact ((Below.refl _ _).alloc (Nat.le_refl _) _).alloc (by simp) _
  replace hX : Blk wE w.heap.size (rpC r) 37 := by rw [hwE]; exact hX
  replace hE : Blk wE (w.heap.size + 1) zRpC 37 := by rw [hwE]; exact hE
  clear hp hq hI hU hA
  have hR : rpC (hidR b4 b6 r) = setL (setL (rpC r) 4 (adC (hidA b4 b6 r.fl.f))) 7 (adC (hidA b4 b6 r.fl.t)) := rfl
  replace hR := Lib.hid hR
  obtain ⟨fin, hfin⟩ : ∃ fin, fin = hidR b4 b6 r := ⟨_, rfl⟩
  rw [← hfin] at hR ⊢
  clear hfin
  generalize hidA b4 b6 r.fl.f = m1 at *
  generalize hidA b4 b6 r.fl.t = m2 at *
  go_enter Tryz.func48, Tryz.ntmps48
  go_upto_region 1 with fail
  rw [← hwE]
  clear hwE
  refine wx_begin (none) [12, 15] (by kernel_rfl) (fun u0 hb0' hz0' => ?_)
  replace hX := hX.below hb0'
  replace hE := hE.below hb0'
  replace hbw := hbw.trans (hb0'.mono hbw.size)
  clear hb0' hz0'
  refine wx_take (i := 0) (d := some 4) (v := ?_) (by simp only [List.getElem?_toArray, List.getElem?_cons_succ, List.getElem?_cons_zero] <;> rfl) (by rfl) (by kernel_rfl) (by kernel_rfl) (by kernel_rfl) (fun _ _ _ h => h) (by rfl) (by kernel_rfl) ?_ ?_
  rotate_left
  · ((intro u hu); have kw := hbw.grown hu hbw.size (fun k h => by cases h); have k0 := (hF.below kw).cell (i := 0) (v := .func (.func 46) #[] #[.pointer (some ⟨p, 0, none⟩), .pointer (some ⟨q, 0, none⟩)]) rfl; have kx := hX.gn hu; have k1 := kx.ldAt rowAd 4 (adC r.fl.f) _ rfl (by rw [rpC_split]; rfl); have k2 := kx.ldAt rowAd 7 (adC r.fl.t) _ rfl (by rw [rpC_split]; rfl); clear kw kx; go_simp; try with_reducible rfl)
  try simp only [Act.put, List.setIfInBounds_toArray, List.set_cons_zero, List.set_cons_succ]
  refine wx_pure (i := 1) (d := some 5) (v := ?_) (by simp only [List.getElem?_toArray, List.getElem?_cons_succ, List.getElem?_cons_zero] <;> rfl) (by rfl) (by kernel_rfl) (by kernel_rfl) (by kernel_rfl) (fun _ _ _ h => h) (by rfl) ?_ ?_
  rotate_left
  · ((intro u); go_simp; try with_reducible rfl)
  try simp only [Act.put, List.setIfInBounds_toArray, List.set_cons_zero, List.set_cons_succ]
  refine wx_pure (i := 2) (d := some 6) (v := ?_) (by simp only [List.getElem?_toArray, List.getElem?_cons_succ, List.getElem?_cons_zero] <;> rfl) (by rfl) (by kernel_rfl) (by kernel_rfl) (by kernel_rfl) (fun _ _ _ h => h) (by rfl) ?_ ?_
  rotate_left
  · ((intro u); go_simp; try with_reducible rfl)
  try simp only [Act.put, List.setIfInBounds_toArray, List.set_cons_zero, List.set_cons_succ]
  refine wx_take (i := 3) (d := some 7) (v := ?_) (by simp only [List.getElem?_toArray, List.getElem?_cons_succ, List.getElem?_cons_zero] <;> rfl) (by rfl) (by kernel_rfl) (by kernel_rfl) (by kernel_rfl) (fun _ _ _ h => h) (by rfl) (by kernel_rfl) ?_ ?_
  rotate_left
  · ((intro u hu); have kw := hbw.grown hu hbw.size (fun k h => by cases h); have k0 := (hF.below kw).cell (i := 0) (v := .func (.func 46) #[] #[.pointer (some ⟨p, 0, none⟩), .pointer (some ⟨q, 0, none⟩)]) rfl; have kx := hX.gn hu; have k1 := kx.ldAt rowAd 4 (adC r.fl.f) _ rfl (by rw [rpC_split]; rfl); have k2 := kx.ldAt rowAd 7 (adC r.fl.t) _ rfl (by rw [rpC_split]; rfl); clear kw kx; go_simp; try with_reducible rfl)
  try simp only [Act.put, List.setIfInBounds_toArray, List.set_cons_zero, List.set_cons_succ]
  refine wx_pure (i := 6) (d := some 10) (v := ?_) (by simp only [List.getElem?_toArray, List.getElem?_cons_succ, List.getElem?_cons_zero] <;> rfl) (by rfl) (by kernel_rfl) (by kernel_rfl) (by kernel_rfl) (fun _ _ _ h => h) (by rfl) ?_ ?_
  rotate_left
  · ((intro u); go_simp; try with_reducible rfl)
  try simp only [Act.put, List.setIfInBounds_toArray, List.set_cons_zero, List.set_cons_succ]
  refine wx_pure (i := 7) (d := some 11) (v := ?_) (by simp only [List.getElem?_toArray, List.getElem?_cons_succ, List.getElem?_cons_zero] <;> rfl) (by rfl) (by kernel_rfl) (by kernel_rfl) (by kernel_rfl) (fun _ _ _ h => h) (by rfl) ?_ ?_
  rotate_left
  · ((intro u); go_simp; try with_reducible rfl)
  try simp only [Act.put, List.setIfInBounds_toArray, List.set_cons_zero, List.set_cons_succ]
  refine wx_take (i := 8) (d := some 12) (v := ?_) (by simp only [List.getElem?_toArray, List.getElem?_cons_succ, List.getElem?_cons_zero] <;> rfl) (by rfl) (by kernel_rfl) (by kernel_rfl) (by kernel_rfl) (fun _ _ _ h => h) (by rfl) (by kernel_rfl) ?_ ?_
  rotate_left
  · ((intro u hu); have kw := hbw.grown hu hbw.size (fun k h => by cases h); have k0 := (hF.below kw).cell (i := 0) (v := .func (.func 46) #[] #[.pointer (some ⟨p, 0, none⟩), .pointer (some ⟨q, 0, none⟩)]) rfl; have kx := hX.gn hu; have k1 := kx.ldAt rowAd 4 (adC r.fl.f) _ rfl (by rw [rpC_split]; rfl); have k2 := kx.ldAt rowAd 7 (adC r.fl.t) _ rfl (by rw [rpC_split]; rfl); clear kw kx; go_simp; try with_reducible rfl)
  try simp only [Act.put, List.setIfInBounds_toArray, List.set_cons_zero, List.set_cons_succ]
  refine wx_two (i := 4) (k := 5) (by simp only [List.getElem?_toArray, List.getElem?_cons_succ, List.getElem?_cons_zero] <;> rfl) (by simp only [List.getElem?_toArray, List.getElem?_cons_succ, List.getElem?_cons_zero] <;> rfl) (by kernel_rfl) (by rfl) (by rfl) (fun K hK => ?_) (fun K hK => ?_)
  · go_simp
    refine (H1.out _ hbw).mono ?_
    rintro e wq4 ⟨rfl, hv1⟩
    refine hK.out _ _ (gbB hv1) ?_
    replace hX := hX.below hv1
    replace hE := hE.below hv1
    replace hbw := hbw.trans (hv1.mono hbw.size)
    clear hK K hv1
    try simp only [Act.put, List.setIfInBounds_toArray, List.set_cons_zero, List.set_cons_succ]
    refine wx_pure (i := 10) (d := some 14) (v := ?_) (by simp only [List.getElem?_toArray, List.getElem?_cons_succ, List.getElem?_cons_zero] <;> rfl) (by rfl) (by kernel_rfl) (by kernel_rfl) (by kernel_rfl) (fun _ _ _ h => h) (by rfl) ?_ ?_
    rotate_left
    · ((intro u); go_simp; try with_reducible rfl)
    try simp only [Act.put, List.setIfInBounds_toArray, List.set_cons_zero, List.set_cons_succ]
    refine wx_pure (i := 11) (d := some 15) (v := ?_) (by simp only [List.getElem?_toArray, List.getElem?_cons_succ, List.getElem?_cons_zero] <;> rfl) (by rfl) (by kernel_rfl) (by kernel_rfl) (by kernel_rfl) (fun _ _ _ h => h) (by rfl) ?_ ?_
    rotate_left
    · ((intro u); go_simp; try with_reducible rfl)
    try simp only [Act.put, List.setIfInBounds_toArray, List.set_cons_zero, List.set_cons_succ]
    refine wx_one (i := 5) (by simp only [List.getElem?_toArray, List.getElem?_cons_succ, List.getElem?_cons_zero] <;> rfl) (by kernel_rfl) (by rfl) (fun K hK => ?_)
    go_simp
    have k0 := (hF.below hbw).cell (i := 0) (v := .func (.func 46) #[] #[.pointer (some ⟨p, 0, none⟩), .pointer (some ⟨q, 0, none⟩)]) rfl
    go_simp
    refine hK.out _ _ (gb_refl _ _) ?_
    clear hK K k0
    try simp only [Act.put, List.setIfInBounds_toArray, List.set_cons_zero, List.set_cons_succ]
    refine wx_one (i := 9) (by simp only [List.getElem?_toArray, List.getElem?_cons_succ, List.getElem?_cons_zero] <;> rfl) (by kernel_rfl) (by rfl) (fun K hK => ?_)
    go_simp
    refine (H2.out _ hbw).mono ?_
    rintro e wq9 ⟨rfl, hv1⟩
    refine hK.out _ _ (gbB hv1) ?_
    replace hX := hX.below hv1
    replace hE := hE.below hv1
    replace hbw := hbw.trans (hv1.mono hbw.size)
    clear hK K hv1
    try simp only [Act.put, List.setIfInBounds_toArray, List.set_cons_zero, List.set_cons_succ]
    refine wx_store (i := 12) (by simp only [List.getElem?_toArray, List.getElem?_cons_succ, List.getElem?_cons_zero] <;> rfl) (by kernel_rfl) (by rfl) (by kernel_rfl) (fun K hK => ?_)
    go_simp
    have S := stT_mid rowAd hX 4 (by simp only [setL_len', rpC_len]; decide) (adC_len m1) (adC_one m1)
    go_simp
    refine hK _ _ ?_
    have hX2 := blk_cellsN (adC m1) 4 _ _ hX
    have hE2 := gb_heapAt (gb_cellsN (g := w.heap.size) (adC m1) 4 _) hE (by intro e; have := Option.some.inj e; omega)
    have hb2 := below_setC (B := w.heap.size) (b := w.heap.size) (Nat.le_refl _) (adC m1) 4 _ hbw
    clear hK K S hX hE hbw
    have hX := hX2
    have hE := hE2
    have hbw := hb2
    clear hX2 hE2 hb2
    try simp only [Act.put, List.setIfInBounds_toArray, List.set_cons_zero, List.set_cons_succ]
    refine wx_pure (i := 13) (d := some 16) (v := ?_) (by simp only [List.getElem?_toArray, List.getElem?_cons_succ, List.getElem?_cons_zero] <;> rfl) (by rfl) (by kernel_rfl) (by kernel_rfl) (by kernel_rfl) (fun _ _ _ h => h) (by rfl) ?_ ?_
    rotate_left
    · ((intro u); go_simp; try with_reducible rfl)
    try simp only [Act.put, List.setIfInBounds_toArray, List.set_cons_zero, List.set_cons_succ]
    refine wx_pure (i := 14) (d := some 17) (v := ?_) (by simp only [List.getElem?_toArray, List.getElem?_cons_succ, List.getElem?_cons_zero] <;> rfl) (by rfl) (by kernel_rfl) (by kernel_rfl) (by kernel_rfl) (fun _ _ _ h => h) (by rfl) ?_ ?_
    rotate_left
    · ((intro u); go_simp; try with_reducible rfl)
    try simp only [Act.put, List.setIfInBounds_toArray, List.set_cons_zero, List.set_cons_succ]
    refine wx_store (i := 15) (by simp only [List.getElem?_toArray, List.getElem?_cons_succ, List.getElem?_cons_zero] <;> rfl) (by kernel_rfl) (by rfl) (by kernel_rfl) (fun K hK => ?_)
    go_simp
    have S := stT_mid rowAd hX 7 (by simp only [setL_len', rpC_len]; decide) (adC_len m2) (adC_one m2)
    go_simp
    refine hK _ _ ?_
    have hX2 := blk_cellsN (adC m2) 7 _ _ hX
    have hE2 := gb_heapAt (gb_cellsN (g := w.heap.size) (adC m2) 7 _) hE (by intro e; have := Option.some.inj e; omega)
    have hb2 := below_setC (B := w.heap.size) (b := w.heap.size) (Nat.le_refl _) (adC m2) 7 _ hbw
    clear hK K S hX hE hbw
    have hX := hX2
    have hE := hE2
    have hbw := hb2
    clear hX2 hE2 hb2
    try simp only [Act.put, List.setIfInBounds_toArray, List.set_cons_zero, List.set_cons_succ]
    refine wx_done (by kernel_rfl) ?_ _
    rw [← hR.out] at hX
    clear H1 H2 hF
    have l9 := hX.ld rowRp (rpC_len fin)
    have S9 := stT_row rowRp hE rfl (rpC_len fin) (rpC_one fin)
    clear hX hR
    go_wp2_with fail
    refine bodyPost_ret (v := rpA fin) (results_cell_row rfl _ _ (w.heap.size + 1) _ _ (0, 0) _ rfl (setRow_heap _ (w.heap.size + 1) _ _ _ _ hE) Tryz.underlying37 rfl (by rw [rowRp.size]; rfl)) rfl ⟨rfl, ?_⟩
    exact below_row (p := w.heap.size + 1) hbw (by omega) _
  · go_simp
    have k0 := (hF.below hbw).cell (i := 0) (v := .func (.func 46) #[] #[.pointer (some ⟨p, 0, none⟩), .pointer (some ⟨q, 0, none⟩)]) rfl
    go_simp
    refine hK.out _ _ (gb_refl _ _) ?_
    clear hK K k0
    try simp only [Act.put, List.setIfInBounds_toArray, List.set_cons_zero, List.set_cons_succ]
    refine wx_one (i := 4) (by simp only [List.getElem?_toArray, List.getElem?_cons_succ, List.getElem?_cons_zero] <;> rfl) (by kernel_rfl) (by rfl) (fun K hK => ?_)
    go_simp
    refine (H1.out _ hbw).mono ?_
    rintro e wq4 ⟨rfl, hv1⟩
    refine hK.out _ _ (gbB hv1) ?_
    replace hX := hX.below hv1
    replace hE := hE.below hv1
    replace hbw := hbw.trans (hv1.mono hbw.size)
    clear hK K hv1
    try simp only [Act.put, List.setIfInBounds_toArray, List.set_cons_zero, List.set_cons_succ]
    refine wx_pure (i := 10) (d := some 14) (v := ?_) (by simp only [List.getElem?_toArray, List.getElem?_cons_succ, List.getElem?_cons_zero] <;> rfl) (by rfl) (by kernel_rfl) (by kernel_rfl) (by kernel_rfl) (fun _ _ _ h => h) (by rfl) ?_ ?_
    rotate_left
    · ((intro u); go_simp; try with_reducible rfl)
    try simp only [Act.put, List.setIfInBounds_toArray, List.set_cons_zero, List.set_cons_succ]
    refine wx_pure (i := 11) (d := some 15) (v := ?_) (by simp only [List.getElem?_toArray, List.getElem?_cons_succ, List.getElem?_cons_zero] <;> rfl) (by rfl) (by kernel_rfl) (by kernel_rfl) (by kernel_rfl) (fun _ _ _ h => h) (by rfl) ?_ ?_
    rotate_left
    · ((intro u); go_simp; try with_reducible rfl)
    try simp only [Act.put, List.setIfInBounds_toArray, List.set_cons_zero, List.set_cons_succ]
    refine wx_one (i := 9) (by simp only [List.getElem?_toArray, List.getElem?_cons_succ, List.getElem?_cons_zero] <;> rfl) (by kernel_rfl) (by rfl) (fun K hK => ?_)
    go_simp
    refine (H2.out _ hbw).mono ?_
    rintro e wq9 ⟨rfl, hv1⟩
    refine hK.out _ _ (gbB hv1) ?_
    replace hX := hX.below hv1
    replace hE := hE.below hv1
    replace hbw := hbw.trans (hv1.mono hbw.size)
    clear hK K hv1
    try simp only [Act.put, List.setIfInBounds_toArray, List.set_cons_zero, List.set_cons_succ]
    refine wx_store (i := 12) (by simp only [List.getElem?_toArray, List.getElem?_cons_succ, List.getElem?_cons_zero] <;> rfl) (by kernel_rfl) (by rfl) (by kernel_rfl) (fun K hK => ?_)
    go_simp
    have S := stT_mid rowAd hX 4 (by simp only [setL_len', rpC_len]; decide) (adC_len m1) (adC_one m1)
    go_simp
    refine hK _ _ ?_
    have hX2 := blk_cellsN (adC m1) 4 _ _ hX
    have hE2 := gb_heapAt (gb_cellsN (g := w.heap.size) (adC m1) 4 _) hE (by intro e; have := Option.some.inj e; omega)
    have hb2 := below_setC (B := w.heap.size) (b := w.heap.size) (Nat.le_refl _) (adC m1) 4 _ hbw
    clear hK K S hX hE hbw
    have hX := hX2
    have hE := hE2
    have hbw := hb2
    clear hX2 hE2 hb2
    try simp only [Act.put, List.setIfInBounds_toArray, List.set_cons_zero, List.set_cons_succ]
    refine wx_pure (i := 13) (d := some 16) (v := ?_) (by simp only [List.getElem?_toArray, List.getElem?_cons_succ, List.getElem?_cons_zero] <;> rfl) (by rfl) (by kernel_rfl) (by kernel_rfl) (by kernel_rfl) (fun _ _ _ h => h) (by rfl) ?_ ?_
    rotate_left
    · ((intro u); go_simp; try with_reducible rfl)
    try simp only [Act.put, List.setIfInBounds_toArray, List.set_cons_zero, List.set_cons_succ]
    refine wx_pure (i := 14) (d := some 17) (v := ?_) (by simp only [List.getElem?_toArray, List.getElem?_cons_succ, List.getElem?_cons_zero] <;> rfl) (by rfl) (by kernel_rfl) (by kernel_rfl) (by kernel_rfl) (fun _ _ _ h => h) (by rfl) ?_ ?_
    rotate_left
    · ((intro u); go_simp; try with_reducible rfl)
    try simp only [Act.put, List.setIfInBounds_toArray, List.set_cons_zero, List.set_cons_succ]
    refine wx_store (i := 15) (by simp only [List.getElem?_toArray, List.getElem?_cons_succ, List.getElem?_cons_zero] <;> rfl) (by kernel_rfl) (by rfl) (by kernel_rfl) (fun K hK => ?_)
    go_simp
    have S := stT_mid rowAd hX 7 (by simp only [setL_len', rpC_len]; decide) (adC_len m2) (adC_one m2)
    go_simp
    refine hK _ _ ?_
    have hX2 := blk_cellsN (adC m2) 7 _ _ hX
    have hE2 := gb_heapAt (gb_cellsN (g := w.heap.size) (adC m2) 7 _) hE (by intro e; have := Option.some.inj e; omega)
    have hb2 := below_setC (B := w.heap.size) (b := w.heap.size) (Nat.le_refl _) (adC m2) 7 _ hbw
    clear hK K S hX hE hbw
    have hX := hX2
    have hE := hE2
    have hbw := hb2
    clear hX2 hE2 hb2
    try simp only [Act.put, List.setIfInBounds_toArray, List.set_cons_zero, List.set_cons_succ]
    refine wx_done (by kernel_rfl) ?_ _
    rw [← hR.out] at hX
    clear H1 H2 hF
    have l9 := hX.ld rowRp (rpC_len fin)
    have S9 := stT_row rowRp hE rfl (rpC_len fin) (rpC_one fin)
    clear hX hR
    go_wp2_with fail
    refine bodyPost_ret (v := rpA fin) (results_cell_row rfl _ _ (w.heap.size + 1) _ _ (0, 0) _ rfl (setRow_heap _ (w.heap.size + 1) _ _ _ _ hE) Tryz.underlying37 rfl (by rw [rowRp.size]; rfl)) rfl ⟨rfl, ?_⟩
    exact below_row (p := w.heap.size + 1) hbw (by omega) _

set_option maxHeartbeats 4000000 in
set_option maxRecDepth 100000 in
theorem mapHide_any (fb : Nat) (f : Rp → Rp) (A : Option Addr) (n cap : Nat) (zs : List Rp) (w : World) (HF : ∀ x ∈ zs, ∀ W, Below w.heap.size w W → Calls Tryz.prog 48 #[rpA x, .pointer (some ⟨fb, 0, none⟩)] W (GivesV (rpA (f x)) W)) (hS : SlE eRp w A n cap zs) (hn : n ≤ 3000) :
    Calls Tryz.prog 73 #[.slice A n cap, .func (.func 48) #[] #[.pointer (some ⟨fb, 0, none⟩)]] w fun e w' => (∃ A' cap', e = .returned (.slice A' n cap') ∧ OwnE eRp 37 w.heap.size w' (.slice A' n cap') (zs.map f)) ∧ Below w.heap.size w w' := by
  obtain ⟨i0, hi0, hz0, hz1, hz2⟩ := info_parts infoRp
  have hl := Lib.hid hS.1
  replace HF := Lib.hid HF
  replace hS := Lib.hid hS
  go_enter Tryz.func73, Tryz.ntmps73
  go_wp2_with (at_make; refine wpList_make_own _ rfl _ _ 26 rfl w.heap.size 37 i0 zRp 14 Tryz.underlying26 hi0 hz0 hz1 .i64 .i64 _ n rfl rfl rfl ?c1 ?c2 (Nat.le_refl _) ?_)
  case c1 => rw [hz2]; omega
  case c2 => unfold maxLen; omega
  intro w1 hown hg1
  have hbw : Below w.heap.size w w1 := (Below.refl _ _).grown hg1 (Nat.le_refl _) (fun k h => by cases h)
  replace hown : OwnE eRp 37 w.heap.size w1 (.slice (some ⟨w.heap.size, 0, none⟩) 0 n) [] := hown
  clear hg1
  go_wp2_with fail
  go_loopw [5, 13] (fun vo vi wr => ∃ k : Nat, k ≤ n ∧ vi = .int .i64 k ∧ OwnE eRp 37 w.heap.size wr vo ((zs.take k).map f) ∧ Below w.heap.size w wr) (fun _ vi _ => n - (intOf vi).toNat)
  case atStart => exact ⟨0, Nat.zero_le _, rfl, hown, hbw⟩
  case round =>
    clear hown hbw
    obtain ⟨k, hk, rfl, hown, hbw⟩ := hrel
    by_cases hlt : k < n
    · obtain ⟨z, hzk⟩ : ∃ z, zs[k]? = some z := ⟨zs[k]'(by have := hl.out; omega), List.getElem?_eq_getElem _⟩
      obtain ⟨g, off, hA, hS2⟩ : ∃ g off, A = some ⟨g, off, none⟩ ∧ SlE eRp wr (some ⟨g, off, none⟩) n cap zs := by
        have h := hS.out.below hbw
        rcases h.2.2.2 with h0 | ⟨g, off, hA, _⟩
        · omega
        · exact ⟨g, off, hA, hA ▸ h⟩
      subst hA
      have l1 : (ldT 37 (.pointer (some ⟨g, off + k * 14, none⟩))).run Tryz.prog wr = .ok (.value (rpA z)) wr := hS2.ld rowRp hzk
      have hcap := hS2.2.1
      have hlt' : (k : Int) < n := by omega
      have S4 : (stT 37 (.pointer (some ⟨wr.heap.size, 0, none⟩)) (rpA z)).run Tryz.prog (wr.alloc (.cells #[.string ⟨#[]⟩, .int .i64 0, .bool false, .int .i64 0, .bool false, .int .u64 0, .int .u64 0, .bool false, .int .u64 0, .int .u64 0, .int .i64 0, .int .i64 0, .int .i64 0, .int .i64 0] 37)) = .ok .skip (wr.alloc (.cells (rpC z).toArray 37)) :=
        stT_new rowRp wr wr.heap.size rfl zRpC (rpC z) rfl (rpC_len z) (rpC_one z)
      have hbs := hbw.size
      have hbA : Below w.heap.size w (wr.alloc (.cells (rpC z).toArray 37)) := hbw.alloc hbs _
      have hQ := (Blk.new wr (rpC z) 37).ld rowRp (rpC_len z)
      have HD1 := Lib.hid (HF.out z (List.mem_of_getElem? hzk) _ hbA)
      have hownA := hown.below ((Below.refl _ _).alloc (Nat.le_refl _) (.cells (rpC z).toArray 37))
      have hstep := Lib.hid (show (zs.take (k + 1)).map f = (zs.take k).map f ++ [f z] by rw [List.take_add_one, hzk, List.map_append]; rfl)
      have hpl := Lib.hid (show ((zs.take k).map f).length = k by rw [List.length_map, List.length_take]; have := hl.out; omega)
      generalize (zs.take k).map f = pre at *
      generalize f z = d at *
      clear hzk hS2 hown
      go_wp2_with fail
      refine HD1.out.mono ?_
      rintro e w2 ⟨rfl, hb2⟩
      have hbw2 := hbA.trans (hb2.mono hbA.size)
      have hown2 := hownA.below hb2
      have hbs2 := hbw2.size
      clear HD1 hb2 hbA hownA l1 S4 hQ hbw hbs
      go_wp2_with (at_builtin; refine wpList_app tyeRp rfl _ _ rfl w.heap.size _ pre [d] rfl (hown2.below ((Below.refl _ _).alloc (Nat.le_refl _) _)) ⟨_, 0, none⟩ 1 1 rfl rfl ?d1 ?d2 ?d3 ?_)
      case d1 => exact cell_row_at _ _ _ _ rfl
      case d2 => have := hpl.out; simp only [List.length_singleton]; omega
      case d3 => simp; omega
      intro v' w3 hown3 hg3 hd3
      have hb3 : Below w.heap.size w w3 := (hbw2.alloc hbs2 _).grown hg3 (by simp; omega) (fun k h => (hown2.lt k h).1)
      clear hg3 hd3 hown2 hbw2
      replace hown3 := Lib.hid hown3
      replace hb3 := Lib.hid hb3
      go_wp2_with fail
      go_roundw
      case rel => exact ⟨k + 1, by omega, by go_num, by rw [hstep.out]; exact hown3.out, hb3.out⟩
      case measure => simp [intOf]; omega
    · have hkn : k = n := by omega
      subst hkn
      rw [hl.out, List.take_length] at hown
      have hln := Lib.hid (show (zs.map f).length = k by rw [List.length_map]; exact hl.out.symm)
      obtain ⟨A', cap', hv, _⟩ := hown.sl
      rw [hln.out] at hv
      subst hv
      replace hown := Lib.hid hown
      go_wp2_with fail
      go_ret
      exact ⟨⟨A', cap', rfl, hown.out⟩, hbw⟩
end Go.Proofs.YtilgjgdppfnefaaGreatDoor
