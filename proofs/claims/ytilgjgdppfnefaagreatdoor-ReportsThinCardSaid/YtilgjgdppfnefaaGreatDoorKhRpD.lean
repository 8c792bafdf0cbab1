/- Keys. -/
import Derived.Test.YtilgjgdppfnefaaGreatDoorKhRpB
import Derived.Shelf.Strings.SlTrimAscii
namespace Go.Proofs.YtilgjgdppfnefaaGreatDoor
open Go.RowKit
set_option linter.unusedVariables false
set_option linter.unusedSimpArgs false

theorem rank_any (b : Bool) (w : World) : Calls Tryz.prog 61 #[.bool b] w fun e w' => e = .returned (.int .i64 (rank b)) ∧ w' = w := by
  cases b
  all_goals
    go_enter Tryz.func61, Tryz.ntmps61
    go_wp2_with fail
    go_ret
    exact ⟨rfl, rfl⟩

set_option maxHeartbeats 4000000 in
set_option maxRecDepth 100000 in
theorem repCmp_d (x y : Rp) (w : World) (hx : x.U) (hy : y.U) :
    Calls Tryz.prog 34 #[rpA x, rpA y] w (GivesD (.int .i64 (cmpRp x y)) w) := by
  obtain ⟨z1, hz1⟩ : ∃ z, z = Lib.compareInt x.hour y.hour := ⟨_, rfl⟩
  obtain ⟨z2, hz2⟩ : ∃ z, z = Lib.compareBytes x.node y.node := ⟨_, rfl⟩
  obtain ⟨z3, hz3⟩ : ∃ z, z = Lib.compareInt (rank x.out) (rank y.out) := ⟨_, rfl⟩
  obtain ⟨z4, hz4⟩ : ∃ z, z = cmpFl x.fl y.fl := ⟨_, rfl⟩
  have C1 := Lib.hid (fun w' => intCmp_d x.hour y.hour w')
  have C2 := Lib.hid (fun w' => strCmp_d x.node y.node w')
  have C3 := Lib.hid (fun w' => rank_any x.out w')
  have C4 := Lib.hid (fun w' => rank_any y.out w')
  have C5 := Lib.hid (fun w' => intCmp_d (rank x.out) (rank y.out) w')
  have C6 := Lib.hid (fun w' => flowsCmp_d x.fl y.fl w' hx.1 hy.1)
  have HR : Hid (firstZ [z1, z2, z3, z4] = cmpRp x y) := Lib.hid (by rw [hz1, hz2, hz3, hz4]; rfl)
  rw [← hz1] at C1
  rw [← hz2] at C2
  rw [← hz3] at C5
  rw [← hz4] at C6
  generalize rank x.out = rx at C3 C5
  generalize rank y.out = ry at C4 C5
  obtain ⟨R, hR⟩ : ∃ R, R = cmpRp x y := ⟨_, rfl⟩
  rw [← hR] at HR ⊢
  clear hz1 hz2 hz3 hz4 hR hx hy
  obtain ⟨hA, hD⟩ := two_new w (rpC x) (rpC y) 37 37
  have hG : Gd w ((w.alloc (.cells (rpC x).toArray 37)).alloc (.cells (rpC y).toArray 37)) := ((Gd.refl w).alloc _).alloc _
  have hB := Gd.refl ((w.alloc (.cells (rpC x).toArray 37)).alloc (.cells (rpC y).toArray 37))
  go_enter Tryz.func34, Tryz.ntmps34
  go_upto_region 1 with fail
  refine wd_begin [] (by kernel_rfl) (fun u0 hb0' hz0' => ?_)
  replace hB := hB.trans hb0'
  clear hb0' hz0'
  refine wd_pure (i := 0) (d := some 5) (v := ?_) (by simp only [List.getElem?_toArray, List.getElem?_cons_succ, List.getElem?_cons_zero] <;> rfl) (by rfl) (by kernel_rfl) (by kernel_rfl) (by kernel_rfl) (fun _ _ _ h => h) (by rfl) ?_ ?_
  rotate_left
  · ((intro u); go_simp; try with_reducible rfl)
  try simp only [Act.put, List.setIfInBounds_toArray, List.set_cons_zero, List.set_cons_succ]
  refine wd_take (i := 1) (d := some 6) (v := ?_) (by simp only [List.getElem?_toArray, List.getElem?_cons_succ, List.getElem?_cons_zero] <;> rfl) (by rfl) (by kernel_rfl) (by kernel_rfl) (by kernel_rfl) (fun _ _ _ h => h) (by rfl) (by kernel_rfl) ?_ ?_
  rotate_left
  · ((intro u hu); have ka := hA.gn (hB.trans hu).1; have kb := hD.gn (hB.trans hu).1; have a0 := ka.cell (i := 0) (v := .string ⟨x.node.toArray⟩) rfl; have a1 := ka.cell (i := 1) (v := .int .i64 x.hour) rfl; have a2 := ka.cell (i := 2) (v := .bool x.out) rfl; have b0 := kb.cell (i := 0) (v := .string ⟨y.node.toArray⟩) rfl; have b1 := kb.cell (i := 1) (v := .int .i64 y.hour) rfl; have b2 := kb.cell (i := 2) (v := .bool y.out) rfl; have l1 := ka.ldAt rowFl 3 (flC x.fl) [.int .i64 x.pk, .int .i64 x.by_] rfl rfl; have l2 := kb.ldAt rowFl 3 (flC y.fl) [.int .i64 y.pk, .int .i64 y.by_] rfl rfl; clear ka kb; go_simp; try with_reducible rfl)
  try simp only [Act.put, List.setIfInBounds_toArray, List.set_cons_zero, List.set_cons_succ]
  refine wd_pure (i := 2) (d := some 7) (v := ?_) (by simp only [List.getElem?_toArray, List.getElem?_cons_succ, List.getElem?_cons_zero] <;> rfl) (by rfl) (by kernel_rfl) (by kernel_rfl) (by kernel_rfl) (fun _ _ _ h => h) (by rfl) ?_ ?_
  rotate_left
  · ((intro u); go_simp; try with_reducible rfl)
  try simp only [Act.put, List.setIfInBounds_toArray, List.set_cons_zero, List.set_cons_succ]
  refine wd_take (i := 3) (d := some 8) (v := ?_) (by simp only [List.getElem?_toArray, List.getElem?_cons_succ, List.getElem?_cons_zero] <;> rfl) (by rfl) (by kernel_rfl) (by kernel_rfl) (by kernel_rfl) (fun _ _ _ h => h) (by rfl) (by kernel_rfl) ?_ ?_
  rotate_left
  · ((intro u hu); have ka := hA.gn (hB.trans hu).1; have kb := hD.gn (hB.trans hu).1; have a0 := ka.cell (i := 0) (v := .string ⟨x.node.toArray⟩) rfl; have a1 := ka.cell (i := 1) (v := .int .i64 x.hour) rfl; have a2 := ka.cell (i := 2) (v := .bool x.out) rfl; have b0 := kb.cell (i := 0) (v := .string ⟨y.node.toArray⟩) rfl; have b1 := kb.cell (i := 1) (v := .int .i64 y.hour) rfl; have b2 := kb.cell (i := 2) (v := .bool y.out) rfl; have l1 := ka.ldAt rowFl 3 (flC x.fl) [.int .i64 x.pk, .int .i64 x.by_] rfl rfl; have l2 := kb.ldAt rowFl 3 (flC y.fl) [.int .i64 y.pk, .int .i64 y.by_] rfl rfl; clear ka kb; go_simp; try with_reducible rfl)
  try simp only [Act.put, List.setIfInBounds_toArray, List.set_cons_zero, List.set_cons_succ]
  refine wd_pure (i := 5) (d := some 10) (v := ?_) (by simp only [List.getElem?_toArray, List.getElem?_cons_succ, List.getElem?_cons_zero] <;> rfl) (by rfl) (by kernel_rfl) (by kernel_rfl) (by kernel_rfl) (fun _ _ _ h => h) (by rfl) ?_ ?_
  rotate_left
  · ((intro u); go_simp; try with_reducible rfl)
  try simp only [Act.put, List.setIfInBounds_toArray, List.set_cons_zero, List.set_cons_succ]
  refine wd_take (i := 6) (d := some 11) (v := ?_) (by simp only [List.getElem?_toArray, List.getElem?_cons_succ, List.getElem?_cons_zero] <;> rfl) (by rfl) (by kernel_rfl) (by kernel_rfl) (by kernel_rfl) (fun _ _ _ h => h) (by rfl) (by kernel_rfl) ?_ ?_
  rotate_left
  · ((intro u hu); have ka := hA.gn (hB.trans hu).1; have kb := hD.gn (hB.trans hu).1; have a0 := ka.cell (i := 0) (v := .string ⟨x.node.toArray⟩) rfl; have a1 := ka.cell (i := 1) (v := .int .i64 x.hour) rfl; have a2 := ka.cell (i := 2) (v := .bool x.out) rfl; have b0 := kb.cell (i := 0) (v := .string ⟨y.node.toArray⟩) rfl; have b1 := kb.cell (i := 1) (v := .int .i64 y.hour) rfl; have b2 := kb.cell (i := 2) (v := .bool y.out) rfl; have l1 := ka.ldAt rowFl 3 (flC x.fl) [.int .i64 x.pk, .int .i64 x.by_] rfl rfl; have l2 := kb.ldAt rowFl 3 (flC y.fl) [.int .i64 y.pk, .int .i64 y.by_] rfl rfl; clear ka kb; go_simp; try with_reducible rfl)
  try simp only [Act.put, List.setIfInBounds_toArray, List.set_cons_zero, List.set_cons_succ]
  refine wd_pure (i := 7) (d := some 12) (v := ?_) (by simp only [List.getElem?_toArray, List.getElem?_cons_succ, List.getElem?_cons_zero] <;> rfl) (by rfl) (by kernel_rfl) (by kernel_rfl) (by kernel_rfl) (fun _ _ _ h => h) (by rfl) ?_ ?_
  rotate_left
  · ((intro u); go_simp; try with_reducible rfl)
  try simp only [Act.put, List.setIfInBounds_toArray, List.set_cons_zero, List.set_cons_succ]
  refine wd_take (i := 8) (d := some 13) (v := ?_) (by simp only [List.getElem?_toArray, List.getElem?_cons_succ, List.getElem?_cons_zero] <;> rfl) (by rfl) (by kernel_rfl) (by kernel_rfl) (by kernel_rfl) (fun _ _ _ h => h) (by rfl) (by kernel_rfl) ?_ ?_
  rotate_left
  · ((intro u hu); have ka := hA.gn (hB.trans hu).1; have kb := hD.gn (hB.trans hu).1; have a0 := ka.cell (i := 0) (v := .string ⟨x.node.toArray⟩) rfl; have a1 := ka.cell (i := 1) (v := .int .i64 x.hour) rfl; have a2 := ka.cell (i := 2) (v := .bool x.out) rfl; have b0 := kb.cell (i := 0) (v := .string ⟨y.node.toArray⟩) rfl; have b1 := kb.cell (i := 1) (v := .int .i64 y.hour) rfl; have b2 := kb.cell (i := 2) (v := .bool y.out) rfl; have l1 := ka.ldAt rowFl 3 (flC x.fl) [.int .i64 x.pk, .int .i64 x.by_] rfl rfl; have l2 := kb.ldAt rowFl 3 (flC y.fl) [.int .i64 y.pk, .int .i64 y.by_] rfl rfl; clear ka kb; go_simp; try with_reducible rfl)
  try simp only [Act.put, List.setIfInBounds_toArray, List.set_cons_zero, List.set_cons_succ]
  refine wd_pure (i := 10) (d := some 15) (v := ?_) (by simp only [List.getElem?_toArray, List.getElem?_cons_succ, List.getElem?_cons_zero] <;> rfl) (by rfl) (by kernel_rfl) (by kernel_rfl) (by kernel_rfl) (fun _ _ _ h => h) (by rfl) ?_ ?_
  rotate_left
  · ((intro u); go_simp; try with_reducible rfl)
  try simp only [Act.put, List.setIfInBounds_toArray, List.set_cons_zero, List.set_cons_succ]
  refine wd_take (i := 11) (d := some 16) (v := ?_) (by simp only [List.getElem?_toArray, List.getElem?_cons_succ, List.getElem?_cons_zero] <;> rfl) (by rfl) (by kernel_rfl) (by kernel_rfl) (by kernel_rfl) (fun _ _ _ h => h) (by rfl) (by kernel_rfl) ?_ ?_
  rotate_left
  · ((intro u hu); have ka := hA.gn (hB.trans hu).1; have kb := hD.gn (hB.trans hu).1; have a0 := ka.cell (i := 0) (v := .string ⟨x.node.toArray⟩) rfl; have a1 := ka.cell (i := 1) (v := .int .i64 x.hour) rfl; have a2 := ka.cell (i := 2) (v := .bool x.out) rfl; have b0 := kb.cell (i := 0) (v := .string ⟨y.node.toArray⟩) rfl; have b1 := kb.cell (i := 1) (v := .int .i64 y.hour) rfl; have b2 := kb.cell (i := 2) (v := .bool y.out) rfl; have l1 := ka.ldAt rowFl 3 (flC x.fl) [.int .i64 x.pk, .int .i64 x.by_] rfl rfl; have l2 := kb.ldAt rowFl 3 (flC y.fl) [.int .i64 y.pk, .int .i64 y.by_] rfl rfl; clear ka kb; go_simp; try with_reducible rfl)
  try simp only [Act.put, List.setIfInBounds_toArray, List.set_cons_zero, List.set_cons_succ]
  refine wd_pure (i := 13) (d := some 18) (v := ?_) (by simp only [List.getElem?_toArray, List.getElem?_cons_succ, List.getElem?_cons_zero] <;> rfl) (by rfl) (by kernel_rfl) (by kernel_rfl) (by kernel_rfl) (fun _ _ _ h => h) (by rfl) ?_ ?_
  rotate_left
  · ((intro u); go_simp; try with_reducible rfl)
  try simp only [Act.put, List.setIfInBounds_toArray, List.set_cons_zero, List.set_cons_succ]
  refine wd_take (i := 14) (d := some 19) (v := ?_) (by simp only [List.getElem?_toArray, List.getElem?_cons_succ, List.getElem?_cons_zero] <;> rfl) (by rfl) (by kernel_rfl) (by kernel_rfl) (by kernel_rfl) (fun _ _ _ h => h) (by rfl) (by kernel_rfl) ?_ ?_
  rotate_left
  · ((intro u hu); have ka := hA.gn (hB.trans hu).1; have kb := hD.gn (hB.trans hu).1; have a0 := ka.cell (i := 0) (v := .string ⟨x.node.toArray⟩) rfl; have a1 := ka.cell (i := 1) (v := .int .i64 x.hour) rfl; have a2 := ka.cell (i := 2) (v := .bool x.out) rfl; have b0 := kb.cell (i := 0) (v := .string ⟨y.node.toArray⟩) rfl; have b1 := kb.cell (i := 1) (v := .int .i64 y.hour) rfl; have b2 := kb.cell (i := 2) (v := .bool y.out) rfl; have l1 := ka.ldAt rowFl 3 (flC x.fl) [.int .i64 x.pk, .int .i64 x.by_] rfl rfl; have l2 := kb.ldAt rowFl 3 (flC y.fl) [.int .i64 y.pk, .int .i64 y.by_] rfl rfl; clear ka kb; go_simp; try with_reducible rfl)
  try simp only [Act.put, List.setIfInBounds_toArray, List.set_cons_zero, List.set_cons_succ]
  refine wd_pure (i := 17) (d := some 22) (v := ?_) (by simp only [List.getElem?_toArray, List.getElem?_cons_succ, List.getElem?_cons_zero] <;> rfl) (by rfl) (by kernel_rfl) (by kernel_rfl) (by kernel_rfl) (fun _ _ _ h => h) (by rfl) ?_ ?_
  rotate_left
  · ((intro u); go_simp; try with_reducible rfl)
  try simp only [Act.put, List.setIfInBounds_toArray, List.set_cons_zero, List.set_cons_succ]
  refine wd_take (i := 18) (d := some 23) (v := ?_) (by simp only [List.getElem?_toArray, List.getElem?_cons_succ, List.getElem?_cons_zero] <;> rfl) (by rfl) (by kernel_rfl) (by kernel_rfl) (by kernel_rfl) (fun _ _ _ h => h) (by rfl) (by kernel_rfl) ?_ ?_
  rotate_left
  · ((intro u hu); have ka := hA.gn (hB.trans hu).1; have kb := hD.gn (hB.trans hu).1; have a0 := ka.cell (i := 0) (v := .string ⟨x.node.toArray⟩) rfl; have a1 := ka.cell (i := 1) (v := .int .i64 x.hour) rfl; have a2 := ka.cell (i := 2) (v := .bool x.out) rfl; have b0 := kb.cell (i := 0) (v := .string ⟨y.node.toArray⟩) rfl; have b1 := kb.cell (i := 1) (v := .int .i64 y.hour) rfl; have b2 := kb.cell (i := 2) (v := .bool y.out) rfl; have l1 := ka.ldAt rowFl 3 (flC x.fl) [.int .i64 x.pk, .int .i64 x.by_] rfl rfl; have l2 := kb.ldAt rowFl 3 (flC y.fl) [.int .i64 y.pk, .int .i64 y.by_] rfl rfl; clear ka kb; go_simp; try with_reducible rfl)
  try simp only [Act.put, List.setIfInBounds_toArray, List.set_cons_zero, List.set_cons_succ]
  refine wd_pure (i := 19) (d := some 24) (v := ?_) (by simp only [List.getElem?_toArray, List.getElem?_cons_succ, List.getElem?_cons_zero] <;> rfl) (by rfl) (by kernel_rfl) (by kernel_rfl) (by kernel_rfl) (fun _ _ _ h => h) (by rfl) ?_ ?_
  rotate_left
  · ((intro u); go_simp; try with_reducible rfl)
  try simp only [Act.put, List.setIfInBounds_toArray, List.set_cons_zero, List.set_cons_succ]
  refine wd_take (i := 20) (d := some 25) (v := ?_) (by simp only [List.getElem?_toArray, List.getElem?_cons_succ, List.getElem?_cons_zero] <;> rfl) (by rfl) (by kernel_rfl) (by kernel_rfl) (by kernel_rfl) (fun _ _ _ h => h) (by rfl) (by kernel_rfl) ?_ ?_
  rotate_left
  · ((intro u hu); have ka := hA.gn (hB.trans hu).1; have kb := hD.gn (hB.trans hu).1; have a0 := ka.cell (i := 0) (v := .string ⟨x.node.toArray⟩) rfl; have a1 := ka.cell (i := 1) (v := .int .i64 x.hour) rfl; have a2 := ka.cell (i := 2) (v := .bool x.out) rfl; have b0 := kb.cell (i := 0) (v := .string ⟨y.node.toArray⟩) rfl; have b1 := kb.cell (i := 1) (v := .int .i64 y.hour) rfl; have b2 := kb.cell (i := 2) (v := .bool y.out) rfl; have l1 := ka.ldAt rowFl 3 (flC x.fl) [.int .i64 x.pk, .int .i64 x.by_] rfl rfl; have l2 := kb.ldAt rowFl 3 (flC y.fl) [.int .i64 y.pk, .int .i64 y.by_] rfl rfl; clear ka kb; go_simp; try with_reducible rfl)
  try simp only [Act.put, List.setIfInBounds_toArray, List.set_cons_zero, List.set_cons_succ]
  refine wd_one (i := 4) (by simp only [List.getElem?_toArray, List.getElem?_cons_succ, List.getElem?_cons_zero] <;> rfl) (by kernel_rfl) (by rfl) (fun K hK => ?_)
  go_simp
  refine (C1.out _).mono ?_
  rintro e u4 ⟨rfl, rfl⟩
  refine hK _ _ (Gd.refl _) ?_
  clear hK K
  try simp only [Act.put, List.setIfInBounds_toArray, List.set_cons_zero, List.set_cons_succ]
  refine wd_one (i := 9) (by simp only [List.getElem?_toArray, List.getElem?_cons_succ, List.getElem?_cons_zero] <;> rfl) (by kernel_rfl) (by rfl) (fun K hK => ?_)
  go_simp
  refine (C2.out _).mono ?_
  rintro e u9 ⟨rfl, rfl⟩
  refine hK _ _ (Gd.refl _) ?_
  clear hK K
  try simp only [Act.put, List.setIfInBounds_toArray, List.set_cons_zero, List.set_cons_succ]
  refine wd_one (i := 12) (by simp only [List.getElem?_toArray, List.getElem?_cons_succ, List.getElem?_cons_zero] <;> rfl) (by kernel_rfl) (by rfl) (fun K hK => ?_)
  go_simp
  refine (C3.out _).mono ?_
  rintro e u12 ⟨rfl, rfl⟩
  refine hK _ _ (Gd.refl _) ?_
  clear hK K
  try simp only [Act.put, List.setIfInBounds_toArray, List.set_cons_zero, List.set_cons_succ]
  refine wd_one (i := 15) (by simp only [List.getElem?_toArray, List.getElem?_cons_succ, List.getElem?_cons_zero] <;> rfl) (by kernel_rfl) (by rfl) (fun K hK => ?_)
  go_simp
  refine (C4.out _).mono ?_
  rintro e u15 ⟨rfl, rfl⟩
  refine hK _ _ (Gd.refl _) ?_
  clear hK K
  try simp only [Act.put, List.setIfInBounds_toArray, List.set_cons_zero, List.set_cons_succ]
  refine wd_one (i := 16) (by simp only [List.getElem?_toArray, List.getElem?_cons_succ, List.getElem?_cons_zero] <;> rfl) (by kernel_rfl) (by rfl) (fun K hK => ?_)
  go_simp
  refine (C5.out _).mono ?_
  rintro e u16 ⟨rfl, rfl⟩
  refine hK _ _ (Gd.refl _) ?_
  clear hK K
  try simp only [Act.put, List.setIfInBounds_toArray, List.set_cons_zero, List.set_cons_succ]
  refine wd_one (i := 21) (by simp only [List.getElem?_toArray, List.getElem?_cons_succ, List.getElem?_cons_zero] <;> rfl) (by kernel_rfl) (by rfl) (fun K hK => ?_)
  go_simp
  refine (C6.out _).mono ?_
  rintro e u21 ⟨rfl, hv1⟩
  refine hK _ _ hv1 ?_
  replace hB := hB.trans hv1
  clear hv1 hK K
  try simp only [Act.put, List.setIfInBounds_toArray, List.set_cons_zero, List.set_cons_succ]
  refine wd_one (i := 22) (by simp only [List.getElem?_toArray, List.getElem?_cons_succ, List.getElem?_cons_zero] <;> rfl) (by kernel_rfl) (by rfl) (fun K hK => ?_)
  go_simp
  refine hK _ _ ((Gd.refl _).alloc _) ?_
  clear hK K
  refine wd_new (cs := [z1, z2, z3, z4].map (Value.int .i64)) (fun u91 hd1 hq1 hz1 => ?_)
  replace hB := hB.trans hd1
  try simp only [Act.put, List.setIfInBounds_toArray, List.set_cons_zero, List.set_cons_succ]
  refine wd_one (i := 23) (by simp only [List.getElem?_toArray, List.getElem?_cons_succ, List.getElem?_cons_zero] <;> rfl) (by kernel_rfl) (by rfl) (fun K hK => ?_)
  go_simp
  refine (orI_blk [z1, z2, z3, z4] _ _ _ _ hq1 (by simp)).mono ?_
  rintro e w' ⟨rfl, rfl⟩
  refine hK _ _ (Gd.refl _) ?_
  clear hK K
  try simp only [Act.put, List.setIfInBounds_toArray, List.set_cons_zero, List.set_cons_succ]
  refine wd_pure (i := 24) (d := some 4) (v := ?_) (by simp only [List.getElem?_toArray, List.getElem?_cons_succ, List.getElem?_cons_zero] <;> rfl) (by rfl) (by kernel_rfl) (by kernel_rfl) (by kernel_rfl) (fun _ _ _ h => h) (by rfl) ?_ ?_
  rotate_left
  · ((intro u); go_simp; try with_reducible rfl)
  try simp only [Act.put, List.setIfInBounds_toArray, List.set_cons_zero, List.set_cons_succ]
  refine wd_done (by kernel_rfl) ?_ _
  go_wp2_with fail
  go_ret
  exact ⟨ret_i64 HR.out, hG.trans hB⟩
end Go.Proofs.YtilgjgdppfnefaaGreatDoor
namespace Go.Proofs.YtilgjgdppfnefaaGreatDoor
open Go.RowKit
set_option linter.unusedVariables false
set_option linter.unusedSimpArgs false

/-- The bytes of keys. -/
def smlB (c : UInt8) : Bool := decide (97 ≤ (c.toNat : Int)) && decide ((c.toNat : Int) ≤ 122)
def digB (c : UInt8) : Bool := decide (48 ≤ (c.toNat : Int)) && decide ((c.toNat : Int) ≤ 57)
def inkB (c : UInt8) : Bool := smlB c || digB c || c.toNat == 45 || c.toNat == 95
def keyB (l : List UInt8) : Bool := match l with
  | [] => false
  | c :: r => decide (r.length < 40) && smlB c && (c :: r).all inkB
def smalls : List UInt8 := [97, 98, 99, 100, 101, 102, 103, 104, 105, 106, 107, 108, 109, 110, 111, 112, 113, 114, 115, 116, 117, 118, 119, 120, 121, 122]
def keyBytes : List UInt8 := [97, 98, 99, 100, 101, 102, 103, 104, 105, 106, 107, 108, 109, 110, 111, 112, 113, 114, 115, 116, 117, 118, 119, 120, 121, 122, 48, 49, 50, 51, 52, 53, 54, 55, 56, 57, 45, 95]
set_option maxRecDepth 100000 in
theorem smalls_is : ∀ k, k < 256 → smalls.contains (UInt8.ofNat k) = smlB (UInt8.ofNat k) := by decide
set_option maxRecDepth 100000 in
theorem keyBytes_is : ∀ k, k < 256 → keyBytes.contains (UInt8.ofNat k) = inkB (UInt8.ofNat k) := by decide
theorem smalls_eq (c : UInt8) : smalls.contains c = smlB c := by
  have := smalls_is c.toNat c.toNat_lt
  rwa [UInt8.ofNat_toNat] at this
theorem keyBytes_eq (c : UInt8) : keyBytes.contains c = inkB c := by
  have := keyBytes_is c.toNat c.toNat_lt
  rwa [UInt8.ofNat_toNat] at this

theorem smallK_any (c : UInt8) (w : World) : Calls Tryz.prog 123 #[.int .u8 (c.toNat : Int)] w fun e w' => e = .returned (.bool (smlB c)) ∧ w = w' := by
  by_cases h1 : 97 ≤ (c.toNat : Int)
  · by_cases h2 : (c.toNat : Int) ≤ 122
    · have HD := Lib.hid (show smlB c = true by unfold smlB; rw [decide_eq_true h1, decide_eq_true h2]; rfl)
      go_enter Tryz.func123, Tryz.ntmps123
      go_wp2_with fail
      go_ret
      exact ⟨by rw [HD.out]; rfl, rfl⟩
    · have HD := Lib.hid (show smlB c = false by unfold smlB; rw [decide_eq_true h1, decide_eq_false h2]; rfl)
      go_enter Tryz.func123, Tryz.ntmps123
      go_wp2_with fail
      go_ret
      exact ⟨by rw [HD.out]; rfl, rfl⟩
  · have HD := Lib.hid (show smlB c = false by unfold smlB; rw [decide_eq_false h1]; rfl)
    go_enter Tryz.func123, Tryz.ntmps123
    go_wp2_with fail
    go_ret
    exact ⟨by rw [HD.out]; rfl, rfl⟩
theorem digitK_any (c : UInt8) (w : World) : Calls Tryz.prog 141 #[.int .u8 (c.toNat : Int)] w fun e w' => e = .returned (.bool (digB c)) ∧ w = w' := by
  by_cases h1 : 48 ≤ (c.toNat : Int)
  · by_cases h2 : (c.toNat : Int) ≤ 57
    · have HD := Lib.hid (show digB c = true by unfold digB; rw [decide_eq_true h1, decide_eq_true h2]; rfl)
      go_enter Tryz.func141, Tryz.ntmps141
      go_wp2_with fail
      go_ret
      exact ⟨by rw [HD.out]; rfl, rfl⟩
    · have HD := Lib.hid (show digB c = false by unfold digB; rw [decide_eq_true h1, decide_eq_false h2]; rfl)
      go_enter Tryz.func141, Tryz.ntmps141
      go_wp2_with fail
      go_ret
      exact ⟨by rw [HD.out]; rfl, rfl⟩
  · have HD := Lib.hid (show digB c = false by unfold digB; rw [decide_eq_false h1]; rfl)
    go_enter Tryz.func141, Tryz.ntmps141
    go_wp2_with fail
    go_ret
    exact ⟨by rw [HD.out]; rfl, rfl⟩
theorem inKey_any (c : UInt8) (w : World) : Calls Tryz.prog 124 #[.int .u8 (c.toNat : Int)] w fun e w' => e = .returned (.bool (inkB c)) ∧ w = w' := by
  have H1 := fun w => Lib.hid (smallK_any c w)
  have H2 := fun w => Lib.hid (digitK_any c w)
  obtain ⟨r, hr⟩ : ∃ r, r = inkB c := ⟨_, rfl⟩
  rw [← hr]
  unfold inkB at hr
  generalize smlB c = a at *
  generalize digB c = b at *
  cases a
  · cases b
    · by_cases h3 : c.toNat = 45
      · have hd : Hid (r = true) := Lib.hid (by rw [hr, h3]; rfl)
        have h3' : (c.toNat : Int) = 45 := by omega
        generalize (c.toNat : Int) = z at *
        clear hr h3
        subst h3'
        go_enter Tryz.func124, Tryz.ntmps124
        go_wp2_with fail
        refine (H1 _).out.mono ?_
        rintro e w1 ⟨rfl, rfl⟩
        go_wp2_with fail
        refine (H2 _).out.mono ?_
        rintro e w1 ⟨rfl, rfl⟩
        go_wp2_with fail
        go_ret
        exact ⟨by rw [hd.out]; rfl, rfl⟩
      · have hd : Hid (r = (c.toNat == 95)) := Lib.hid (by rw [hr, show (c.toNat == 45) = false by simpa using h3]; rfl)
        have h3' : ((c.toNat : Int) == 45) = false := by simpa using (show ¬ (c.toNat : Int) = 45 by omega)
        have h4 : ((c.toNat : Int) == 95) = (c.toNat == 95) := by rw [Bool.eq_iff_iff, beq_iff_eq, beq_iff_eq]; omega
        generalize (c.toNat == 95) = q at hd h4
        generalize (c.toNat : Int) = z at *
        clear hr h3
        cases q
        all_goals
          go_enter Tryz.func124, Tryz.ntmps124
          go_wp2_with fail
          refine (H1 _).out.mono ?_
          rintro e w1 ⟨rfl, rfl⟩
          go_wp2_with fail
          refine (H2 _).out.mono ?_
          rintro e w1 ⟨rfl, rfl⟩
          go_wp2_with fail
          go_ret
          exact ⟨by rw [hd.out]; rfl, rfl⟩
    · have hd : Hid (r = true) := Lib.hid (by rw [hr]; rfl)
      clear hr
      go_enter Tryz.func124, Tryz.ntmps124
      go_wp2_with fail
      refine (H1 _).out.mono ?_
      rintro e w1 ⟨rfl, rfl⟩
      go_wp2_with fail
      refine (H2 _).out.mono ?_
      rintro e w1 ⟨rfl, rfl⟩
      go_wp2_with fail
      go_ret
      exact ⟨by rw [hd.out]; rfl, rfl⟩
  · have hd : Hid (r = true) := Lib.hid (by rw [hr]; rfl)
    clear hr
    go_enter Tryz.func124, Tryz.ntmps124
    go_wp2_with fail
    refine (H1 _).out.mono ?_
    rintro e w1 ⟨rfl, rfl⟩
    go_wp2_with fail
    go_ret
    exact ⟨by rw [hd.out]; rfl, rfl⟩
end Go.Proofs.YtilgjgdppfnefaaGreatDoor
