/- Reports: how the program checks one. -/
import Derived.Test.YtilgjgdppfnefaaGreatDoorKhRpE
import Derived.Test.YtilgjgdppfnefaaGreatDoorKhFltB
import Derived.Test.YtilgjgdppfnefaaGreatDoorKhWaysB
namespace Go.Proofs.YtilgjgdppfnefaaGreatDoor
open Go.RowKit
set_option linter.unusedVariables false
set_option linter.unusedSimpArgs false

theorem orF_blk (l : List Int) (p cap : Nat) (w : World) (t : TypeId) (h : Blk w p (l.map (Value.int .i64)) t) (hl : l.length ≤ 100) :
    Calls Tryz.prog 32 #[.slice (some ⟨p, 0, none⟩) l.length cap] w fun e w' => e = .returned (.int .i64 (firstZ l)) ∧ w = w' :=
  or_any l p cap w (fun i hi => h.cell (by simp [List.getElem?_eq_getElem hi])) hl
def numE (z a b : Int) : Int := if a ≤ z ∧ z ≤ b then 0 else 1
def keyE (l : List UInt8) : Int := if keyB l then 0 else 5
def flE (x : Fl) : Int := flF x.p x.f.s x.f.hi x.f.lo x.t.s x.t.hi x.t.lo x.fp x.tp
/-- What is wrong with a report. -/
def repF (x : Rp) : Int := firstZ [firstZ [keyE x.node, numE x.hour 0 96023, flE x.fl], numE x.pk 1 1000000000000, numE x.by_ 0 1000000000000]

set_option maxHeartbeats 4000000 in
set_option maxRecDepth 100000 in
theorem checkReport_any (x : Rp) (w : World) (hx : x.U) :
    Calls Tryz.prog 39 #[rpA x] w (GivesV (.int .i64 (repF x)) w) := by
  obtain ⟨z1, hz1⟩ : ∃ z, z = keyE x.node := ⟨_, rfl⟩
  obtain ⟨z2, hz2⟩ : ∃ z, z = numE x.hour 0 96023 := ⟨_, rfl⟩
  obtain ⟨z3, hz3⟩ : ∃ z, z = flE x.fl := ⟨_, rfl⟩
  obtain ⟨z4, hz4⟩ : ∃ z, z = numE x.pk 1 1000000000000 := ⟨_, rfl⟩
  obtain ⟨z5, hz5⟩ : ∃ z, z = numE x.by_ 0 1000000000000 := ⟨_, rfl⟩
  obtain ⟨Z, hZ⟩ : ∃ Z, Z = firstZ [z1, z2, z3] := ⟨_, rfl⟩
  have C1 := Lib.hid (fun w' => (show Calls Tryz.prog 65 #[.string ⟨x.node.toArray⟩] w' fun e w2 => e = .returned (.int .i64 (keyE x.node)) ∧ w2 = w' from key_any x.node w'))
  have C2 := Lib.hid (fun w' => (show Calls Tryz.prog 43 #[.int .i64 x.hour, .int .i64 0, .int .i64 96023] w' fun e w2 => e = .returned (.int .i64 (numE x.hour 0 96023)) ∧ w' = w2 from numberI_any x.hour 0 96023 w'))
  have C3 := Lib.hid (fun w' => (show Calls Tryz.prog 66 #[flA x.fl] w' (GivesV (.int .i64 (flE x.fl)) w') from checkFlow_any _ _ _ _ _ _ _ _ _ w'))
  have C4 := Lib.hid (fun w' => (show Calls Tryz.prog 43 #[.int .i64 x.pk, .int .i64 1, .int .i64 1000000000000] w' fun e w2 => e = .returned (.int .i64 (numE x.pk 1 1000000000000)) ∧ w' = w2 from numberI_any x.pk 1 1000000000000 w'))
  have C5 := Lib.hid (fun w' => (show Calls Tryz.prog 43 #[.int .i64 x.by_, .int .i64 0, .int .i64 1000000000000] w' fun e w2 => e = .returned (.int .i64 (numE x.by_ 0 1000000000000)) ∧ w' = w2 from numberI_any x.by_ 0 1000000000000 w'))
  have HR : Hid (firstZ [Z, z4, z5] = repF x) := Lib.hid (by rw [hZ, hz1, hz2, hz3, hz4, hz5]; rfl)
  rw [← hz1] at C1
  rw [← hz2] at C2
  rw [← hz3] at C3
  rw [← hz4] at C4
  rw [← hz5] at C5
  replace hZ := Lib.hid hZ
  obtain ⟨R, hR⟩ : ∃ R, R = repF x := ⟨_, rfl⟩
  rw [← hR] at HR ⊢
  clear hz1 hz2 hz3 hz4 hz5 hR hx
  have hA := Blk.new w (rpC x) 37
  have hbw : Below w.heap.size w (w.alloc (.cells (rpC x).toArray 37)) := (Below.refl _ _).alloc (Nat.le_refl _) _
  go_enter Tryz.func39, Tryz.ntmps39
  go_upto_region 1 with fail
  refine wb_begin ([w.heap.size]) [] (by kernel_rfl) (fun u0 hb0' hz0' => ?_)
  replace hA := hA.below hb0'
  replace hbw := hbw.trans (hb0'.mono hbw.size)
  clear hb0' hz0'
  refine wb_pure (i := 0) (d := some 4) (v := ?_) (by simp only [List.getElem?_toArray, List.getElem?_cons_succ, List.getElem?_cons_zero] <;> rfl) (by rfl) (by kernel_rfl) (by kernel_rfl) (by kernel_rfl) (fun _ _ _ h => h) (by rfl) ?_ ?_
  rotate_left
  · ((intro u); go_simp; try with_reducible rfl)
  try simp only [Act.put, List.setIfInBounds_toArray, List.set_cons_zero, List.set_cons_succ]
  refine wb_take (i := 1) (d := some 5) (v := ?_) (by simp only [List.getElem?_toArray, List.getElem?_cons_succ, List.getElem?_cons_zero] <;> rfl) (by rfl) (by kernel_rfl) (by kernel_rfl) (by kernel_rfl) (fun _ _ _ h => h) (by rfl) (by kernel_rfl) ?_ ?_
  rotate_left
  · ((intro u hu); have ka := hA.kb hu (List.mem_singleton.2 rfl); have a0 := ka.cell (i := 0) (v := .string ⟨x.node.toArray⟩) rfl; have a1 := ka.cell (i := 1) (v := .int .i64 x.hour) rfl; have a12 := ka.cell (i := 12) (v := .int .i64 x.pk) rfl; have a13 := ka.cell (i := 13) (v := .int .i64 x.by_) rfl; have l1 := ka.ldAt rowFl 3 (flC x.fl) [.int .i64 x.pk, .int .i64 x.by_] rfl rfl; clear ka; go_simp; try with_reducible rfl)
  try simp only [Act.put, List.setIfInBounds_toArray, List.set_cons_zero, List.set_cons_succ]
  refine wb_pure (i := 3) (d := some 7) (v := ?_) (by simp only [List.getElem?_toArray, List.getElem?_cons_succ, List.getElem?_cons_zero] <;> rfl) (by rfl) (by kernel_rfl) (by kernel_rfl) (by kernel_rfl) (fun _ _ _ h => h) (by rfl) ?_ ?_
  rotate_left
  · ((intro u); go_simp; try with_reducible rfl)
  try simp only [Act.put, List.setIfInBounds_toArray, List.set_cons_zero, List.set_cons_succ]
  refine wb_take (i := 4) (d := some 8) (v := ?_) (by simp only [List.getElem?_toArray, List.getElem?_cons_succ, List.getElem?_cons_zero] <;> rfl) (by rfl) (by kernel_rfl) (by kernel_rfl) (by kernel_rfl) (fun _ _ _ h => h) (by rfl) (by kernel_rfl) ?_ ?_
  rotate_left
  · ((intro u hu); have ka := hA.kb hu (List.mem_singleton.2 rfl); have a0 := ka.cell (i := 0) (v := .string ⟨x.node.toArray⟩) rfl; have a1 := ka.cell (i := 1) (v := .int .i64 x.hour) rfl; have a12 := ka.cell (i := 12) (v := .int .i64 x.pk) rfl; have a13 := ka.cell (i := 13) (v := .int .i64 x.by_) rfl; have l1 := ka.ldAt rowFl 3 (flC x.fl) [.int .i64 x.pk, .int .i64 x.by_] rfl rfl; clear ka; go_simp; try with_reducible rfl)
  try simp only [Act.put, List.setIfInBounds_toArray, List.set_cons_zero, List.set_cons_succ]
  refine wb_pure (i := 6) (d := some 10) (v := ?_) (by simp only [List.getElem?_toArray, List.getElem?_cons_succ, List.getElem?_cons_zero] <;> rfl) (by rfl) (by kernel_rfl) (by kernel_rfl) (by kernel_rfl) (fun _ _ _ h => h) (by rfl) ?_ ?_
  rotate_left
  · ((intro u); go_simp; try with_reducible rfl)
  try simp only [Act.put, List.setIfInBounds_toArray, List.set_cons_zero, List.set_cons_succ]
  refine wb_take (i := 7) (d := some 11) (v := ?_) (by simp only [List.getElem?_toArray, List.getElem?_cons_succ, List.getElem?_cons_zero] <;> rfl) (by rfl) (by kernel_rfl) (by kernel_rfl) (by kernel_rfl) (fun _ _ _ h => h) (by rfl) (by kernel_rfl) ?_ ?_
  rotate_left
  · ((intro u hu); have ka := hA.kb hu (List.mem_singleton.2 rfl); have a0 := ka.cell (i := 0) (v := .string ⟨x.node.toArray⟩) rfl; have a1 := ka.cell (i := 1) (v := .int .i64 x.hour) rfl; have a12 := ka.cell (i := 12) (v := .int .i64 x.pk) rfl; have a13 := ka.cell (i := 13) (v := .int .i64 x.by_) rfl; have l1 := ka.ldAt rowFl 3 (flC x.fl) [.int .i64 x.pk, .int .i64 x.by_] rfl rfl; clear ka; go_simp; try with_reducible rfl)
  try simp only [Act.put, List.setIfInBounds_toArray, List.set_cons_zero, List.set_cons_succ]
  refine wb_one (i := 2) (by simp only [List.getElem?_toArray, List.getElem?_cons_succ, List.getElem?_cons_zero] <;> rfl) (by kernel_rfl) (by rfl) (fun K hK => ?_)
  go_simp
  refine (C1.out _).mono ?_
  rintro e u2 ⟨rfl, rfl⟩
  refine hK _ _ (Kb.refl _ _) ?_
  clear hK K
  try simp only [Act.put, List.setIfInBounds_toArray, List.set_cons_zero, List.set_cons_succ]
  refine wb_one (i := 5) (by simp only [List.getElem?_toArray, List.getElem?_cons_succ, List.getElem?_cons_zero] <;> rfl) (by kernel_rfl) (by rfl) (fun K hK => ?_)
  go_simp
  refine (C2.out _).mono ?_
  rintro e u5 ⟨rfl, rfl⟩
  refine hK _ _ (Kb.refl _ _) ?_
  clear hK K
  try simp only [Act.put, List.setIfInBounds_toArray, List.set_cons_zero, List.set_cons_succ]
  refine wb_one (i := 8) (by simp only [List.getElem?_toArray, List.getElem?_cons_succ, List.getElem?_cons_zero] <;> rfl) (by kernel_rfl) (by rfl) (fun K hK => ?_)
  go_simp
  refine (C3.out _).mono ?_
  rintro e u8 ⟨rfl, hv1⟩
  refine hK _ _ (Kb.below hv1 (by intro q hq; rw [List.mem_singleton.1 hq]; exact hA.lt)) ?_
  replace hA := hA.below hv1
  replace hbw := hbw.trans (hv1.mono hbw.size)
  clear hK K hv1
  try simp only [Act.put, List.setIfInBounds_toArray, List.set_cons_zero, List.set_cons_succ]
  refine wb_one (i := 9) (by simp only [List.getElem?_toArray, List.getElem?_cons_succ, List.getElem?_cons_zero] <;> rfl) (by kernel_rfl) (by rfl) (fun K hK => ?_)
  go_simp
  refine hK _ _ (Kb.gb (World.grownBy_alloc _ _ none) (by intro q hq; rw [List.mem_singleton.1 hq]; exact ⟨hA.lt, by simp⟩)) ?_
  refine wb_new (cs := [z1, z2, z3].map (Value.int .i64)) (t := 39) (fun u91 hv3 hL3 hz3 => ?_)
  replace hA := hA.below hv3
  replace hbw := hbw.trans (hv3.mono hbw.size)
  clear hK K hv3 hz3
  try simp only [Act.put, List.setIfInBounds_toArray, List.set_cons_zero, List.set_cons_succ]
  refine wb_one (i := 10) (by simp only [List.getElem?_toArray, List.getElem?_cons_succ, List.getElem?_cons_zero] <;> rfl) (by kernel_rfl) (by rfl) (fun K hK => ?_)
  go_simp
  refine (orF_blk [z1, z2, z3] _ _ _ _ hL3 (by simp)).mono ?_
  rintro e w' ⟨rfl, rfl⟩
  refine hK _ _ (Kb.refl _ _) ?_
  clear hK K hL3
  try simp only [Act.put, List.setIfInBounds_toArray, List.set_cons_zero, List.set_cons_succ]
  refine wb_pure (i := 11) (d := some 3) (v := ?_) (by simp only [List.getElem?_toArray, List.getElem?_cons_succ, List.getElem?_cons_zero] <;> rfl) (by rfl) (by kernel_rfl) (by kernel_rfl) (by kernel_rfl) (fun _ _ _ h => h) (by rfl) ?_ ?_
  rotate_left
  · ((intro u); go_simp; try with_reducible rfl)
  try simp only [Act.put, List.setIfInBounds_toArray, List.set_cons_zero, List.set_cons_succ]
  refine wb_done (by kernel_rfl) ?_ _
  skip
  rw [← hZ.out]
  go_upto_region 2 with fail
  refine wb_begin ([w.heap.size]) [] (by kernel_rfl) (fun u0 hb0' hz0' => ?_)
  replace hA := hA.below hb0'
  replace hbw := hbw.trans (hb0'.mono hbw.size)
  clear hb0' hz0'
  refine wb_pure (i := 0) (d := some 15) (v := ?_) (by simp only [List.getElem?_toArray, List.getElem?_cons_succ, List.getElem?_cons_zero] <;> rfl) (by rfl) (by kernel_rfl) (by kernel_rfl) (by kernel_rfl) (fun _ _ _ h => h) (by rfl) ?_ ?_
  rotate_left
  · ((intro u); go_simp; try with_reducible rfl)
  try simp only [Act.put, List.setIfInBounds_toArray, List.set_cons_zero, List.set_cons_succ]
  refine wb_pure (i := 1) (d := some 16) (v := ?_) (by simp only [List.getElem?_toArray, List.getElem?_cons_succ, List.getElem?_cons_zero] <;> rfl) (by rfl) (by kernel_rfl) (by kernel_rfl) (by kernel_rfl) (fun _ _ _ h => h) (by rfl) ?_ ?_
  rotate_left
  · ((intro u); go_simp; try with_reducible rfl)
  try simp only [Act.put, List.setIfInBounds_toArray, List.set_cons_zero, List.set_cons_succ]
  refine wb_take (i := 2) (d := some 17) (v := ?_) (by simp only [List.getElem?_toArray, List.getElem?_cons_succ, List.getElem?_cons_zero] <;> rfl) (by rfl) (by kernel_rfl) (by kernel_rfl) (by kernel_rfl) (fun _ _ _ h => h) (by rfl) (by kernel_rfl) ?_ ?_
  rotate_left
  · ((intro u hu); have ka := hA.kb hu (List.mem_singleton.2 rfl); have a0 := ka.cell (i := 0) (v := .string ⟨x.node.toArray⟩) rfl; have a1 := ka.cell (i := 1) (v := .int .i64 x.hour) rfl; have a12 := ka.cell (i := 12) (v := .int .i64 x.pk) rfl; have a13 := ka.cell (i := 13) (v := .int .i64 x.by_) rfl; have l1 := ka.ldAt rowFl 3 (flC x.fl) [.int .i64 x.pk, .int .i64 x.by_] rfl rfl; clear ka; go_simp; try with_reducible rfl)
  try simp only [Act.put, List.setIfInBounds_toArray, List.set_cons_zero, List.set_cons_succ]
  refine wb_pure (i := 4) (d := some 19) (v := ?_) (by simp only [List.getElem?_toArray, List.getElem?_cons_succ, List.getElem?_cons_zero] <;> rfl) (by rfl) (by kernel_rfl) (by kernel_rfl) (by kernel_rfl) (fun _ _ _ h => h) (by rfl) ?_ ?_
  rotate_left
  · ((intro u); go_simp; try with_reducible rfl)
  try simp only [Act.put, List.setIfInBounds_toArray, List.set_cons_zero, List.set_cons_succ]
  refine wb_take (i := 5) (d := some 20) (v := ?_) (by simp only [List.getElem?_toArray, List.getElem?_cons_succ, List.getElem?_cons_zero] <;> rfl) (by rfl) (by kernel_rfl) (by kernel_rfl) (by kernel_rfl) (fun _ _ _ h => h) (by rfl) (by kernel_rfl) ?_ ?_
  rotate_left
  · ((intro u hu); have ka := hA.kb hu (List.mem_singleton.2 rfl); have a0 := ka.cell (i := 0) (v := .string ⟨x.node.toArray⟩) rfl; have a1 := ka.cell (i := 1) (v := .int .i64 x.hour) rfl; have a12 := ka.cell (i := 12) (v := .int .i64 x.pk) rfl; have a13 := ka.cell (i := 13) (v := .int .i64 x.by_) rfl; have l1 := ka.ldAt rowFl 3 (flC x.fl) [.int .i64 x.pk, .int .i64 x.by_] rfl rfl; clear ka; go_simp; try with_reducible rfl)
  try simp only [Act.put, List.setIfInBounds_toArray, List.set_cons_zero, List.set_cons_succ]
  refine wb_one (i := 3) (by simp only [List.getElem?_toArray, List.getElem?_cons_succ, List.getElem?_cons_zero] <;> rfl) (by kernel_rfl) (by rfl) (fun K hK => ?_)
  go_simp
  refine (C4.out _).mono ?_
  rintro e u3 ⟨rfl, rfl⟩
  refine hK _ _ (Kb.refl _ _) ?_
  clear hK K
  try simp only [Act.put, List.setIfInBounds_toArray, List.set_cons_zero, List.set_cons_succ]
  refine wb_one (i := 6) (by simp only [List.getElem?_toArray, List.getElem?_cons_succ, List.getElem?_cons_zero] <;> rfl) (by kernel_rfl) (by rfl) (fun K hK => ?_)
  go_simp
  refine (C5.out _).mono ?_
  rintro e u6 ⟨rfl, rfl⟩
  refine hK _ _ (Kb.refl _ _) ?_
  clear hK K
  try simp only [Act.put, List.setIfInBounds_toArray, List.set_cons_zero, List.set_cons_succ]
  refine wb_one (i := 7) (by simp only [List.getElem?_toArray, List.getElem?_cons_succ, List.getElem?_cons_zero] <;> rfl) (by kernel_rfl) (by rfl) (fun K hK => ?_)
  go_simp
  refine hK _ _ (Kb.gb (World.grownBy_alloc _ _ none) (by intro q hq; rw [List.mem_singleton.1 hq]; exact ⟨hA.lt, by simp⟩)) ?_
  refine wb_new (cs := [Z, z4, z5].map (Value.int .i64)) (t := 39) (fun u91 hv3 hL3 hz3 => ?_)
  replace hA := hA.below hv3
  replace hbw := hbw.trans (hv3.mono hbw.size)
  clear hK K hv3 hz3
  try simp only [Act.put, List.setIfInBounds_toArray, List.set_cons_zero, List.set_cons_succ]
  refine wb_one (i := 8) (by simp only [List.getElem?_toArray, List.getElem?_cons_succ, List.getElem?_cons_zero] <;> rfl) (by kernel_rfl) (by rfl) (fun K hK => ?_)
  go_simp
  refine (orF_blk [Z, z4, z5] _ _ _ _ hL3 (by simp)).mono ?_
  rintro e w' ⟨rfl, rfl⟩
  refine hK _ _ (Kb.refl _ _) ?_
  clear hK K hL3
  try simp only [Act.put, List.setIfInBounds_toArray, List.set_cons_zero, List.set_cons_succ]
  refine wb_pure (i := 9) (d := some 2) (v := ?_) (by simp only [List.getElem?_toArray, List.getElem?_cons_succ, List.getElem?_cons_zero] <;> rfl) (by rfl) (by kernel_rfl) (by kernel_rfl) (by kernel_rfl) (fun _ _ _ h => h) (by rfl) ?_ ?_
  rotate_left
  · ((intro u); go_simp; try with_reducible rfl)
  try simp only [Act.put, List.setIfInBounds_toArray, List.set_cons_zero, List.set_cons_succ]
  refine wb_done (by kernel_rfl) ?_ _
  skip
  go_wp2_with fail
  go_ret
  exact ⟨ret_i64 HR.out, hbw⟩
end Go.Proofs.YtilgjgdppfnefaaGreatDoor
