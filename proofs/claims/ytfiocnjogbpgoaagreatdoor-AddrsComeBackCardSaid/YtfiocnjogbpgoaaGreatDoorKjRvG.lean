/- A patch of nothing. -/
import Derived.Test.YtfiocnjogbpgoaaGreatDoorKjRvF
namespace Go.Proofs.YtfiocnjogbpgoaaGreatDoor
open Go.RowKit
set_option linter.unusedVariables false
set_option linter.unusedSimpArgs false

set_option maxHeartbeats 4000000 in
set_option maxRecDepth 100000 in
theorem checkPatchNil_any (w : World) : Calls Tryz.prog 91 #[.agg (paC (.slice none 0 0)).toArray] w (GivesV (.int .i64 0) w) := by
  have hX := Blk.new w (paC (.slice none 0 0)) 104
  have hbw : Below w.heap.size w (w.alloc (.cells (paC (.slice none 0 0)).toArray 104)) := (Below.refl _ _).alloc (Nat.le_refl _) _
  go_enter Tryz.func91, Tryz.ntmps91
  go_upto_region 1 with fail
  refine wb_begin ([w.heap.size]) [] (by kernel_rfl) (fun u0 hb0' hz0' => ?_)
  replace hX := hX.below hb0'
  replace hbw := hbw.trans (hb0'.mono hbw.size)
  clear hb0' hz0'
  refine wb_pure (i := 0) (d := some 9) (v := ?_) (by simp only [List.getElem?_toArray, List.getElem?_cons_succ, List.getElem?_cons_zero] <;> rfl) (by rfl) (by kernel_rfl) (by kernel_rfl) (by kernel_rfl) (fun _ _ _ h => h) (by rfl) ?_ ?_
  rotate_left
  · ((intro u); go_simp; try with_reducible rfl)
  try simp only [Act.put, List.setIfInBounds_toArray, List.set_cons_zero, List.set_cons_succ]
  refine wb_take (i := 1) (d := some 10) (v := ?_) (by simp only [List.getElem?_toArray, List.getElem?_cons_succ, List.getElem?_cons_zero] <;> rfl) (by rfl) (by kernel_rfl) (by kernel_rfl) (by kernel_rfl) (fun _ _ _ h => h) (by rfl) (by kernel_rfl) ?_ ?_
  rotate_left
  · ((intro u hu); have ka := hX.kb hu (by simp); have a0 := ka.cell (i := 0) rfl; have a1 := ka.cell (i := 1) rfl; clear ka; go_simp; try with_reducible rfl)
  try simp only [Act.put, List.setIfInBounds_toArray, List.set_cons_zero, List.set_cons_succ]
  refine wb_pure (i := 3) (d := some 12) (v := ?_) (by simp only [List.getElem?_toArray, List.getElem?_cons_succ, List.getElem?_cons_zero] <;> rfl) (by rfl) (by kernel_rfl) (by kernel_rfl) (by kernel_rfl) (fun _ _ _ h => h) (by rfl) ?_ ?_
  rotate_left
  · ((intro u); go_simp; try with_reducible rfl)
  try simp only [Act.put, List.setIfInBounds_toArray, List.set_cons_zero, List.set_cons_succ]
  refine wb_take (i := 4) (d := some 13) (v := ?_) (by simp only [List.getElem?_toArray, List.getElem?_cons_succ, List.getElem?_cons_zero] <;> rfl) (by rfl) (by kernel_rfl) (by kernel_rfl) (by kernel_rfl) (fun _ _ _ h => h) (by rfl) (by kernel_rfl) ?_ ?_
  rotate_left
  · ((intro u hu); have ka := hX.kb hu (by simp); have a0 := ka.cell (i := 0) rfl; have a1 := ka.cell (i := 1) rfl; clear ka; go_simp; try with_reducible rfl)
  try simp only [Act.put, List.setIfInBounds_toArray, List.set_cons_zero, List.set_cons_succ]
  refine wb_one (i := 2) (by simp only [List.getElem?_toArray, List.getElem?_cons_succ, List.getElem?_cons_zero] <;> rfl) (by kernel_rfl) (by rfl) (fun K hK => ?_)
  go_simp
  refine (risingNilSt_any _ _ _ _ _ _ _ _ _ (by decide)).mono ?_
  rintro e wq2 ⟨rfl, rfl⟩
  refine hK _ _ (Kb.refl _ _) ?_
  clear hK K
  try simp only [Act.put, List.setIfInBounds_toArray, List.set_cons_zero, List.set_cons_succ]
  refine wb_one (i := 5) (by simp only [List.getElem?_toArray, List.getElem?_cons_succ, List.getElem?_cons_zero] <;> rfl) (by kernel_rfl) (by rfl) (fun K hK => ?_)
  go_simp
  refine (checkPeersNil_any _).mono ?_
  rintro e wq5 ⟨rfl, hq5⟩
  refine hK _ _ (Kb.below hq5 (allIn1 hX.lt)) ?_
  replace hq5 := hq5
  replace hX := hX.below hq5
  replace hbw := hbw.trans (hq5.mono hbw.size)
  clear hK K hq5
  try simp only [Act.put, List.setIfInBounds_toArray, List.set_cons_zero, List.set_cons_succ]
  refine wb_one (i := 6) (by simp only [List.getElem?_toArray, List.getElem?_cons_succ, List.getElem?_cons_zero] <;> rfl) (by kernel_rfl) (by rfl) (fun K hK => ?_)
  go_simp
  refine hK _ _ (Kb.gb (World.grownBy_alloc _ _ none) (allIn1 ⟨hX.lt, by simp⟩)) ?_
  refine wb_new (cs := ([0, 0] : List Int).map (Value.int .i64)) (t := 33) (fun u91 hv3 hL3 hz3 => ?_)
  replace hX := hX.below hv3
  replace hbw := hbw.trans (hv3.mono hbw.size)
  clear hK K hv3 hz3
  try simp only [Act.put, List.setIfInBounds_toArray, List.set_cons_zero, List.set_cons_succ]
  refine wb_one (i := 7) (by simp only [List.getElem?_toArray, List.getElem?_cons_succ, List.getElem?_cons_zero] <;> rfl) (by kernel_rfl) (by rfl) (fun K hK => ?_)
  go_simp
  refine (orU_blk [0, 0] _ _ _ _ hL3 (by decide)).mono ?_
  rintro e w' ⟨rfl, rfl⟩
  refine hK _ _ (Kb.refl _ _) ?_
  clear hK K hL3
  try simp only [Act.put, List.setIfInBounds_toArray, List.set_cons_zero, List.set_cons_succ]
  refine wb_pure (i := 8) (d := some 3) (v := ?_) (by simp only [List.getElem?_toArray, List.getElem?_cons_succ, List.getElem?_cons_zero] <;> rfl) (by rfl) (by kernel_rfl) (by kernel_rfl) (by kernel_rfl) (fun _ _ _ h => h) (by rfl) ?_ ?_
  rotate_left
  · ((intro u); go_simp; try with_reducible rfl)
  try simp only [Act.put, List.setIfInBounds_toArray, List.set_cons_zero, List.set_cons_succ]
  refine wb_done (by kernel_rfl) ?_ _
  skip
  have b0 := hX.cell (i := 0) rfl
  have b1 := hX.cell (i := 1) rfl
  go_wp2_with fail
  refine (byKeysNil_any _).mono ?_
  rintro e w2 ⟨rfl, rfl⟩
  have hM : (u91.alloc (.map #[] 0)).heap[u91.heap.size]? = some (.map #[] 0) := (MapKept.heap_alloc u91 _).1
  have hz1 : (u91.alloc (.map #[] 0)).heap.size = u91.heap.size + 1 := by simp
  obtain ⟨w1, hw1⟩ : ∃ x, x = u91.alloc (.map #[] 0) := ⟨_, rfl⟩
  have hX1 : Blk w1 w.heap.size (paC (.slice none 0 0)) 104 := by rw [hw1]; exact hX.alloc _
  have hb1 : Below w.heap.size w w1 := by rw [hw1]; exact hbw.alloc hbw.size _
  rw [← hw1] at hM hz1 ⊢
  clear hw1 hX hbw b0 b1
  have b0 := hX1.cell (i := 0) rfl
  go_wp2_with fail
  refine wp_loop_rounds 1 ?_
  rw [rounds_succ]
  go_wp2_with fail
  have hX := hX1
  have hbw := hb1
  clear hX1 hb1 hM hz1 b0
  refine wb_begin ([w.heap.size]) [] (by kernel_rfl) (fun u0 hb0' hz0' => ?_)
  replace hX := hX.below hb0'
  replace hbw := hbw.trans (hb0'.mono hbw.size)
  clear hb0' hz0'
  refine wb_pure (i := 0) (d := some 38) (v := ?_) (by simp only [List.getElem?_toArray, List.getElem?_cons_succ, List.getElem?_cons_zero] <;> rfl) (by rfl) (by kernel_rfl) (by kernel_rfl) (by kernel_rfl) (fun _ _ _ h => h) (by rfl) ?_ ?_
  rotate_left
  · ((intro u); go_simp; try with_reducible rfl)
  try simp only [Act.put, List.setIfInBounds_toArray, List.set_cons_zero, List.set_cons_succ]
  refine wb_take (i := 1) (d := some 39) (v := ?_) (by simp only [List.getElem?_toArray, List.getElem?_cons_succ, List.getElem?_cons_zero] <;> rfl) (by rfl) (by kernel_rfl) (by kernel_rfl) (by kernel_rfl) (fun _ _ _ h => h) (by rfl) (by kernel_rfl) ?_ ?_
  rotate_left
  · ((intro u hu); have ka := hX.kb hu (by simp); have a2 := ka.cell (i := 2) rfl; have a3 := ka.cell (i := 3) rfl; have a4 := ka.cell (i := 4) rfl; have a5 := ka.cell (i := 5) rfl; have a6 := ka.cell (i := 6) rfl; have a7 := ka.cell (i := 7) rfl; have a8 := ka.cell (i := 8) rfl; have a9 := ka.cell (i := 9) rfl; have a10 := ka.cell (i := 10) rfl; have a11 := ka.cell (i := 11) rfl; have a12 := ka.cell (i := 12) rfl; clear ka; go_simp; try with_reducible rfl)
  try simp only [Act.put, List.setIfInBounds_toArray, List.set_cons_zero, List.set_cons_succ]
  refine wb_pure (i := 2) (d := some 40) (v := ?_) (by simp only [List.getElem?_toArray, List.getElem?_cons_succ, List.getElem?_cons_zero] <;> rfl) (by rfl) (by kernel_rfl) (by kernel_rfl) (by kernel_rfl) (fun _ _ _ h => h) (by rfl) ?_ ?_
  rotate_left
  · ((intro u); go_simp; try with_reducible rfl)
  try simp only [Act.put, List.setIfInBounds_toArray, List.set_cons_zero, List.set_cons_succ]
  refine wb_take (i := 3) (d := some 41) (v := ?_) (by simp only [List.getElem?_toArray, List.getElem?_cons_succ, List.getElem?_cons_zero] <;> rfl) (by rfl) (by kernel_rfl) (by kernel_rfl) (by kernel_rfl) (fun _ _ _ h => h) (by rfl) (by kernel_rfl) ?_ ?_
  rotate_left
  · ((intro u hu); have ka := hX.kb hu (by simp); have a2 := ka.cell (i := 2) rfl; have a3 := ka.cell (i := 3) rfl; have a4 := ka.cell (i := 4) rfl; have a5 := ka.cell (i := 5) rfl; have a6 := ka.cell (i := 6) rfl; have a7 := ka.cell (i := 7) rfl; have a8 := ka.cell (i := 8) rfl; have a9 := ka.cell (i := 9) rfl; have a10 := ka.cell (i := 10) rfl; have a11 := ka.cell (i := 11) rfl; have a12 := ka.cell (i := 12) rfl; clear ka; go_simp; try with_reducible rfl)
  try simp only [Act.put, List.setIfInBounds_toArray, List.set_cons_zero, List.set_cons_succ]
  refine wb_pure (i := 5) (d := some 43) (v := ?_) (by simp only [List.getElem?_toArray, List.getElem?_cons_succ, List.getElem?_cons_zero] <;> rfl) (by rfl) (by kernel_rfl) (by kernel_rfl) (by kernel_rfl) (fun _ _ _ h => h) (by rfl) ?_ ?_
  rotate_left
  · ((intro u); go_simp; try with_reducible rfl)
  try simp only [Act.put, List.setIfInBounds_toArray, List.set_cons_zero, List.set_cons_succ]
  refine wb_take (i := 6) (d := some 44) (v := ?_) (by simp only [List.getElem?_toArray, List.getElem?_cons_succ, List.getElem?_cons_zero] <;> rfl) (by rfl) (by kernel_rfl) (by kernel_rfl) (by kernel_rfl) (fun _ _ _ h => h) (by rfl) (by kernel_rfl) ?_ ?_
  rotate_left
  · ((intro u hu); have ka := hX.kb hu (by simp); have a2 := ka.cell (i := 2) rfl; have a3 := ka.cell (i := 3) rfl; have a4 := ka.cell (i := 4) rfl; have a5 := ka.cell (i := 5) rfl; have a6 := ka.cell (i := 6) rfl; have a7 := ka.cell (i := 7) rfl; have a8 := ka.cell (i := 8) rfl; have a9 := ka.cell (i := 9) rfl; have a10 := ka.cell (i := 10) rfl; have a11 := ka.cell (i := 11) rfl; have a12 := ka.cell (i := 12) rfl; clear ka; go_simp; try with_reducible rfl)
  try simp only [Act.put, List.setIfInBounds_toArray, List.set_cons_zero, List.set_cons_succ]
  refine wb_pure (i := 7) (d := some 45) (v := ?_) (by simp only [List.getElem?_toArray, List.getElem?_cons_succ, List.getElem?_cons_zero] <;> rfl) (by rfl) (by kernel_rfl) (by kernel_rfl) (by kernel_rfl) (fun _ _ _ h => h) (by rfl) ?_ ?_
  rotate_left
  · ((intro u); go_simp; try with_reducible rfl)
  try simp only [Act.put, List.setIfInBounds_toArray, List.set_cons_zero, List.set_cons_succ]
  refine wb_pure (i := 10) (d := some 48) (v := ?_) (by simp only [List.getElem?_toArray, List.getElem?_cons_succ, List.getElem?_cons_zero] <;> rfl) (by rfl) (by kernel_rfl) (by kernel_rfl) (by kernel_rfl) (fun _ _ _ h => h) (by rfl) ?_ ?_
  rotate_left
  · ((intro u); go_simp; try with_reducible rfl)
  try simp only [Act.put, List.setIfInBounds_toArray, List.set_cons_zero, List.set_cons_succ]
  refine wb_take (i := 11) (d := some 49) (v := ?_) (by simp only [List.getElem?_toArray, List.getElem?_cons_succ, List.getElem?_cons_zero] <;> rfl) (by rfl) (by kernel_rfl) (by kernel_rfl) (by kernel_rfl) (fun _ _ _ h => h) (by rfl) (by kernel_rfl) ?_ ?_
  rotate_left
  · ((intro u hu); have ka := hX.kb hu (by simp); have a2 := ka.cell (i := 2) rfl; have a3 := ka.cell (i := 3) rfl; have a4 := ka.cell (i := 4) rfl; have a5 := ka.cell (i := 5) rfl; have a6 := ka.cell (i := 6) rfl; have a7 := ka.cell (i := 7) rfl; have a8 := ka.cell (i := 8) rfl; have a9 := ka.cell (i := 9) rfl; have a10 := ka.cell (i := 10) rfl; have a11 := ka.cell (i := 11) rfl; have a12 := ka.cell (i := 12) rfl; clear ka; go_simp; try with_reducible rfl)
  try simp only [Act.put, List.setIfInBounds_toArray, List.set_cons_zero, List.set_cons_succ]
  refine wb_pure (i := 12) (d := some 50) (v := ?_) (by simp only [List.getElem?_toArray, List.getElem?_cons_succ, List.getElem?_cons_zero] <;> rfl) (by rfl) (by kernel_rfl) (by kernel_rfl) (by kernel_rfl) (fun _ _ _ h => h) (by rfl) ?_ ?_
  rotate_left
  · ((intro u); go_simp; try with_reducible rfl)
  try simp only [Act.put, List.setIfInBounds_toArray, List.set_cons_zero, List.set_cons_succ]
  refine wb_take (i := 13) (d := some 51) (v := ?_) (by simp only [List.getElem?_toArray, List.getElem?_cons_succ, List.getElem?_cons_zero] <;> rfl) (by rfl) (by kernel_rfl) (by kernel_rfl) (by kernel_rfl) (fun _ _ _ h => h) (by rfl) (by kernel_rfl) ?_ ?_
  rotate_left
  · ((intro u hu); have ka := hX.kb hu (by simp); have a2 := ka.cell (i := 2) rfl; have a3 := ka.cell (i := 3) rfl; have a4 := ka.cell (i := 4) rfl; have a5 := ka.cell (i := 5) rfl; have a6 := ka.cell (i := 6) rfl; have a7 := ka.cell (i := 7) rfl; have a8 := ka.cell (i := 8) rfl; have a9 := ka.cell (i := 9) rfl; have a10 := ka.cell (i := 10) rfl; have a11 := ka.cell (i := 11) rfl; have a12 := ka.cell (i := 12) rfl; clear ka; go_simp; try with_reducible rfl)
  try simp only [Act.put, List.setIfInBounds_toArray, List.set_cons_zero, List.set_cons_succ]
  refine wb_pure (i := 15) (d := some 53) (v := ?_) (by simp only [List.getElem?_toArray, List.getElem?_cons_succ, List.getElem?_cons_zero] <;> rfl) (by rfl) (by kernel_rfl) (by kernel_rfl) (by kernel_rfl) (fun _ _ _ h => h) (by rfl) ?_ ?_
  rotate_left
  · ((intro u); go_simp; try with_reducible rfl)
  try simp only [Act.put, List.setIfInBounds_toArray, List.set_cons_zero, List.set_cons_succ]
  refine wb_take (i := 16) (d := some 54) (v := ?_) (by simp only [List.getElem?_toArray, List.getElem?_cons_succ, List.getElem?_cons_zero] <;> rfl) (by rfl) (by kernel_rfl) (by kernel_rfl) (by kernel_rfl) (fun _ _ _ h => h) (by rfl) (by kernel_rfl) ?_ ?_
  rotate_left
  · ((intro u hu); have ka := hX.kb hu (by simp); have a2 := ka.cell (i := 2) rfl; have a3 := ka.cell (i := 3) rfl; have a4 := ka.cell (i := 4) rfl; have a5 := ka.cell (i := 5) rfl; have a6 := ka.cell (i := 6) rfl; have a7 := ka.cell (i := 7) rfl; have a8 := ka.cell (i := 8) rfl; have a9 := ka.cell (i := 9) rfl; have a10 := ka.cell (i := 10) rfl; have a11 := ka.cell (i := 11) rfl; have a12 := ka.cell (i := 12) rfl; clear ka; go_simp; try with_reducible rfl)
  try simp only [Act.put, List.setIfInBounds_toArray, List.set_cons_zero, List.set_cons_succ]
  refine wb_pure (i := 17) (d := some 55) (v := ?_) (by simp only [List.getElem?_toArray, List.getElem?_cons_succ, List.getElem?_cons_zero] <;> rfl) (by rfl) (by kernel_rfl) (by kernel_rfl) (by kernel_rfl) (fun _ _ _ h => h) (by rfl) ?_ ?_
  rotate_left
  · ((intro u); go_simp; try with_reducible rfl)
  try simp only [Act.put, List.setIfInBounds_toArray, List.set_cons_zero, List.set_cons_succ]
  refine wb_pure (i := 18) (d := some 56) (v := ?_) (by simp only [List.getElem?_toArray, List.getElem?_cons_succ, List.getElem?_cons_zero] <;> rfl) (by rfl) (by kernel_rfl) (by kernel_rfl) (by kernel_rfl) (fun _ _ _ h => h) (by rfl) ?_ ?_
  rotate_left
  · ((intro u); go_simp; try with_reducible rfl)
  try simp only [Act.put, List.setIfInBounds_toArray, List.set_cons_zero, List.set_cons_succ]
  refine wb_pure (i := 20) (d := some 58) (v := ?_) (by simp only [List.getElem?_toArray, List.getElem?_cons_succ, List.getElem?_cons_zero] <;> rfl) (by rfl) (by kernel_rfl) (by kernel_rfl) (by kernel_rfl) (fun _ _ _ h => h) (by rfl) ?_ ?_
  rotate_left
  · ((intro u); go_simp; try with_reducible rfl)
  try simp only [Act.put, List.setIfInBounds_toArray, List.set_cons_zero, List.set_cons_succ]
  refine wb_take (i := 21) (d := some 59) (v := ?_) (by simp only [List.getElem?_toArray, List.getElem?_cons_succ, List.getElem?_cons_zero] <;> rfl) (by rfl) (by kernel_rfl) (by kernel_rfl) (by kernel_rfl) (fun _ _ _ h => h) (by rfl) (by kernel_rfl) ?_ ?_
  rotate_left
  · ((intro u hu); have ka := hX.kb hu (by simp); have a2 := ka.cell (i := 2) rfl; have a3 := ka.cell (i := 3) rfl; have a4 := ka.cell (i := 4) rfl; have a5 := ka.cell (i := 5) rfl; have a6 := ka.cell (i := 6) rfl; have a7 := ka.cell (i := 7) rfl; have a8 := ka.cell (i := 8) rfl; have a9 := ka.cell (i := 9) rfl; have a10 := ka.cell (i := 10) rfl; have a11 := ka.cell (i := 11) rfl; have a12 := ka.cell (i := 12) rfl; clear ka; go_simp; try with_reducible rfl)
  try simp only [Act.put, List.setIfInBounds_toArray, List.set_cons_zero, List.set_cons_succ]
  refine wb_pure (i := 22) (d := some 60) (v := ?_) (by simp only [List.getElem?_toArray, List.getElem?_cons_succ, List.getElem?_cons_zero] <;> rfl) (by rfl) (by kernel_rfl) (by kernel_rfl) (by kernel_rfl) (fun _ _ _ h => h) (by rfl) ?_ ?_
  rotate_left
  · ((intro u); go_simp; try with_reducible rfl)
  try simp only [Act.put, List.setIfInBounds_toArray, List.set_cons_zero, List.set_cons_succ]
  refine wb_take (i := 23) (d := some 61) (v := ?_) (by simp only [List.getElem?_toArray, List.getElem?_cons_succ, List.getElem?_cons_zero] <;> rfl) (by rfl) (by kernel_rfl) (by kernel_rfl) (by kernel_rfl) (fun _ _ _ h => h) (by rfl) (by kernel_rfl) ?_ ?_
  rotate_left
  · ((intro u hu); have ka := hX.kb hu (by simp); have a2 := ka.cell (i := 2) rfl; have a3 := ka.cell (i := 3) rfl; have a4 := ka.cell (i := 4) rfl; have a5 := ka.cell (i := 5) rfl; have a6 := ka.cell (i := 6) rfl; have a7 := ka.cell (i := 7) rfl; have a8 := ka.cell (i := 8) rfl; have a9 := ka.cell (i := 9) rfl; have a10 := ka.cell (i := 10) rfl; have a11 := ka.cell (i := 11) rfl; have a12 := ka.cell (i := 12) rfl; clear ka; go_simp; try with_reducible rfl)
  try simp only [Act.put, List.setIfInBounds_toArray, List.set_cons_zero, List.set_cons_succ]
  refine wb_pure (i := 25) (d := some 63) (v := ?_) (by simp only [List.getElem?_toArray, List.getElem?_cons_succ, List.getElem?_cons_zero] <;> rfl) (by rfl) (by kernel_rfl) (by kernel_rfl) (by kernel_rfl) (fun _ _ _ h => h) (by rfl) ?_ ?_
  rotate_left
  · ((intro u); go_simp; try with_reducible rfl)
  try simp only [Act.put, List.setIfInBounds_toArray, List.set_cons_zero, List.set_cons_succ]
  refine wb_take (i := 26) (d := some 64) (v := ?_) (by simp only [List.getElem?_toArray, List.getElem?_cons_succ, List.getElem?_cons_zero] <;> rfl) (by rfl) (by kernel_rfl) (by kernel_rfl) (by kernel_rfl) (fun _ _ _ h => h) (by rfl) (by kernel_rfl) ?_ ?_
  rotate_left
  · ((intro u hu); have ka := hX.kb hu (by simp); have a2 := ka.cell (i := 2) rfl; have a3 := ka.cell (i := 3) rfl; have a4 := ka.cell (i := 4) rfl; have a5 := ka.cell (i := 5) rfl; have a6 := ka.cell (i := 6) rfl; have a7 := ka.cell (i := 7) rfl; have a8 := ka.cell (i := 8) rfl; have a9 := ka.cell (i := 9) rfl; have a10 := ka.cell (i := 10) rfl; have a11 := ka.cell (i := 11) rfl; have a12 := ka.cell (i := 12) rfl; clear ka; go_simp; try with_reducible rfl)
  try simp only [Act.put, List.setIfInBounds_toArray, List.set_cons_zero, List.set_cons_succ]
  refine wb_pure (i := 27) (d := some 65) (v := ?_) (by simp only [List.getElem?_toArray, List.getElem?_cons_succ, List.getElem?_cons_zero] <;> rfl) (by rfl) (by kernel_rfl) (by kernel_rfl) (by kernel_rfl) (fun _ _ _ h => h) (by rfl) ?_ ?_
  rotate_left
  · ((intro u); go_simp; try with_reducible rfl)
  try simp only [Act.put, List.setIfInBounds_toArray, List.set_cons_zero, List.set_cons_succ]
  refine wb_one (i := 4) (by simp only [List.getElem?_toArray, List.getElem?_cons_succ, List.getElem?_cons_zero] <;> rfl) (by kernel_rfl) (by rfl) (fun K hK => ?_)
  go_simp
  refine (checkSelfZero_any _).mono ?_
  rintro e wq4 ⟨rfl, hq4⟩
  refine hK _ _ (Kb.below hq4 (allIn1 hX.lt)) ?_
  replace hq4 := hq4
  replace hX := hX.below hq4
  replace hbw := hbw.trans (hq4.mono hbw.size)
  clear hK K hq4
  try simp only [Act.put, List.setIfInBounds_toArray, List.set_cons_zero, List.set_cons_succ]
  refine wb_one (i := 8) (by simp only [List.getElem?_toArray, List.getElem?_cons_succ, List.getElem?_cons_zero] <;> rfl) (by kernel_rfl) (by rfl) (fun K hK => ?_)
  go_simp
  refine (sameNodeZero_any _).mono ?_
  rintro e wq8 ⟨rfl, hq8⟩
  refine hK _ _ (Kb.below hq8 (allIn1 hX.lt)) ?_
  replace hq8 := hq8
  replace hX := hX.below hq8
  replace hbw := hbw.trans (hq8.mono hbw.size)
  clear hK K hq8
  try simp only [Act.put, List.setIfInBounds_toArray, List.set_cons_zero, List.set_cons_succ]
  refine wb_one (i := 9) (by simp only [List.getElem?_toArray, List.getElem?_cons_succ, List.getElem?_cons_zero] <;> rfl) (by kernel_rfl) (by rfl) (fun K hK => ?_)
  go_simp
  refine (checkHadNo_any _ _).mono ?_
  rintro e wq9 ⟨rfl, rfl⟩
  refine hK _ _ (Kb.refl _ _) ?_
  clear hK K
  try simp only [Act.put, List.setIfInBounds_toArray, List.set_cons_zero, List.set_cons_succ]
  refine wb_one (i := 14) (by simp only [List.getElem?_toArray, List.getElem?_cons_succ, List.getElem?_cons_zero] <;> rfl) (by kernel_rfl) (by rfl) (fun K hK => ?_)
  go_simp
  refine (filterNil_any _).mono ?_
  rintro e wq14 ⟨rfl, hq14⟩
  refine hK _ _ (Kb.below hq14 (allIn1 hX.lt)) ?_
  replace hq14 := hq14
  replace hX := hX.below hq14
  replace hbw := hbw.trans (hq14.mono hbw.size)
  clear hK K hq14
  try simp only [Act.put, List.setIfInBounds_toArray, List.set_cons_zero, List.set_cons_succ]
  refine wb_one (i := 19) (by simp only [List.getElem?_toArray, List.getElem?_cons_succ, List.getElem?_cons_zero] <;> rfl) (by kernel_rfl) (by rfl) (fun K hK => ?_)
  go_simp
  refine (checkHadNo_any _ _).mono ?_
  rintro e wq19 ⟨rfl, rfl⟩
  refine hK _ _ (Kb.refl _ _) ?_
  clear hK K
  try simp only [Act.put, List.setIfInBounds_toArray, List.set_cons_zero, List.set_cons_succ]
  refine wb_one (i := 24) (by simp only [List.getElem?_toArray, List.getElem?_cons_succ, List.getElem?_cons_zero] <;> rfl) (by kernel_rfl) (by rfl) (fun K hK => ?_)
  go_simp
  refine (suffixEmpty_any _).mono ?_
  rintro e wq24 ⟨rfl, hq24⟩
  refine hK _ _ (Kb.below hq24 (allIn1 hX.lt)) ?_
  replace hq24 := hq24
  replace hX := hX.below hq24
  replace hbw := hbw.trans (hq24.mono hbw.size)
  clear hK K hq24
  try simp only [Act.put, List.setIfInBounds_toArray, List.set_cons_zero, List.set_cons_succ]
  refine wb_one (i := 28) (by simp only [List.getElem?_toArray, List.getElem?_cons_succ, List.getElem?_cons_zero] <;> rfl) (by kernel_rfl) (by rfl) (fun K hK => ?_)
  go_simp
  refine (checkHadNo_any _ _).mono ?_
  rintro e wq28 ⟨rfl, rfl⟩
  refine hK _ _ (Kb.refl _ _) ?_
  clear hK K
  try simp only [Act.put, List.setIfInBounds_toArray, List.set_cons_zero, List.set_cons_succ]
  refine wb_one (i := 29) (by simp only [List.getElem?_toArray, List.getElem?_cons_succ, List.getElem?_cons_zero] <;> rfl) (by kernel_rfl) (by rfl) (fun K hK => ?_)
  go_simp
  refine hK _ _ (Kb.gb (World.grownBy_alloc _ _ none) (allIn1 ⟨hX.lt, by simp⟩)) ?_
  refine wb_new (cs := ([0, 0, 0] : List Int).map (Value.int .i64)) (t := 33) (fun u91 hv3 hL3 hz3 => ?_)
  replace hX := hX.below hv3
  replace hbw := hbw.trans (hv3.mono hbw.size)
  clear hK K hv3 hz3
  try simp only [Act.put, List.setIfInBounds_toArray, List.set_cons_zero, List.set_cons_succ]
  refine wb_one (i := 30) (by simp only [List.getElem?_toArray, List.getElem?_cons_succ, List.getElem?_cons_zero] <;> rfl) (by kernel_rfl) (by rfl) (fun K hK => ?_)
  go_simp
  refine (orU_blk [0, 0, 0] _ _ _ _ hL3 (by decide)).mono ?_
  rintro e w' ⟨rfl, rfl⟩
  refine hK _ _ (Kb.refl _ _) ?_
  clear hK K hL3
  try simp only [Act.put, List.setIfInBounds_toArray, List.set_cons_zero, List.set_cons_succ]
  refine wb_pure (i := 31) (d := some 2) (v := ?_) (by simp only [List.getElem?_toArray, List.getElem?_cons_succ, List.getElem?_cons_zero] <;> rfl) (by rfl) (by kernel_rfl) (by kernel_rfl) (by kernel_rfl) (fun _ _ _ h => h) (by rfl) ?_ ?_
  rotate_left
  · ((intro u); go_simp; try with_reducible rfl)
  try simp only [Act.put, List.setIfInBounds_toArray, List.set_cons_zero, List.set_cons_succ]
  refine wb_done (by kernel_rfl) ?_ _
  skip
  go_wp2_with fail
  go_ret
  exact ⟨rfl, hbw⟩
end Go.Proofs.YtfiocnjogbpgoaaGreatDoor
