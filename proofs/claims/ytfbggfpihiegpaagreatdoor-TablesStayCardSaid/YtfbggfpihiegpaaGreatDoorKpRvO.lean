/- Two patches that are joined: one says that one is gone. -/
import Derived.Test.YtfbggfpihiegpaaGreatDoorKpGzA
import Derived.Test.YtfbggfpihiegpaaGreatDoorKpRvN
import Derived.Test.YtfbggfpihiegpaaGreatDoorKpRvL
import Derived.Test.YtfbggfpihiegpaaGreatDoorKpRuK
set_option linter.unusedVariables false
set_option linter.unusedSimpArgs false
set_option maxRecDepth 100000
namespace Go.Proofs.YtfbggfpihiegpaaGreatDoor
open Go.RowKit

set_option maxHeartbeats 4000000 in
theorem joinA_any (g : Nat) (w : World) (hG : Blk w g [.string ⟨#[97]⟩] 9) :
    Calls Tryz.prog 32 #[.agg (paC (.slice (some ⟨g, 0, none⟩) 1 1)).toArray, .agg (paC (.slice none 0 0)).toArray] w fun e w' => (∃ k c B cb F cf, e = .returned (.tuple #[.agg (paR k c B cb F cf).toArray, .int .i64 0])) ∧ Below w.heap.size w w' := by
  obtain ⟨w3, hw3⟩ : ∃ x, x = ((w.alloc (.cells (paC (.slice (some ⟨g, 0, none⟩) 1 1)).toArray 88)).alloc (.cells (paC (.slice none 0 0)).toArray 88)).alloc (.cells (paC (.slice none 0 0)).toArray 88) := ⟨_, rfl⟩
  have hP : Blk w3 w.heap.size (paC (.slice (some ⟨g, 0, none⟩) 1 1)) 88 := by rw [hw3]; exact ((Blk.new w _ _).alloc _).alloc _
  have hQ : Blk w3 (w.heap.size + 1) (paC (.slice none 0 0)) 88 := by
    have h := (Blk.new (w.alloc (.cells (paC (.slice (some ⟨g, 0, none⟩) 1 1)).toArray 88)) (paC (.slice none 0 0)) 88).alloc (.cells (paC (.slice none 0 0)).toArray 88)
    rw [World.size_alloc] at h; rw [hw3]; exact h
  have hR : Blk w3 (w.heap.size + 2) (paC (.slice none 0 0)) 88 := by
    have h := Blk.new ((w.alloc (.cells (paC (.slice (some ⟨g, 0, none⟩) 1 1)).toArray 88)).alloc (.cells (paC (.slice none 0 0)).toArray 88)) (paC (.slice none 0 0)) 88
    rw [World.size_alloc, World.size_alloc] at h; rw [hw3]; exact h
  have hbw : Below w.heap.size w w3 := by rw [hw3]; exact (((Below.refl _ _).alloc (Nat.le_refl _) _).alloc (by simp) _).alloc (by simp; omega) _
  replace hG := hG.below hbw
  go_enter Tryz.func32, Tryz.ntmps32
  go_upto_region 1 with fail
  rw [← hw3]
  clear hw3
  refine wb_begin ([w.heap.size, w.heap.size + 1]) [] (by kernel_rfl) (fun u0 hb0' hz0' => ?_)
  replace hP := hP.below hb0'
  replace hQ := hQ.below hb0'
  replace hR := hR.below hb0'
  replace hG := hG.below hb0'
  replace hbw := hbw.trans (hb0'.mono hbw.size)
  clear hb0' hz0'
  refine wb_takeZ 0 (some 7) (v := ?_) ?_ ?_; rotate_left; · (intro u hu; have ka := hP.kb hu (by simp); have kb := hQ.kb hu (by simp); have la := ka.ld rowPa rfl; have lb := kb.ld rowPa rfl; clear ka kb; go_simp; try with_reducible rfl)
  try simp only [Act.put, gzD, gzE, gzF]
  refine wb_takeZ 2 (some 9) (v := ?_) ?_ ?_; rotate_left; · (intro u hu; have ka := hP.kb hu (by simp); have kb := hQ.kb hu (by simp); have la := ka.ld rowPa rfl; have lb := kb.ld rowPa rfl; clear ka kb; go_simp; try with_reducible rfl)
  try simp only [Act.put, gzD, gzE, gzF]
  refine wb_oneZ 1 (fun K hK => ?_)
  go_simp
  refine (checkPatchA_any g _ hG).mono ?_
  rintro e u1 ⟨rfl, hb1⟩
  refine hK _ _ (Kb.below hb1 (by intro q hq; simp only [List.mem_cons, List.not_mem_nil, or_false] at hq; rcases hq with rfl | rfl <;> first | exact hP.lt | exact hQ.lt)) ?_
  clear hK K
  replace hP := hP.below hb1
  replace hQ := hQ.below hb1
  replace hR := hR.below hb1
  replace hG := hG.below hb1
  replace hbw := hbw.trans (hb1.mono hbw.size)
  clear hb1
  try simp only [Act.put, gzD, gzE, gzF]
  refine wb_oneZ 3 (fun K hK => ?_)
  go_simp
  refine (checkPatchNil_any _).mono ?_
  rintro e u3 ⟨rfl, hb3⟩
  refine hK _ _ (Kb.below hb3 (by intro q hq; simp only [List.mem_cons, List.not_mem_nil, or_false] at hq; rcases hq with rfl | rfl <;> first | exact hP.lt | exact hQ.lt)) ?_
  clear hK K
  replace hP := hP.below hb3
  replace hQ := hQ.below hb3
  replace hR := hR.below hb3
  replace hG := hG.below hb3
  replace hbw := hbw.trans (hb3.mono hbw.size)
  clear hb3
  try simp only [Act.put, gzD, gzE, gzF]
  refine wb_oneZ 4 (fun K hK => ?_)
  go_simp
  refine hK _ _ (Kb.gb (World.grownBy_alloc _ _ none) (by intro q hq; simp only [List.mem_cons, List.not_mem_nil, or_false] at hq; rcases hq with rfl | rfl <;> first | exact ⟨hP.lt, by simp⟩ | exact ⟨hQ.lt, by simp⟩)) ?_
  clear hK K
  refine wb_new (cs := ([0, 0] : List Int).map (Value.int .i64)) (fun u4 hv4 hL hz4 => ?_)
  replace hP := hP.below hv4
  replace hQ := hQ.below hv4
  replace hR := hR.below hv4
  replace hG := hG.below hv4
  replace hbw := hbw.trans (hv4.mono hbw.size)
  clear hv4 hz4
  try simp only [Act.put, gzD, gzE, gzF]
  refine wb_oneZ 5 (fun K hK => ?_)
  go_simp
  refine (orU_blk [0, 0] _ 2 _ _ hL (by decide)).mono ?_
  rintro e u5 ⟨rfl, rfl⟩
  refine hK _ _ (Kb.refl _ _) ?_
  clear hK K hL
  try simp only [Act.put, gzD, gzE, gzF]
  refine wb_pureZ 6 (some 6) (v := ?_) ?_ ?_; rotate_left; · (intro u; go_simp; try with_reducible rfl)
  try simp only [Act.put, gzD, gzE, gzF]
  refine wb_done (by kernel_rfl) ?_ _
  skip
  go_upto_region 4 with fail
  have la := hP.ld rowPa rfl
  have lb := hQ.ld rowPa rfl
  have HJ := joinedA_any g _ hG
  go_wp2_with fail
  refine HJ.mono ?_
  rintro e u9 ⟨⟨k, c, B, cb, F, cf, rfl⟩, hb9⟩
  replace hR := hR.below hb9
  replace hbw := hbw.trans (hb9.mono hbw.size)
  have s1 := stT_row rowPa hR (cs := paR k c B cb F cf) rfl rfl (oneAll rfl)
  clear la lb HJ hP hQ hG hb9
  go_wp2_with fail
  have z1 := hR.rowU (paR k c B cb F cf)
  have z2 := below_rowP hbw (show w.heap.size ≤ w.heap.size + 2 by omega) (paR k c B cb F cf).toArray
  exact bodyPost_ret (v := .tuple #[.agg (paR k c B cb F cf).toArray, .int .i64 0]) (results_cell_tmp_rowU rowPa rfl _ _ (w.heap.size + 2) _ (paR k c B cb F cf) _ rfl rfl z1 rfl) rfl ⟨⟨k, c, B, cb, F, cf, rfl⟩, z2⟩
end Go.Proofs.YtfbggfpihiegpaaGreatDoor
