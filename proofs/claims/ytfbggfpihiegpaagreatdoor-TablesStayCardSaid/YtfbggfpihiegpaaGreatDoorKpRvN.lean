/- One patch for two: one of them says that one is gone, the other says nothing. -/
import Derived.Test.YtfbggfpihiegpaaGreatDoorKpGzA
import Derived.Test.YtfbggfpihiegpaaGreatDoorKpRvM
set_option linter.unusedVariables false
set_option linter.unusedSimpArgs false
set_option maxRecDepth 100000
namespace Go.Proofs.YtfbggfpihiegpaaGreatDoor
open Go.RowKit

abbrev paR (k c : Nat) (B : Option Addr) (cb : Nat) (F : Option Addr) (cf : Nat) : List Value := [.slice (some ⟨k, 0, none⟩) 1 c, .slice B 0 cb, .bool false, .bool false, .bool false, .string ⟨#[]⟩, .string ⟨#[]⟩, .string ⟨#[]⟩, .slice none 0 0, .slice none 0 0, .slice none 0 0, .slice F 0 cf, .string ⟨#[]⟩]

set_option maxHeartbeats 4000000 in
theorem joinedA_any (g : Nat) (w : World) (hG : Blk w g [.string ⟨#[97]⟩] 9) :
    Calls Tryz.prog 60 #[.agg (paC (.slice (some ⟨g, 0, none⟩) 1 1)).toArray, .agg (paC (.slice none 0 0)).toArray] w fun e w' => (∃ k c B cb F cf, e = .returned (.agg (paR k c B cb F cf).toArray)) ∧ Below w.heap.size w w' := by
  obtain ⟨w3, hw3⟩ : ∃ x, x = ((w.alloc (.cells (paC (.slice (some ⟨g, 0, none⟩) 1 1)).toArray 88)).alloc (.cells (paC (.slice none 0 0)).toArray 88)).alloc (.cells (paC (.slice none 0 0)).toArray 88) := ⟨_, rfl⟩
  have hP : Blk w3 w.heap.size (paC (.slice (some ⟨g, 0, none⟩) 1 1)) 88 := by rw [hw3]; exact ((Blk.new w _ _).alloc _).alloc _
  have hQ : Blk w3 (w.heap.size + 1) (paC (.slice none 0 0)) 88 := by
    have h := (Blk.new (w.alloc (.cells (paC (.slice (some ⟨g, 0, none⟩) 1 1)).toArray 88)) (paC (.slice none 0 0)) 88).alloc (.cells (paC (.slice none 0 0)).toArray 88)
    rw [World.size_alloc] at h; rw [hw3]; exact h
  have hR : Blk w3 (w.heap.size + 1 + 1) (paC (.slice none 0 0)) 88 := by
    have h := Blk.new ((w.alloc (.cells (paC (.slice (some ⟨g, 0, none⟩) 1 1)).toArray 88)).alloc (.cells (paC (.slice none 0 0)).toArray 88)) (paC (.slice none 0 0)) 88
    rw [World.size_alloc, World.size_alloc] at h; rw [hw3]; exact h
  have hbw : Below w.heap.size w w3 := by rw [hw3]; exact (((Below.refl _ _).alloc (Nat.le_refl _) _).alloc (by simp) _).alloc (by simp; omega) _
  replace hG := hG.below hbw
  have hz3 : w3.heap.size = w.heap.size + 3 := by rw [hw3]; simp
  go_enter Tryz.func60, Tryz.ntmps60
  go_upto_region 1 with fail
  rw [← hw3]
  clear hw3
  go_upto_region 2 with fail
  obtain ⟨w4, hw4⟩ : ∃ x, x = (w3.alloc (.map #[] 0)).alloc (.cells #[.map (some (w.heap.size + 3))] 176) := ⟨_, rfl⟩
  have hT : Blk w4 (w.heap.size + 3 + 1) [.map (some (w.heap.size + 3))] 176 := by
    have h := Blk.new (w3.alloc (.map #[] 0)) [.map (some (w.heap.size + 3))] 176
    rw [World.size_alloc, hz3] at h
    rw [hw4]; exact h
  have hM : w4.heap[w.heap.size + 3]? = some (.map #[] 0) := by
    have h := (MapKept.heap_alloc w3 (.map #[] 0)).1
    rw [hz3] at h
    rw [hw4, Below.heap_alloc _ _ _ (by simp; omega)]
    exact h
  have hv4 : Below w3.heap.size w3 w4 := by rw [hw4]; exact ((Below.refl _ _).alloc (Nat.le_refl _) _).alloc (by simp) _
  replace hP := hP.below hv4
  replace hQ := hQ.below hv4
  replace hR := hR.below hv4
  replace hG := hG.below hv4
  replace hbw := hbw.trans (hv4.mono hbw.size)
  have hz4 : w.heap.size + 3 + 2 = w4.heap.size := by rw [hw4]; simp; omega
  rw [← hw4]
  clear hw4 hv4 hz3
  have q0 := hQ.cell (i := 0) rfl
  have q1 := hQ.cell (i := 1) rfl
  have p0 := hP.cell (i := 0) rfl
  have p1 := hP.cell (i := 1) rfl
  go_wp2_with fail
  refine wp_loop_rounds 1 ?_
  rw [rounds_succ]
  go_wp2_with fail
  refine wp_loop_rounds 1 ?_
  rw [rounds_succ]
  go_wp2_with fail
  have hgc : ∀ j, j < 1 → w4.cell? ⟨g, 0 + j, none⟩ = some (.string (([⟨#[97]⟩] : List ByteArray).getD j ByteArray.empty)) := fun j hj => by
    obtain rfl : j = 0 := by omega
    exact hG.cell rfl
  refine (Tryz.slices_Clone_string g 0 1 1 [⟨#[97]⟩] w4 (by decide) (by decide) hgc).mono ?_
  rintro e w5 ⟨v5, rfl, hown, hnn, hv5⟩
  replace hown : OwnE eStr 9 w4.heap.size w5 v5 [[97]] := hown
  obtain ⟨k1, c1, hv, hk1, hk2, hk3, hk4, hk5⟩ := hown.form (by simp)
  replace hv : v5 = .slice (some ⟨k1, 0, none⟩) 1 c1 := hv
  subst hv
  have hs1 : SlE eStr w5 (some ⟨k1, 0, none⟩) 1 c1 [[97]] := by
    obtain ⟨A, cap, hv, h⟩ := hown.sl
    cases hv
    exact h
  have x0 : w5.cell? ⟨k1, 0, none⟩ = some (.string ⟨#[97]⟩) := hk4 0 [97] rfl 0 _ rfl
  replace hP := hP.below hv5
  replace hQ := hQ.below hv5
  replace hR := hR.below hv5
  replace hT := hT.below hv5
  replace hM := (hv5.block _ (by omega)).trans hM
  replace hbw := hbw.trans (hv5.mono hbw.size)
  have hz5 := hv5.size
  clear hown hnn hk1 hk3 hk4 hk5 hgc hG q0 q1 p0 p1 hv5
  go_wp2_with fail
  refine (deleteC_any k1 _ _ _ _ x0 hk2 hT hM).mono ?_
  rintro e w6 ⟨rfl, rfl⟩
  have p1 := hP.cell (i := 1) rfl
  have lq := hQ.ld rowPa rfl
  clear x0 hk2
  go_wp2_with fail
  refine (cloneNilPe_any _).mono ?_
  rintro e w6 ⟨rfl, rfl⟩
  go_wp2_with fail
  refine (deleteNilPe_any _ _).mono ?_
  rintro e w6 ⟨rfl, rfl⟩
  clear hT hM
  have st := stT_new (te := 88) rowPa w5 w5.heap.size rfl (paC (.slice none 0 0)) (paC (.slice none 0 0)) rfl rfl (oneAll rfl)
  go_upto_region 15 with fail
  obtain ⟨w6, hw6⟩ : ∃ x, x = w5.alloc (.cells (paC (.slice none 0 0)).toArray 88) := ⟨_, rfl⟩
  obtain ⟨ob, hobe⟩ : ∃ x, x = w5.heap.size := ⟨_, rfl⟩
  have hO : Blk w6 ob (paC (.slice none 0 0)) 88 := by rw [hw6, hobe]; exact Blk.new _ _ _
  have hv6 : Below w5.heap.size w5 w6 := by rw [hw6]; exact (Below.refl _ _).alloc (Nat.le_refl _) _
  have hob := Lib.hid (show w.heap.size ≤ ob by omega)
  have hn0 := Lib.hid (show w.heap.size ≠ ob by omega)
  have hn1 := Lib.hid (show w.heap.size + 1 ≠ ob by omega)
  have hn2 := Lib.hid (show w.heap.size + 1 + 1 ≠ ob by omega)
  replace hP := hP.below hv6
  replace hQ := hQ.below hv6
  replace hR := hR.below hv6
  replace hs1 := hs1.below hv6
  replace hbw := hbw.trans (hv6.mono hbw.size)
  rw [← hw6, ← hobe]
  clear hw6 hobe hv6 hz5 hz4 p1 lq st
  refine wb_begin ([w.heap.size + 1]) [] (by kernel_rfl) (fun u0 hb0' hz0' => ?_)
  replace hP := hP.below hb0'
  replace hQ := hQ.below hb0'
  replace hR := hR.below hb0'
  replace hO := hO.below hb0'
  replace hbw := hbw.trans (hb0'.mono hbw.size)
  replace hs1 := hs1.below hb0'
  clear hb0' hz0'
  refine wb_pureZ 0 (some 46) (v := ?_) ?_ ?_; rotate_left; · (intro u; go_simp; try with_reducible rfl)
  try simp only [Act.put, gzD, gzE, gzF]
  refine wb_pureZ 1 (some 47) (v := ?_) ?_ ?_; rotate_left; · (intro u; go_simp; try with_reducible rfl)
  try simp only [Act.put, gzD, gzE, gzF]
  refine wb_takeZ 2 (some 48) (v := ?_) ?_ ?_; rotate_left; · (intro u hu; have ka := hQ.kb hu (List.mem_singleton.2 rfl); have a0 := ka.cell (i := 0) (v := .slice none 0 0) rfl; have a1 := ka.cell (i := 1) (v := .slice none 0 0) rfl; clear ka; go_simp; try with_reducible rfl)
  try simp only [Act.put, gzD, gzE, gzF]
  refine wb_pureZ 5 (some 51) (v := ?_) ?_ ?_; rotate_left; · (intro u; go_simp; try with_reducible rfl)
  try simp only [Act.put, gzD, gzE, gzF]
  refine wb_pureZ 6 (some 52) (v := ?_) ?_ ?_; rotate_left; · (intro u; go_simp; try with_reducible rfl)
  try simp only [Act.put, gzD, gzE, gzF]
  refine wb_takeZ 7 (some 53) (v := ?_) ?_ ?_; rotate_left; · (intro u hu; have ka := hQ.kb hu (List.mem_singleton.2 rfl); have a0 := ka.cell (i := 0) (v := .slice none 0 0) rfl; have a1 := ka.cell (i := 1) (v := .slice none 0 0) rfl; clear ka; go_simp; try with_reducible rfl)
  try simp only [Act.put, gzD, gzE, gzF]
  refine wb_two (i := 3) (k := 8) (by simp only [gzA, gzB, gzC] <;> rfl) (by simp only [gzA, gzB, gzC] <;> rfl) (by kernel_rfl) (by rfl) (by rfl) (fun K hK => ?_) (fun K hK => ?_)
  · go_simp
    refine hK _ _ (Kb.gb (World.grownBy_alloc _ _ none) (by intro q hq; rw [List.mem_singleton.1 hq]; exact ⟨hQ.lt, by simp⟩)) ?_
    clear hK K
    refine wb_new (cs := [.slice (some ⟨k1, 0, none⟩) 1 c1, .slice none 0 0]) (t := 81) (fun u3 hv3 hL3 hz3 => ?_)
    replace hP := hP.below hv3
    replace hQ := hQ.below hv3
    replace hR := hR.below hv3
    replace hO := hO.below hv3
    replace hbw := hbw.trans (hv3.mono hbw.size)
    try replace hs1 := hs1.below hv3
    try replace hL8 := hL8.below hv3
    clear hv3 hz3
    try simp only [Act.put, gzD, gzE, gzF]
    refine wb_two (i := 4) (k := 8) (by simp only [gzA, gzB, gzC] <;> rfl) (by simp only [gzA, gzB, gzC] <;> rfl) (by kernel_rfl) (by rfl) (by rfl) (fun K hK => ?_) (fun K hK => ?_)
    · go_simp
      refine (concatStr_any _ _ _ _ _ _ _ _ _ _ hL3 hs1 (SlE.nil _) (by decide) (by decide)).mono ?_
      rintro e u4 ⟨⟨v4, rfl, ho4⟩, hb4⟩
      obtain ⟨k4, c4, hv4, _⟩ := ho4.form (by simp)
      replace hv4 : v4 = .slice (some ⟨k4, 0, none⟩) 1 c4 := hv4
      subst hv4
      refine hK _ _ (Kb.below hb4 (by intro q hq; rw [List.mem_singleton.1 hq]; exact hQ.lt)) ?_
      clear hK K ho4
      replace hP := hP.below hb4
      replace hQ := hQ.below hb4
      replace hR := hR.below hb4
      replace hO := hO.below hb4
      replace hbw := hbw.trans (hb4.mono hbw.size)
      try replace hL8 := hL8.below hb4
      clear hb4 hL3 hs1
      try simp only [Act.put, gzD, gzE, gzF]
      refine wb_pureZ 11 (some 57) (v := ?_) ?_ ?_; rotate_left; · (intro u; go_simp; try with_reducible rfl)
      try simp only [Act.put, gzD, gzE, gzF]
      refine wb_oneZ 8 (fun K hK => ?_)
      go_simp
      refine hK _ _ (Kb.gb (World.grownBy_alloc _ _ none) (by intro q hq; rw [List.mem_singleton.1 hq]; exact ⟨hQ.lt, by simp⟩)) ?_
      clear hK K
      refine wb_new (cs := [.slice none 0 0, .slice none 0 0]) (t := 82) (fun u8 hv8 hL8 hz8 => ?_)
      replace hP := hP.below hv8
      replace hQ := hQ.below hv8
      replace hR := hR.below hv8
      replace hO := hO.below hv8
      replace hbw := hbw.trans (hv8.mono hbw.size)
      try replace hs1 := hs1.below hv8
      try replace hL3 := hL3.below hv8
      clear hv8 hz8
      try simp only [Act.put, gzD, gzE, gzF]
      refine wb_oneZ 9 (fun K hK => ?_)
      go_simp
      refine (concatNilPe_any _ _ hL8).mono ?_
      rintro e w9 ⟨rfl, rfl⟩
      refine hK _ _ (Kb.refl _ _) ?_
      clear hK K
      try simp only [Act.put, gzD, gzE, gzF]
      refine wb_oneZ 10 (fun K hK => ?_)
      go_simp
      refine (clonePeersNil_any _).mono ?_
      rintro e u10 ⟨⟨A10, c10, rfl⟩, hb10⟩
      refine hK _ _ (Kb.below hb10 (by intro q hq; rw [List.mem_singleton.1 hq]; exact hQ.lt)) ?_
      clear hK K
      replace hP := hP.below hb10
      replace hQ := hQ.below hb10
      replace hR := hR.below hb10
      replace hO := hO.below hb10
      replace hbw := hbw.trans (hb10.mono hbw.size)
      clear hb10 hL8
      try simp only [Act.put, gzD, gzE, gzF]
      refine wb_oneZ 12 (fun K hK => ?_)
      have c0 := hO.cell (i := 0) rfl
      have f0 := hO.free 0
      go_simp
      refine hK _ _ (Kb.setCell1 hn1.out _) ?_
      clear hK K c0 f0
      replace hbw := hbw.setCell (p := ⟨ob, 0, none⟩) hob.out (.slice (some ⟨k4, 0, none⟩) 1 c4)
      replace hO : Blk _ ob [.slice (some ⟨k4, 0, none⟩) 1 c4, .slice none 0 0, .bool false, .bool false, .bool false, .string ⟨#[]⟩, .string ⟨#[]⟩, .string ⟨#[]⟩, .slice none 0 0, .slice none 0 0, .slice none 0 0, .slice none 0 0, .string ⟨#[]⟩] 88 := hO.set 0 (.slice (some ⟨k4, 0, none⟩) 1 c4)
      replace hP := hP.other (a := ⟨ob, 0, none⟩) hn0.out (.slice (some ⟨k4, 0, none⟩) 1 c4)
      replace hQ := hQ.other (a := ⟨ob, 0, none⟩) hn1.out (.slice (some ⟨k4, 0, none⟩) 1 c4)
      replace hR := hR.other (a := ⟨ob, 0, none⟩) hn2.out (.slice (some ⟨k4, 0, none⟩) 1 c4)
      try simp only [Act.put, gzD, gzE, gzF]
      refine wb_pureZ 13 (some 58) (v := ?_) ?_ ?_; rotate_left; · (intro u; go_simp; try with_reducible rfl)
      try simp only [Act.put, gzD, gzE, gzF]
      refine wb_oneZ 14 (fun K hK => ?_)
      have c1 := hO.cell (i := 1) rfl
      have f1 := hO.free 1
      go_simp
      refine hK _ _ (Kb.setCell1 hn1.out _) ?_
      clear hK K c1 f1
      replace hbw := hbw.setCell (p := ⟨ob, 1, none⟩) hob.out (.slice A10 0 c10)
      replace hO : Blk _ ob [.slice (some ⟨k4, 0, none⟩) 1 c4, .slice A10 0 c10, .bool false, .bool false, .bool false, .string ⟨#[]⟩, .string ⟨#[]⟩, .string ⟨#[]⟩, .slice none 0 0, .slice none 0 0, .slice none 0 0, .slice none 0 0, .string ⟨#[]⟩] 88 := hO.set 1 (.slice A10 0 c10)
      replace hP := hP.other (a := ⟨ob, 1, none⟩) hn0.out (.slice A10 0 c10)
      replace hQ := hQ.other (a := ⟨ob, 1, none⟩) hn1.out (.slice A10 0 c10)
      replace hR := hR.other (a := ⟨ob, 1, none⟩) hn2.out (.slice A10 0 c10)
      try simp only [Act.put, gzD, gzE, gzF]
      refine wb_done (by kernel_rfl) ?_ _
      go_upto_region 16 with fail
      have o0 := hO.cell (i := 0) rfl
      go_wp2_with fail
      refine (sort1St_any _ _ _).mono ?_
      rintro e w7 ⟨rfl, rfl⟩
      clear o0
      have o1 := hO.cell (i := 1) rfl
      go_wp2_with fail
      refine (sortNilPe_any _ _ _ _).mono ?_
      rintro e w7 ⟨rfl, rfl⟩
      clear o1
      have q2 := hQ.cell (i := 2) rfl
      go_upto_region 19 with fail
      clear q2
      refine wb_begin ([w.heap.size]) [] (by kernel_rfl) (fun u0 hb0' hz0' => ?_)
      replace hP := hP.below hb0'
      replace hQ := hQ.below hb0'
      replace hR := hR.below hb0'
      replace hO := hO.below hb0'
      replace hbw := hbw.trans (hb0'.mono hbw.size)
      clear hb0' hz0'
      refine wb_pureZ 0 (some 68) (v := ?_) ?_ ?_; rotate_left; · (intro u; go_simp; try with_reducible rfl)
      try simp only [Act.put, gzD, gzE, gzF]
      refine wb_takeZ 1 (some 69) (v := ?_) ?_ ?_; rotate_left; · (intro u hu; have ka := hP.kb hu (List.mem_singleton.2 rfl); have a2 := ka.cell (i := 2) rfl; have a5 := ka.cell (i := 5) rfl; have a6 := ka.cell (i := 6) rfl; have a7 := ka.cell (i := 7) rfl; have a8 := ka.cell (i := 8) rfl; have a9 := ka.cell (i := 9) rfl; have a10 := ka.cell (i := 10) rfl; clear ka; go_simp; try with_reducible rfl)
      try simp only [Act.put, gzD, gzE, gzF]
      refine wb_pureZ 2 (some 70) (v := ?_) ?_ ?_; rotate_left; · (intro u; go_simp; try with_reducible rfl)
      try simp only [Act.put, gzD, gzE, gzF]
      refine wb_takeZ 3 (some 71) (v := ?_) ?_ ?_; rotate_left; · (intro u hu; have ka := hP.kb hu (List.mem_singleton.2 rfl); have a2 := ka.cell (i := 2) rfl; have a5 := ka.cell (i := 5) rfl; have a6 := ka.cell (i := 6) rfl; have a7 := ka.cell (i := 7) rfl; have a8 := ka.cell (i := 8) rfl; have a9 := ka.cell (i := 9) rfl; have a10 := ka.cell (i := 10) rfl; clear ka; go_simp; try with_reducible rfl)
      try simp only [Act.put, gzD, gzE, gzF]
      refine wb_pureZ 4 (some 72) (v := ?_) ?_ ?_; rotate_left; · (intro u; go_simp; try with_reducible rfl)
      try simp only [Act.put, gzD, gzE, gzF]
      refine wb_oneZ 5 (fun K hK => ?_)
      have c2 := hO.cell (i := 2) rfl
      have f2 := hO.free 2
      go_simp
      refine hK _ _ (Kb.setCell1 hn0.out _) ?_
      clear hK K c2 f2
      replace hbw := hbw.setCell (p := ⟨ob, 2, none⟩) hob.out (.bool false)
      replace hO : Blk _ ob [.slice (some ⟨k4, 0, none⟩) 1 c4, .slice A10 0 c10, .bool false, .bool false, .bool false, .string ⟨#[]⟩, .string ⟨#[]⟩, .string ⟨#[]⟩, .slice none 0 0, .slice none 0 0, .slice none 0 0, .slice none 0 0, .string ⟨#[]⟩] 88 := hO.set 2 (.bool false)
      replace hP := hP.other (a := ⟨ob, 2, none⟩) hn0.out (.bool false)
      replace hQ := hQ.other (a := ⟨ob, 2, none⟩) hn1.out (.bool false)
      replace hR := hR.other (a := ⟨ob, 2, none⟩) hn2.out (.bool false)
      try simp only [Act.put, gzD, gzE, gzF]
      refine wb_pureZ 6 (some 73) (v := ?_) ?_ ?_; rotate_left; · (intro u; go_simp; try with_reducible rfl)
      try simp only [Act.put, gzD, gzE, gzF]
      refine wb_oneZ 7 (fun K hK => ?_)
      have c5 := hO.cell (i := 5) rfl
      have f5 := hO.free 5
      have c6 := hO.cell (i := 6) rfl
      have f6 := hO.free 6
      have c7 := hO.cell (i := 7) rfl
      have f7 := hO.free 7
      have c8 := hO.cell (i := 8) rfl
      have f8 := hO.free 8
      have c9 := hO.cell (i := 9) rfl
      have f9 := hO.free 9
      have c10 := hO.cell (i := 10) rfl
      have f10 := hO.free 10
      go_simp
      refine hK _ _ ((((((Kb.setCell1 hn0.out _).trans (Kb.setCell1 hn0.out _)).trans (Kb.setCell1 hn0.out _)).trans (Kb.setCell1 hn0.out _)).trans (Kb.setCell1 hn0.out _)).trans (Kb.setCell1 hn0.out _)) ?_
      clear hK K c5 f5 c6 f6 c7 f7 c8 f8 c9 f9 c10 f10
      replace hbw := hbw.setCell (p := ⟨ob, 5, none⟩) hob.out (.string ⟨#[]⟩)
      replace hO : Blk _ ob [.slice (some ⟨k4, 0, none⟩) 1 c4, .slice A10 0 c10, .bool false, .bool false, .bool false, .string ⟨#[]⟩, .string ⟨#[]⟩, .string ⟨#[]⟩, .slice none 0 0, .slice none 0 0, .slice none 0 0, .slice none 0 0, .string ⟨#[]⟩] 88 := hO.set 5 (.string ⟨#[]⟩)
      replace hP := hP.other (a := ⟨ob, 5, none⟩) hn0.out (.string ⟨#[]⟩)
      replace hQ := hQ.other (a := ⟨ob, 5, none⟩) hn1.out (.string ⟨#[]⟩)
      replace hR := hR.other (a := ⟨ob, 5, none⟩) hn2.out (.string ⟨#[]⟩)
      replace hbw := hbw.setCell (p := ⟨ob, 6, none⟩) hob.out (.string ⟨#[]⟩)
      replace hO : Blk _ ob [.slice (some ⟨k4, 0, none⟩) 1 c4, .slice A10 0 c10, .bool false, .bool false, .bool false, .string ⟨#[]⟩, .string ⟨#[]⟩, .string ⟨#[]⟩, .slice none 0 0, .slice none 0 0, .slice none 0 0, .slice none 0 0, .string ⟨#[]⟩] 88 := hO.set 6 (.string ⟨#[]⟩)
      replace hP := hP.other (a := ⟨ob, 6, none⟩) hn0.out (.string ⟨#[]⟩)
      replace hQ := hQ.other (a := ⟨ob, 6, none⟩) hn1.out (.string ⟨#[]⟩)
      replace hR := hR.other (a := ⟨ob, 6, none⟩) hn2.out (.string ⟨#[]⟩)
      replace hbw := hbw.setCell (p := ⟨ob, 7, none⟩) hob.out (.string ⟨#[]⟩)
      replace hO : Blk _ ob [.slice (some ⟨k4, 0, none⟩) 1 c4, .slice A10 0 c10, .bool false, .bool false, .bool false, .string ⟨#[]⟩, .string ⟨#[]⟩, .string ⟨#[]⟩, .slice none 0 0, .slice none 0 0, .slice none 0 0, .slice none 0 0, .string ⟨#[]⟩] 88 := hO.set 7 (.string ⟨#[]⟩)
      replace hP := hP.other (a := ⟨ob, 7, none⟩) hn0.out (.string ⟨#[]⟩)
      replace hQ := hQ.other (a := ⟨ob, 7, none⟩) hn1.out (.string ⟨#[]⟩)
      replace hR := hR.other (a := ⟨ob, 7, none⟩) hn2.out (.string ⟨#[]⟩)
      replace hbw := hbw.setCell (p := ⟨ob, 8, none⟩) hob.out (.slice none 0 0)
      replace hO : Blk _ ob [.slice (some ⟨k4, 0, none⟩) 1 c4, .slice A10 0 c10, .bool false, .bool false, .bool false, .string ⟨#[]⟩, .string ⟨#[]⟩, .string ⟨#[]⟩, .slice none 0 0, .slice none 0 0, .slice none 0 0, .slice none 0 0, .string ⟨#[]⟩] 88 := hO.set 8 (.slice none 0 0)
      replace hP := hP.other (a := ⟨ob, 8, none⟩) hn0.out (.slice none 0 0)
      replace hQ := hQ.other (a := ⟨ob, 8, none⟩) hn1.out (.slice none 0 0)
      replace hR := hR.other (a := ⟨ob, 8, none⟩) hn2.out (.slice none 0 0)
      replace hbw := hbw.setCell (p := ⟨ob, 9, none⟩) hob.out (.slice none 0 0)
      replace hO : Blk _ ob [.slice (some ⟨k4, 0, none⟩) 1 c4, .slice A10 0 c10, .bool false, .bool false, .bool false, .string ⟨#[]⟩, .string ⟨#[]⟩, .string ⟨#[]⟩, .slice none 0 0, .slice none 0 0, .slice none 0 0, .slice none 0 0, .string ⟨#[]⟩] 88 := hO.set 9 (.slice none 0 0)
      replace hP := hP.other (a := ⟨ob, 9, none⟩) hn0.out (.slice none 0 0)
      replace hQ := hQ.other (a := ⟨ob, 9, none⟩) hn1.out (.slice none 0 0)
      replace hR := hR.other (a := ⟨ob, 9, none⟩) hn2.out (.slice none 0 0)
      replace hbw := hbw.setCell (p := ⟨ob, 10, none⟩) hob.out (.slice none 0 0)
      replace hO : Blk _ ob [.slice (some ⟨k4, 0, none⟩) 1 c4, .slice A10 0 c10, .bool false, .bool false, .bool false, .string ⟨#[]⟩, .string ⟨#[]⟩, .string ⟨#[]⟩, .slice none 0 0, .slice none 0 0, .slice none 0 0, .slice none 0 0, .string ⟨#[]⟩] 88 := hO.set 10 (.slice none 0 0)
      replace hP := hP.other (a := ⟨ob, 10, none⟩) hn0.out (.slice none 0 0)
      replace hQ := hQ.other (a := ⟨ob, 10, none⟩) hn1.out (.slice none 0 0)
      replace hR := hR.other (a := ⟨ob, 10, none⟩) hn2.out (.slice none 0 0)
      try simp only [Act.put, gzD, gzE, gzF]
      refine wb_done (by kernel_rfl) ?_ _
      skip
      have q3 := hQ.cell (i := 3) rfl
      go_upto_region 21 with fail
      clear q3
      refine wb_begin ([w.heap.size]) [] (by kernel_rfl) (fun u0 hb0' hz0' => ?_)
      replace hP := hP.below hb0'
      replace hQ := hQ.below hb0'
      replace hR := hR.below hb0'
      replace hO := hO.below hb0'
      replace hbw := hbw.trans (hb0'.mono hbw.size)
      clear hb0' hz0'
      refine wb_pureZ 0 (some 77) (v := ?_) ?_ ?_; rotate_left; · (intro u; go_simp; try with_reducible rfl)
      try simp only [Act.put, gzD, gzE, gzF]
      refine wb_takeZ 1 (some 78) (v := ?_) ?_ ?_; rotate_left; · (intro u hu; have ka := hP.kb hu (List.mem_singleton.2 rfl); have a3 := ka.cell (i := 3) rfl; have a11 := ka.cell (i := 11) rfl; clear ka; go_simp; try with_reducible rfl)
      try simp only [Act.put, gzD, gzE, gzF]
      refine wb_pureZ 2 (some 79) (v := ?_) ?_ ?_; rotate_left; · (intro u; go_simp; try with_reducible rfl)
      try simp only [Act.put, gzD, gzE, gzF]
      refine wb_takeZ 3 (some 80) (v := ?_) ?_ ?_; rotate_left; · (intro u hu; have ka := hP.kb hu (List.mem_singleton.2 rfl); have a3 := ka.cell (i := 3) rfl; have a11 := ka.cell (i := 11) rfl; clear ka; go_simp; try with_reducible rfl)
      try simp only [Act.put, gzD, gzE, gzF]
      refine wb_pureZ 4 (some 81) (v := ?_) ?_ ?_; rotate_left; · (intro u; go_simp; try with_reducible rfl)
      try simp only [Act.put, gzD, gzE, gzF]
      refine wb_oneZ 5 (fun K hK => ?_)
      have c3 := hO.cell (i := 3) rfl
      have f3 := hO.free 3
      go_simp
      refine hK _ _ (Kb.setCell1 hn0.out _) ?_
      clear hK K c3 f3
      replace hbw := hbw.setCell (p := ⟨ob, 3, none⟩) hob.out (.bool false)
      replace hO : Blk _ ob [.slice (some ⟨k4, 0, none⟩) 1 c4, .slice A10 0 c10, .bool false, .bool false, .bool false, .string ⟨#[]⟩, .string ⟨#[]⟩, .string ⟨#[]⟩, .slice none 0 0, .slice none 0 0, .slice none 0 0, .slice none 0 0, .string ⟨#[]⟩] 88 := hO.set 3 (.bool false)
      replace hP := hP.other (a := ⟨ob, 3, none⟩) hn0.out (.bool false)
      replace hQ := hQ.other (a := ⟨ob, 3, none⟩) hn1.out (.bool false)
      replace hR := hR.other (a := ⟨ob, 3, none⟩) hn2.out (.bool false)
      try simp only [Act.put, gzD, gzE, gzF]
      refine wb_pureZ 6 (some 82) (v := ?_) ?_ ?_; rotate_left; · (intro u; go_simp; try with_reducible rfl)
      try simp only [Act.put, gzD, gzE, gzF]
      refine wb_oneZ 7 (fun K hK => ?_)
      have c11 := hO.cell (i := 11) rfl
      have f11 := hO.free 11
      go_simp
      refine hK _ _ (Kb.setCell1 hn0.out _) ?_
      clear hK K c11 f11
      replace hbw := hbw.setCell (p := ⟨ob, 11, none⟩) hob.out (.slice none 0 0)
      replace hO : Blk _ ob [.slice (some ⟨k4, 0, none⟩) 1 c4, .slice A10 0 c10, .bool false, .bool false, .bool false, .string ⟨#[]⟩, .string ⟨#[]⟩, .string ⟨#[]⟩, .slice none 0 0, .slice none 0 0, .slice none 0 0, .slice none 0 0, .string ⟨#[]⟩] 88 := hO.set 11 (.slice none 0 0)
      replace hP := hP.other (a := ⟨ob, 11, none⟩) hn0.out (.slice none 0 0)
      replace hQ := hQ.other (a := ⟨ob, 11, none⟩) hn1.out (.slice none 0 0)
      replace hR := hR.other (a := ⟨ob, 11, none⟩) hn2.out (.slice none 0 0)
      try simp only [Act.put, gzD, gzE, gzF]
      refine wb_done (by kernel_rfl) ?_ _
      skip
      have q4 := hQ.cell (i := 4) rfl
      go_upto_region 23 with fail
      clear q4
      refine wb_begin ([w.heap.size]) [] (by kernel_rfl) (fun u0 hb0' hz0' => ?_)
      replace hP := hP.below hb0'
      replace hQ := hQ.below hb0'
      replace hR := hR.below hb0'
      replace hO := hO.below hb0'
      replace hbw := hbw.trans (hb0'.mono hbw.size)
      clear hb0' hz0'
      refine wb_pureZ 0 (some 86) (v := ?_) ?_ ?_; rotate_left; · (intro u; go_simp; try with_reducible rfl)
      try simp only [Act.put, gzD, gzE, gzF]
      refine wb_takeZ 1 (some 87) (v := ?_) ?_ ?_; rotate_left; · (intro u hu; have ka := hP.kb hu (List.mem_singleton.2 rfl); have a4 := ka.cell (i := 4) rfl; have a12 := ka.cell (i := 12) rfl; clear ka; go_simp; try with_reducible rfl)
      try simp only [Act.put, gzD, gzE, gzF]
      refine wb_pureZ 2 (some 88) (v := ?_) ?_ ?_; rotate_left; · (intro u; go_simp; try with_reducible rfl)
      try simp only [Act.put, gzD, gzE, gzF]
      refine wb_takeZ 3 (some 89) (v := ?_) ?_ ?_; rotate_left; · (intro u hu; have ka := hP.kb hu (List.mem_singleton.2 rfl); have a4 := ka.cell (i := 4) rfl; have a12 := ka.cell (i := 12) rfl; clear ka; go_simp; try with_reducible rfl)
      try simp only [Act.put, gzD, gzE, gzF]
      refine wb_pureZ 4 (some 90) (v := ?_) ?_ ?_; rotate_left; · (intro u; go_simp; try with_reducible rfl)
      try simp only [Act.put, gzD, gzE, gzF]
      refine wb_oneZ 5 (fun K hK => ?_)
      have c4 := hO.cell (i := 4) rfl
      have f4 := hO.free 4
      go_simp
      refine hK _ _ (Kb.setCell1 hn0.out _) ?_
      clear hK K c4 f4
      replace hbw := hbw.setCell (p := ⟨ob, 4, none⟩) hob.out (.bool false)
      replace hO : Blk _ ob [.slice (some ⟨k4, 0, none⟩) 1 c4, .slice A10 0 c10, .bool false, .bool false, .bool false, .string ⟨#[]⟩, .string ⟨#[]⟩, .string ⟨#[]⟩, .slice none 0 0, .slice none 0 0, .slice none 0 0, .slice none 0 0, .string ⟨#[]⟩] 88 := hO.set 4 (.bool false)
      replace hP := hP.other (a := ⟨ob, 4, none⟩) hn0.out (.bool false)
      replace hQ := hQ.other (a := ⟨ob, 4, none⟩) hn1.out (.bool false)
      replace hR := hR.other (a := ⟨ob, 4, none⟩) hn2.out (.bool false)
      try simp only [Act.put, gzD, gzE, gzF]
      refine wb_pureZ 6 (some 91) (v := ?_) ?_ ?_; rotate_left; · (intro u; go_simp; try with_reducible rfl)
      try simp only [Act.put, gzD, gzE, gzF]
      refine wb_oneZ 7 (fun K hK => ?_)
      have c12 := hO.cell (i := 12) rfl
      have f12 := hO.free 12
      go_simp
      refine hK _ _ (Kb.setCell1 hn0.out _) ?_
      clear hK K c12 f12
      replace hbw := hbw.setCell (p := ⟨ob, 12, none⟩) hob.out (.string ⟨#[]⟩)
      replace hO : Blk _ ob [.slice (some ⟨k4, 0, none⟩) 1 c4, .slice A10 0 c10, .bool false, .bool false, .bool false, .string ⟨#[]⟩, .string ⟨#[]⟩, .string ⟨#[]⟩, .slice none 0 0, .slice none 0 0, .slice none 0 0, .slice none 0 0, .string ⟨#[]⟩] 88 := hO.set 12 (.string ⟨#[]⟩)
      replace hP := hP.other (a := ⟨ob, 12, none⟩) hn0.out (.string ⟨#[]⟩)
      replace hQ := hQ.other (a := ⟨ob, 12, none⟩) hn1.out (.string ⟨#[]⟩)
      replace hR := hR.other (a := ⟨ob, 12, none⟩) hn2.out (.string ⟨#[]⟩)
      try simp only [Act.put, gzD, gzE, gzF]
      refine wb_done (by kernel_rfl) ?_ _
      skip
      go_upto_region 24 with fail
      refine wb_begin ([ob]) [7, 9] (by kernel_rfl) (fun u0 hb0' hz0' => ?_)
      replace hP := hP.below hb0'
      replace hQ := hQ.below hb0'
      replace hR := hR.below hb0'
      replace hO := hO.below hb0'
      replace hbw := hbw.trans (hb0'.mono hbw.size)
      clear hb0' hz0'
      refine wb_pureZ 0 (some 92) (v := ?_) ?_ ?_; rotate_left; · (intro u; go_simp; try with_reducible rfl)
      try simp only [Act.put, gzD, gzE, gzF]
      refine wb_takeZ 1 (some 93) (v := ?_) ?_ ?_; rotate_left; · (intro u hu; have ka := hO.kb hu (List.mem_singleton.2 rfl); have a5 := ka.cell (i := 5) rfl; have a6 := ka.cell (i := 6) rfl; have a7 := ka.cell (i := 7) rfl; have a8 := ka.cell (i := 8) rfl; have a9 := ka.cell (i := 9) rfl; have a10 := ka.cell (i := 10) rfl; have a11 := ka.cell (i := 11) rfl; clear ka; go_simp; try with_reducible rfl)
      try simp only [Act.put, gzD, gzE, gzF]
      refine wb_pureZ 3 (some 95) (v := ?_) ?_ ?_; rotate_left; · (intro u; go_simp; try with_reducible rfl)
      try simp only [Act.put, gzD, gzE, gzF]
      refine wb_takeZ 4 (some 96) (v := ?_) ?_ ?_; rotate_left; · (intro u hu; have ka := hO.kb hu (List.mem_singleton.2 rfl); have a5 := ka.cell (i := 5) rfl; have a6 := ka.cell (i := 6) rfl; have a7 := ka.cell (i := 7) rfl; have a8 := ka.cell (i := 8) rfl; have a9 := ka.cell (i := 9) rfl; have a10 := ka.cell (i := 10) rfl; have a11 := ka.cell (i := 11) rfl; clear ka; go_simp; try with_reducible rfl)
      try simp only [Act.put, gzD, gzE, gzF]
      refine wb_oneZ 2 (fun K hK => ?_)
      go_simp
      refine (copyNodeZero_any _).mono ?_
      rintro e u2 ⟨rfl, hb2⟩
      refine hK _ _ (Kb.below hb2 (by intro q hq; rw [List.mem_singleton.1 hq]; exact hO.lt)) ?_
      clear hK K
      replace hP := hP.below hb2
      replace hQ := hQ.below hb2
      replace hR := hR.below hb2
      replace hO := hO.below hb2
      replace hbw := hbw.trans (hb2.mono hbw.size)
      clear hb2
      try simp only [Act.put, gzD, gzE, gzF]
      refine wb_pureZ 6 (some 98) (v := ?_) ?_ ?_; rotate_left; · (intro u; go_simp; try with_reducible rfl)
      try simp only [Act.put, gzD, gzE, gzF]
      refine wb_oneZ 5 (fun K hK => ?_)
      go_simp
      refine (cloneRowsNil_any _).mono ?_
      rintro e u5 ⟨⟨A5, c5, rfl⟩, hb5⟩
      refine hK _ _ (Kb.below hb5 (by intro q hq; rw [List.mem_singleton.1 hq]; exact hO.lt)) ?_
      clear hK K
      replace hP := hP.below hb5
      replace hQ := hQ.below hb5
      replace hR := hR.below hb5
      replace hO := hO.below hb5
      replace hbw := hbw.trans (hb5.mono hbw.size)
      clear hb5
      try simp only [Act.put, gzD, gzE, gzF]
      refine wb_store (i := 7) (by simp only [gzA, gzB, gzC] <;> rfl) (by kernel_rfl) (by rfl) (by kernel_rfl) (fun K hK => ?_)
      have c5 := hO.cell (i := 5) rfl
      have f5 := hO.free 5
      have c6 := hO.cell (i := 6) rfl
      have f6 := hO.free 6
      have c7 := hO.cell (i := 7) rfl
      have f7 := hO.free 7
      have c8 := hO.cell (i := 8) rfl
      have f8 := hO.free 8
      have c9 := hO.cell (i := 9) rfl
      have f9 := hO.free 9
      have c10 := hO.cell (i := 10) rfl
      have f10 := hO.free 10
      go_simp
      refine hK _ _ ?_
      clear hK K c5 f5 c6 f6 c7 f7 c8 f8 c9 f9 c10 f10
      replace hbw := hbw.setCell (p := ⟨ob, 5, none⟩) hob.out (.string ⟨#[]⟩)
      replace hO : Blk _ ob [.slice (some ⟨k4, 0, none⟩) 1 c4, .slice A10 0 c10, .bool false, .bool false, .bool false, .string ⟨#[]⟩, .string ⟨#[]⟩, .string ⟨#[]⟩, .slice none 0 0, .slice none 0 0, .slice none 0 0, .slice none 0 0, .string ⟨#[]⟩] 88 := hO.set 5 (.string ⟨#[]⟩)
      replace hP := hP.other (a := ⟨ob, 5, none⟩) hn0.out (.string ⟨#[]⟩)
      replace hQ := hQ.other (a := ⟨ob, 5, none⟩) hn1.out (.string ⟨#[]⟩)
      replace hR := hR.other (a := ⟨ob, 5, none⟩) hn2.out (.string ⟨#[]⟩)
      replace hbw := hbw.setCell (p := ⟨ob, 6, none⟩) hob.out (.string ⟨#[]⟩)
      replace hO : Blk _ ob [.slice (some ⟨k4, 0, none⟩) 1 c4, .slice A10 0 c10, .bool false, .bool false, .bool false, .string ⟨#[]⟩, .string ⟨#[]⟩, .string ⟨#[]⟩, .slice none 0 0, .slice none 0 0, .slice none 0 0, .slice none 0 0, .string ⟨#[]⟩] 88 := hO.set 6 (.string ⟨#[]⟩)
      replace hP := hP.other (a := ⟨ob, 6, none⟩) hn0.out (.string ⟨#[]⟩)
      replace hQ := hQ.other (a := ⟨ob, 6, none⟩) hn1.out (.string ⟨#[]⟩)
      replace hR := hR.other (a := ⟨ob, 6, none⟩) hn2.out (.string ⟨#[]⟩)
      replace hbw := hbw.setCell (p := ⟨ob, 7, none⟩) hob.out (.string ⟨#[]⟩)
      replace hO : Blk _ ob [.slice (some ⟨k4, 0, none⟩) 1 c4, .slice A10 0 c10, .bool false, .bool false, .bool false, .string ⟨#[]⟩, .string ⟨#[]⟩, .string ⟨#[]⟩, .slice none 0 0, .slice none 0 0, .slice none 0 0, .slice none 0 0, .string ⟨#[]⟩] 88 := hO.set 7 (.string ⟨#[]⟩)
      replace hP := hP.other (a := ⟨ob, 7, none⟩) hn0.out (.string ⟨#[]⟩)
      replace hQ := hQ.other (a := ⟨ob, 7, none⟩) hn1.out (.string ⟨#[]⟩)
      replace hR := hR.other (a := ⟨ob, 7, none⟩) hn2.out (.string ⟨#[]⟩)
      replace hbw := hbw.setCell (p := ⟨ob, 8, none⟩) hob.out (.slice none 0 0)
      replace hO : Blk _ ob [.slice (some ⟨k4, 0, none⟩) 1 c4, .slice A10 0 c10, .bool false, .bool false, .bool false, .string ⟨#[]⟩, .string ⟨#[]⟩, .string ⟨#[]⟩, .slice none 0 0, .slice none 0 0, .slice none 0 0, .slice none 0 0, .string ⟨#[]⟩] 88 := hO.set 8 (.slice none 0 0)
      replace hP := hP.other (a := ⟨ob, 8, none⟩) hn0.out (.slice none 0 0)
      replace hQ := hQ.other (a := ⟨ob, 8, none⟩) hn1.out (.slice none 0 0)
      replace hR := hR.other (a := ⟨ob, 8, none⟩) hn2.out (.slice none 0 0)
      replace hbw := hbw.setCell (p := ⟨ob, 9, none⟩) hob.out (.slice none 0 0)
      replace hO : Blk _ ob [.slice (some ⟨k4, 0, none⟩) 1 c4, .slice A10 0 c10, .bool false, .bool false, .bool false, .string ⟨#[]⟩, .string ⟨#[]⟩, .string ⟨#[]⟩, .slice none 0 0, .slice none 0 0, .slice none 0 0, .slice none 0 0, .string ⟨#[]⟩] 88 := hO.set 9 (.slice none 0 0)
      replace hP := hP.other (a := ⟨ob, 9, none⟩) hn0.out (.slice none 0 0)
      replace hQ := hQ.other (a := ⟨ob, 9, none⟩) hn1.out (.slice none 0 0)
      replace hR := hR.other (a := ⟨ob, 9, none⟩) hn2.out (.slice none 0 0)
      replace hbw := hbw.setCell (p := ⟨ob, 10, none⟩) hob.out (.slice none 0 0)
      replace hO : Blk _ ob [.slice (some ⟨k4, 0, none⟩) 1 c4, .slice A10 0 c10, .bool false, .bool false, .bool false, .string ⟨#[]⟩, .string ⟨#[]⟩, .string ⟨#[]⟩, .slice none 0 0, .slice none 0 0, .slice none 0 0, .slice none 0 0, .string ⟨#[]⟩] 88 := hO.set 10 (.slice none 0 0)
      replace hP := hP.other (a := ⟨ob, 10, none⟩) hn0.out (.slice none 0 0)
      replace hQ := hQ.other (a := ⟨ob, 10, none⟩) hn1.out (.slice none 0 0)
      replace hR := hR.other (a := ⟨ob, 10, none⟩) hn2.out (.slice none 0 0)
      try simp only [Act.put, gzD, gzE, gzF]
      refine wb_pureZ 8 (some 99) (v := ?_) ?_ ?_; rotate_left; · (intro u; go_simp; try with_reducible rfl)
      try simp only [Act.put, gzD, gzE, gzF]
      refine wb_store (i := 9) (by simp only [gzA, gzB, gzC] <;> rfl) (by kernel_rfl) (by rfl) (by kernel_rfl) (fun K hK => ?_)
      have c11 := hO.cell (i := 11) rfl
      have f11 := hO.free 11
      go_simp
      refine hK _ _ ?_
      clear hK K c11 f11
      replace hbw := hbw.setCell (p := ⟨ob, 11, none⟩) hob.out (.slice A5 0 c5)
      replace hO : Blk _ ob [.slice (some ⟨k4, 0, none⟩) 1 c4, .slice A10 0 c10, .bool false, .bool false, .bool false, .string ⟨#[]⟩, .string ⟨#[]⟩, .string ⟨#[]⟩, .slice none 0 0, .slice none 0 0, .slice none 0 0, .slice A5 0 c5, .string ⟨#[]⟩] 88 := hO.set 11 (.slice A5 0 c5)
      replace hP := hP.other (a := ⟨ob, 11, none⟩) hn0.out (.slice A5 0 c5)
      replace hQ := hQ.other (a := ⟨ob, 11, none⟩) hn1.out (.slice A5 0 c5)
      replace hR := hR.other (a := ⟨ob, 11, none⟩) hn2.out (.slice A5 0 c5)
      try simp only [Act.put, gzD, gzE, gzF]
      refine wb_done (by kernel_rfl) ?_ _
      skip
      go_upto_region 25 with fail
      have lo := hO.ld rowPa rfl
      have s1 := stT_row rowPa hR (cs := (paR k4 c4 A10 c10 A5 c5)) rfl rfl (oneAll rfl)
      go_wp2_with fail
      have z1 := hR.rowU (paR k4 c4 A10 c10 A5 c5)
      have z2 := below_rowP hbw (show w.heap.size ≤ w.heap.size + 1 + 1 by omega) ((paR k4 c4 A10 c10 A5 c5)).toArray
      exact bodyPost_ret (v := .agg (paR k4 c4 A10 c10 A5 c5).toArray) (results_cell_row rfl _ _ (w.heap.size + 1 + 1) 88 (paR k4 c4 A10 c10 A5 c5).toArray (0, 0) _ rfl z1 Tryz.underlying88 rfl (by kernel_rfl)) rfl ⟨⟨k4, c4, A10, c10, A5, c5, rfl⟩, z2⟩
    · go_simp
      refine hK _ _ (Kb.gb (World.grownBy_alloc _ _ none) (by intro q hq; rw [List.mem_singleton.1 hq]; exact ⟨hQ.lt, by simp⟩)) ?_
      clear hK K
      refine wb_new (cs := [.slice none 0 0, .slice none 0 0]) (t := 82) (fun u8 hv8 hL8 hz8 => ?_)
      replace hP := hP.below hv8
      replace hQ := hQ.below hv8
      replace hR := hR.below hv8
      replace hO := hO.below hv8
      replace hbw := hbw.trans (hv8.mono hbw.size)
      try replace hs1 := hs1.below hv8
      try replace hL3 := hL3.below hv8
      clear hv8 hz8
      try simp only [Act.put, gzD, gzE, gzF]
      refine wb_oneZ 4 (fun K hK => ?_)
      go_simp
      refine (concatStr_any _ _ _ _ _ _ _ _ _ _ hL3 hs1 (SlE.nil _) (by decide) (by decide)).mono ?_
      rintro e u4 ⟨⟨v4, rfl, ho4⟩, hb4⟩
      obtain ⟨k4, c4, hv4, _⟩ := ho4.form (by simp)
      replace hv4 : v4 = .slice (some ⟨k4, 0, none⟩) 1 c4 := hv4
      subst hv4
      refine hK _ _ (Kb.below hb4 (by intro q hq; rw [List.mem_singleton.1 hq]; exact hQ.lt)) ?_
      clear hK K ho4
      replace hP := hP.below hb4
      replace hQ := hQ.below hb4
      replace hR := hR.below hb4
      replace hO := hO.below hb4
      replace hbw := hbw.trans (hb4.mono hbw.size)
      try replace hL8 := hL8.below hb4
      clear hb4 hL3 hs1
      try simp only [Act.put, gzD, gzE, gzF]
      refine wb_pureZ 11 (some 57) (v := ?_) ?_ ?_; rotate_left; · (intro u; go_simp; try with_reducible rfl)
      try simp only [Act.put, gzD, gzE, gzF]
      refine wb_oneZ 9 (fun K hK => ?_)
      go_simp
      refine (concatNilPe_any _ _ hL8).mono ?_
      rintro e w9 ⟨rfl, rfl⟩
      refine hK _ _ (Kb.refl _ _) ?_
      clear hK K
      try simp only [Act.put, gzD, gzE, gzF]
      refine wb_oneZ 10 (fun K hK => ?_)
      go_simp
      refine (clonePeersNil_any _).mono ?_
      rintro e u10 ⟨⟨A10, c10, rfl⟩, hb10⟩
      refine hK _ _ (Kb.below hb10 (by intro q hq; rw [List.mem_singleton.1 hq]; exact hQ.lt)) ?_
      clear hK K
      replace hP := hP.below hb10
      replace hQ := hQ.below hb10
      replace hR := hR.below hb10
      replace hO := hO.below hb10
      replace hbw := hbw.trans (hb10.mono hbw.size)
      clear hb10 hL8
      try simp only [Act.put, gzD, gzE, gzF]
      refine wb_oneZ 12 (fun K hK => ?_)
      have c0 := hO.cell (i := 0) rfl
      have f0 := hO.free 0
      go_simp
      refine hK _ _ (Kb.setCell1 hn1.out _) ?_
      clear hK K c0 f0
      replace hbw := hbw.setCell (p := ⟨ob, 0, none⟩) hob.out (.slice (some ⟨k4, 0, none⟩) 1 c4)
      replace hO : Blk _ ob [.slice (some ⟨k4, 0, none⟩) 1 c4, .slice none 0 0, .bool false, .bool false, .bool false, .string ⟨#[]⟩, .string ⟨#[]⟩, .string ⟨#[]⟩, .slice none 0 0, .slice none 0 0, .slice none 0 0, .slice none 0 0, .string ⟨#[]⟩] 88 := hO.set 0 (.slice (some ⟨k4, 0, none⟩) 1 c4)
      replace hP := hP.other (a := ⟨ob, 0, none⟩) hn0.out (.slice (some ⟨k4, 0, none⟩) 1 c4)
      replace hQ := hQ.other (a := ⟨ob, 0, none⟩) hn1.out (.slice (some ⟨k4, 0, none⟩) 1 c4)
      replace hR := hR.other (a := ⟨ob, 0, none⟩) hn2.out (.slice (some ⟨k4, 0, none⟩) 1 c4)
      try simp only [Act.put, gzD, gzE, gzF]
      refine wb_pureZ 13 (some 58) (v := ?_) ?_ ?_; rotate_left; · (intro u; go_simp; try with_reducible rfl)
      try simp only [Act.put, gzD, gzE, gzF]
      refine wb_oneZ 14 (fun K hK => ?_)
      have c1 := hO.cell (i := 1) rfl
      have f1 := hO.free 1
      go_simp
      refine hK _ _ (Kb.setCell1 hn1.out _) ?_
      clear hK K c1 f1
      replace hbw := hbw.setCell (p := ⟨ob, 1, none⟩) hob.out (.slice A10 0 c10)
      replace hO : Blk _ ob [.slice (some ⟨k4, 0, none⟩) 1 c4, .slice A10 0 c10, .bool false, .bool false, .bool false, .string ⟨#[]⟩, .string ⟨#[]⟩, .string ⟨#[]⟩, .slice none 0 0, .slice none 0 0, .slice none 0 0, .slice none 0 0, .string ⟨#[]⟩] 88 := hO.set 1 (.slice A10 0 c10)
      replace hP := hP.other (a := ⟨ob, 1, none⟩) hn0.out (.slice A10 0 c10)
      replace hQ := hQ.other (a := ⟨ob, 1, none⟩) hn1.out (.slice A10 0 c10)
      replace hR := hR.other (a := ⟨ob, 1, none⟩) hn2.out (.slice A10 0 c10)
      try simp only [Act.put, gzD, gzE, gzF]
      refine wb_done (by kernel_rfl) ?_ _
      go_upto_region 16 with fail
      have o0 := hO.cell (i := 0) rfl
      go_wp2_with fail
      refine (sort1St_any _ _ _).mono ?_
      rintro e w7 ⟨rfl, rfl⟩
      clear o0
      have o1 := hO.cell (i := 1) rfl
      go_wp2_with fail
      refine (sortNilPe_any _ _ _ _).mono ?_
      rintro e w7 ⟨rfl, rfl⟩
      clear o1
      have q2 := hQ.cell (i := 2) rfl
      go_upto_region 19 with fail
      clear q2
      refine wb_begin ([w.heap.size]) [] (by kernel_rfl) (fun u0 hb0' hz0' => ?_)
      replace hP := hP.below hb0'
      replace hQ := hQ.below hb0'
      replace hR := hR.below hb0'
      replace hO := hO.below hb0'
      replace hbw := hbw.trans (hb0'.mono hbw.size)
      clear hb0' hz0'
      refine wb_pureZ 0 (some 68) (v := ?_) ?_ ?_; rotate_left; · (intro u; go_simp; try with_reducible rfl)
      try simp only [Act.put, gzD, gzE, gzF]
      refine wb_takeZ 1 (some 69) (v := ?_) ?_ ?_; rotate_left; · (intro u hu; have ka := hP.kb hu (List.mem_singleton.2 rfl); have a2 := ka.cell (i := 2) rfl; have a5 := ka.cell (i := 5) rfl; have a6 := ka.cell (i := 6) rfl; have a7 := ka.cell (i := 7) rfl; have a8 := ka.cell (i := 8) rfl; have a9 := ka.cell (i := 9) rfl; have a10 := ka.cell (i := 10) rfl; clear ka; go_simp; try with_reducible rfl)
      try simp only [Act.put, gzD, gzE, gzF]
      refine wb_pureZ 2 (some 70) (v := ?_) ?_ ?_; rotate_left; · (intro u; go_simp; try with_reducible rfl)
      try simp only [Act.put, gzD, gzE, gzF]
      refine wb_takeZ 3 (some 71) (v := ?_) ?_ ?_; rotate_left; · (intro u hu; have ka := hP.kb hu (List.mem_singleton.2 rfl); have a2 := ka.cell (i := 2) rfl; have a5 := ka.cell (i := 5) rfl; have a6 := ka.cell (i := 6) rfl; have a7 := ka.cell (i := 7) rfl; have a8 := ka.cell (i := 8) rfl; have a9 := ka.cell (i := 9) rfl; have a10 := ka.cell (i := 10) rfl; clear ka; go_simp; try with_reducible rfl)
      try simp only [Act.put, gzD, gzE, gzF]
      refine wb_pureZ 4 (some 72) (v := ?_) ?_ ?_; rotate_left; · (intro u; go_simp; try with_reducible rfl)
      try simp only [Act.put, gzD, gzE, gzF]
      refine wb_oneZ 5 (fun K hK => ?_)
      have c2 := hO.cell (i := 2) rfl
      have f2 := hO.free 2
      go_simp
      refine hK _ _ (Kb.setCell1 hn0.out _) ?_
      clear hK K c2 f2
      replace hbw := hbw.setCell (p := ⟨ob, 2, none⟩) hob.out (.bool false)
      replace hO : Blk _ ob [.slice (some ⟨k4, 0, none⟩) 1 c4, .slice A10 0 c10, .bool false, .bool false, .bool false, .string ⟨#[]⟩, .string ⟨#[]⟩, .string ⟨#[]⟩, .slice none 0 0, .slice none 0 0, .slice none 0 0, .slice none 0 0, .string ⟨#[]⟩] 88 := hO.set 2 (.bool false)
      replace hP := hP.other (a := ⟨ob, 2, none⟩) hn0.out (.bool false)
      replace hQ := hQ.other (a := ⟨ob, 2, none⟩) hn1.out (.bool false)
      replace hR := hR.other (a := ⟨ob, 2, none⟩) hn2.out (.bool false)
      try simp only [Act.put, gzD, gzE, gzF]
      refine wb_pureZ 6 (some 73) (v := ?_) ?_ ?_; rotate_left; · (intro u; go_simp; try with_reducible rfl)
      try simp only [Act.put, gzD, gzE, gzF]
      refine wb_oneZ 7 (fun K hK => ?_)
      have c5 := hO.cell (i := 5) rfl
      have f5 := hO.free 5
      have c6 := hO.cell (i := 6) rfl
      have f6 := hO.free 6
      have c7 := hO.cell (i := 7) rfl
      have f7 := hO.free 7
      have c8 := hO.cell (i := 8) rfl
      have f8 := hO.free 8
      have c9 := hO.cell (i := 9) rfl
      have f9 := hO.free 9
      have c10 := hO.cell (i := 10) rfl
      have f10 := hO.free 10
      go_simp
      refine hK _ _ ((((((Kb.setCell1 hn0.out _).trans (Kb.setCell1 hn0.out _)).trans (Kb.setCell1 hn0.out _)).trans (Kb.setCell1 hn0.out _)).trans (Kb.setCell1 hn0.out _)).trans (Kb.setCell1 hn0.out _)) ?_
      clear hK K c5 f5 c6 f6 c7 f7 c8 f8 c9 f9 c10 f10
      replace hbw := hbw.setCell (p := ⟨ob, 5, none⟩) hob.out (.string ⟨#[]⟩)
      replace hO : Blk _ ob [.slice (some ⟨k4, 0, none⟩) 1 c4, .slice A10 0 c10, .bool false, .bool false, .bool false, .string ⟨#[]⟩, .string ⟨#[]⟩, .string ⟨#[]⟩, .slice none 0 0, .slice none 0 0, .slice none 0 0, .slice none 0 0, .string ⟨#[]⟩] 88 := hO.set 5 (.string ⟨#[]⟩)
      replace hP := hP.other (a := ⟨ob, 5, none⟩) hn0.out (.string ⟨#[]⟩)
      replace hQ := hQ.other (a := ⟨ob, 5, none⟩) hn1.out (.string ⟨#[]⟩)
      replace hR := hR.other (a := ⟨ob, 5, none⟩) hn2.out (.string ⟨#[]⟩)
      replace hbw := hbw.setCell (p := ⟨ob, 6, none⟩) hob.out (.string ⟨#[]⟩)
      replace hO : Blk _ ob [.slice (some ⟨k4, 0, none⟩) 1 c4, .slice A10 0 c10, .bool false, .bool false, .bool false, .string ⟨#[]⟩, .string ⟨#[]⟩, .string ⟨#[]⟩, .slice none 0 0, .slice none 0 0, .slice none 0 0, .slice none 0 0, .string ⟨#[]⟩] 88 := hO.set 6 (.string ⟨#[]⟩)
      replace hP := hP.other (a := ⟨ob, 6, none⟩) hn0.out (.string ⟨#[]⟩)
      replace hQ := hQ.other (a := ⟨ob, 6, none⟩) hn1.out (.string ⟨#[]⟩)
      replace hR := hR.other (a := ⟨ob, 6, none⟩) hn2.out (.string ⟨#[]⟩)
      replace hbw := hbw.setCell (p := ⟨ob, 7, none⟩) hob.out (.string ⟨#[]⟩)
      replace hO : Blk _ ob [.slice (some ⟨k4, 0, none⟩) 1 c4, .slice A10 0 c10, .bool false, .bool false, .bool false, .string ⟨#[]⟩, .string ⟨#[]⟩, .string ⟨#[]⟩, .slice none 0 0, .slice none 0 0, .slice none 0 0, .slice none 0 0, .string ⟨#[]⟩] 88 := hO.set 7 (.string ⟨#[]⟩)
      replace hP := hP.other (a := ⟨ob, 7, none⟩) hn0.out (.string ⟨#[]⟩)
      replace hQ := hQ.other (a := ⟨ob, 7, none⟩) hn1.out (.string ⟨#[]⟩)
      replace hR := hR.other (a := ⟨ob, 7, none⟩) hn2.out (.string ⟨#[]⟩)
      replace hbw := hbw.setCell (p := ⟨ob, 8, none⟩) hob.out (.slice none 0 0)
      replace hO : Blk _ ob [.slice (some ⟨k4, 0, none⟩) 1 c4, .slice A10 0 c10, .bool false, .bool false, .bool false, .string ⟨#[]⟩, .string ⟨#[]⟩, .string ⟨#[]⟩, .slice none 0 0, .slice none 0 0, .slice none 0 0, .slice none 0 0, .string ⟨#[]⟩] 88 := hO.set 8 (.slice none 0 0)
      replace hP := hP.other (a := ⟨ob, 8, none⟩) hn0.out (.slice none 0 0)
      replace hQ := hQ.other (a := ⟨ob, 8, none⟩) hn1.out (.slice none 0 0)
      replace hR := hR.other (a := ⟨ob, 8, none⟩) hn2.out (.slice none 0 0)
      replace hbw := hbw.setCell (p := ⟨ob, 9, none⟩) hob.out (.slice none 0 0)
      replace hO : Blk _ ob [.slice (some ⟨k4, 0, none⟩) 1 c4, .slice A10 0 c10, .bool false, .bool false, .bool false, .string ⟨#[]⟩, .string ⟨#[]⟩, .string ⟨#[]⟩, .slice none 0 0, .slice none 0 0, .slice none 0 0, .slice none 0 0, .string ⟨#[]⟩] 88 := hO.set 9 (.slice none 0 0)
      replace hP := hP.other (a := ⟨ob, 9, none⟩) hn0.out (.slice none 0 0)
      replace hQ := hQ.other (a := ⟨ob, 9, none⟩) hn1.out (.slice none 0 0)
      replace hR := hR.other (a := ⟨ob, 9, none⟩) hn2.out (.slice none 0 0)
      replace hbw := hbw.setCell (p := ⟨ob, 10, none⟩) hob.out (.slice none 0 0)
      replace hO : Blk _ ob [.slice (some ⟨k4, 0, none⟩) 1 c4, .slice A10 0 c10, .bool false, .bool false, .bool false, .string ⟨#[]⟩, .string ⟨#[]⟩, .string ⟨#[]⟩, .slice none 0 0, .slice none 0 0, .slice none 0 0, .slice none 0 0, .string ⟨#[]⟩] 88 := hO.set 10 (.slice none 0 0)
      replace hP := hP.other (a := ⟨ob, 10, none⟩) hn0.out (.slice none 0 0)
      replace hQ := hQ.other (a := ⟨ob, 10, none⟩) hn1.out (.slice none 0 0)
      replace hR := hR.other (a := ⟨ob, 10, none⟩) hn2.out (.slice none 0 0)
      try simp only [Act.put, gzD, gzE, gzF]
      refine wb_done (by kernel_rfl) ?_ _
      skip
      have q3 := hQ.cell (i := 3) rfl
      go_upto_region 21 with fail
      clear q3
      refine wb_begin ([w.heap.size]) [] (by kernel_rfl) (fun u0 hb0' hz0' => ?_)
      replace hP := hP.below hb0'
      replace hQ := hQ.below hb0'
      replace hR := hR.below hb0'
      replace hO := hO.below hb0'
      replace hbw := hbw.trans (hb0'.mono hbw.size)
      clear hb0' hz0'
      refine wb_pureZ 0 (some 77) (v := ?_) ?_ ?_; rotate_left; · (intro u; go_simp; try with_reducible rfl)
      try simp only [Act.put, gzD, gzE, gzF]
      refine wb_takeZ 1 (some 78) (v := ?_) ?_ ?_; rotate_left; · (intro u hu; have ka := hP.kb hu (List.mem_singleton.2 rfl); have a3 := ka.cell (i := 3) rfl; have a11 := ka.cell (i := 11) rfl; clear ka; go_simp; try with_reducible rfl)
      try simp only [Act.put, gzD, gzE, gzF]
      refine wb_pureZ 2 (some 79) (v := ?_) ?_ ?_; rotate_left; · (intro u; go_simp; try with_reducible rfl)
      try simp only [Act.put, gzD, gzE, gzF]
      refine wb_takeZ 3 (some 80) (v := ?_) ?_ ?_; rotate_left; · (intro u hu; have ka := hP.kb hu (List.mem_singleton.2 rfl); have a3 := ka.cell (i := 3) rfl; have a11 := ka.cell (i := 11) rfl; clear ka; go_simp; try with_reducible rfl)
      try simp only [Act.put, gzD, gzE, gzF]
      refine wb_pureZ 4 (some 81) (v := ?_) ?_ ?_; rotate_left; · (intro u; go_simp; try with_reducible rfl)
      try simp only [Act.put, gzD, gzE, gzF]
      refine wb_oneZ 5 (fun K hK => ?_)
      have c3 := hO.cell (i := 3) rfl
      have f3 := hO.free 3
      go_simp
      refine hK _ _ (Kb.setCell1 hn0.out _) ?_
      clear hK K c3 f3
      replace hbw := hbw.setCell (p := ⟨ob, 3, none⟩) hob.out (.bool false)
      replace hO : Blk _ ob [.slice (some ⟨k4, 0, none⟩) 1 c4, .slice A10 0 c10, .bool false, .bool false, .bool false, .string ⟨#[]⟩, .string ⟨#[]⟩, .string ⟨#[]⟩, .slice none 0 0, .slice none 0 0, .slice none 0 0, .slice none 0 0, .string ⟨#[]⟩] 88 := hO.set 3 (.bool false)
      replace hP := hP.other (a := ⟨ob, 3, none⟩) hn0.out (.bool false)
      replace hQ := hQ.other (a := ⟨ob, 3, none⟩) hn1.out (.bool false)
      replace hR := hR.other (a := ⟨ob, 3, none⟩) hn2.out (.bool false)
      try simp only [Act.put, gzD, gzE, gzF]
      refine wb_pureZ 6 (some 82) (v := ?_) ?_ ?_; rotate_left; · (intro u; go_simp; try with_reducible rfl)
      try simp only [Act.put, gzD, gzE, gzF]
      refine wb_oneZ 7 (fun K hK => ?_)
      have c11 := hO.cell (i := 11) rfl
      have f11 := hO.free 11
      go_simp
      refine hK _ _ (Kb.setCell1 hn0.out _) ?_
      clear hK K c11 f11
      replace hbw := hbw.setCell (p := ⟨ob, 11, none⟩) hob.out (.slice none 0 0)
      replace hO : Blk _ ob [.slice (some ⟨k4, 0, none⟩) 1 c4, .slice A10 0 c10, .bool false, .bool false, .bool false, .string ⟨#[]⟩, .string ⟨#[]⟩, .string ⟨#[]⟩, .slice none 0 0, .slice none 0 0, .slice none 0 0, .slice none 0 0, .string ⟨#[]⟩] 88 := hO.set 11 (.slice none 0 0)
      replace hP := hP.other (a := ⟨ob, 11, none⟩) hn0.out (.slice none 0 0)
      replace hQ := hQ.other (a := ⟨ob, 11, none⟩) hn1.out (.slice none 0 0)
      replace hR := hR.other (a := ⟨ob, 11, none⟩) hn2.out (.slice none 0 0)
      try simp only [Act.put, gzD, gzE, gzF]
      refine wb_done (by kernel_rfl) ?_ _
      skip
      have q4 := hQ.cell (i := 4) rfl
      go_upto_region 23 with fail
      clear q4
      refine wb_begin ([w.heap.size]) [] (by kernel_rfl) (fun u0 hb0' hz0' => ?_)
      replace hP := hP.below hb0'
      replace hQ := hQ.below hb0'
      replace hR := hR.below hb0'
      replace hO := hO.below hb0'
      replace hbw := hbw.trans (hb0'.mono hbw.size)
      clear hb0' hz0'
      refine wb_pureZ 0 (some 86) (v := ?_) ?_ ?_; rotate_left; · (intro u; go_simp; try with_reducible rfl)
      try simp only [Act.put, gzD, gzE, gzF]
      refine wb_takeZ 1 (some 87) (v := ?_) ?_ ?_; rotate_left; · (intro u hu; have ka := hP.kb hu (List.mem_singleton.2 rfl); have a4 := ka.cell (i := 4) rfl; have a12 := ka.cell (i := 12) rfl; clear ka; go_simp; try with_reducible rfl)
      try simp only [Act.put, gzD, gzE, gzF]
      refine wb_pureZ 2 (some 88) (v := ?_) ?_ ?_; rotate_left; · (intro u; go_simp; try with_reducible rfl)
      try simp only [Act.put, gzD, gzE, gzF]
      refine wb_takeZ 3 (some 89) (v := ?_) ?_ ?_; rotate_left; · (intro u hu; have ka := hP.kb hu (List.mem_singleton.2 rfl); have a4 := ka.cell (i := 4) rfl; have a12 := ka.cell (i := 12) rfl; clear ka; go_simp; try with_reducible rfl)
      try simp only [Act.put, gzD, gzE, gzF]
      refine wb_pureZ 4 (some 90) (v := ?_) ?_ ?_; rotate_left; · (intro u; go_simp; try with_reducible rfl)
      try simp only [Act.put, gzD, gzE, gzF]
      refine wb_oneZ 5 (fun K hK => ?_)
      have c4 := hO.cell (i := 4) rfl
      have f4 := hO.free 4
      go_simp
      refine hK _ _ (Kb.setCell1 hn0.out _) ?_
      clear hK K c4 f4
      replace hbw := hbw.setCell (p := ⟨ob, 4, none⟩) hob.out (.bool false)
      replace hO : Blk _ ob [.slice (some ⟨k4, 0, none⟩) 1 c4, .slice A10 0 c10, .bool false, .bool false, .bool false, .string ⟨#[]⟩, .string ⟨#[]⟩, .string ⟨#[]⟩, .slice none 0 0, .slice none 0 0, .slice none 0 0, .slice none 0 0, .string ⟨#[]⟩] 88 := hO.set 4 (.bool false)
      replace hP := hP.other (a := ⟨ob, 4, none⟩) hn0.out (.bool false)
      replace hQ := hQ.other (a := ⟨ob, 4, none⟩) hn1.out (.bool false)
      replace hR := hR.other (a := ⟨ob, 4, none⟩) hn2.out (.bool false)
      try simp only [Act.put, gzD, gzE, gzF]
      refine wb_pureZ 6 (some 91) (v := ?_) ?_ ?_; rotate_left; · (intro u; go_simp; try with_reducible rfl)
      try simp only [Act.put, gzD, gzE, gzF]
      refine wb_oneZ 7 (fun K hK => ?_)
      have c12 := hO.cell (i := 12) rfl
      have f12 := hO.free 12
      go_simp
      refine hK _ _ (Kb.setCell1 hn0.out _) ?_
      clear hK K c12 f12
      replace hbw := hbw.setCell (p := ⟨ob, 12, none⟩) hob.out (.string ⟨#[]⟩)
      replace hO : Blk _ ob [.slice (some ⟨k4, 0, none⟩) 1 c4, .slice A10 0 c10, .bool false, .bool false, .bool false, .string ⟨#[]⟩, .string ⟨#[]⟩, .string ⟨#[]⟩, .slice none 0 0, .slice none 0 0, .slice none 0 0, .slice none 0 0, .string ⟨#[]⟩] 88 := hO.set 12 (.string ⟨#[]⟩)
      replace hP := hP.other (a := ⟨ob, 12, none⟩) hn0.out (.string ⟨#[]⟩)
      replace hQ := hQ.other (a := ⟨ob, 12, none⟩) hn1.out (.string ⟨#[]⟩)
      replace hR := hR.other (a := ⟨ob, 12, none⟩) hn2.out (.string ⟨#[]⟩)
      try simp only [Act.put, gzD, gzE, gzF]
      refine wb_done (by kernel_rfl) ?_ _
      skip
      go_upto_region 24 with fail
      refine wb_begin ([ob]) [7, 9] (by kernel_rfl) (fun u0 hb0' hz0' => ?_)
      replace hP := hP.below hb0'
      replace hQ := hQ.below hb0'
      replace hR := hR.below hb0'
      replace hO := hO.below hb0'
      replace hbw := hbw.trans (hb0'.mono hbw.size)
      clear hb0' hz0'
      refine wb_pureZ 0 (some 92) (v := ?_) ?_ ?_; rotate_left; · (intro u; go_simp; try with_reducible rfl)
      try simp only [Act.put, gzD, gzE, gzF]
      refine wb_takeZ 1 (some 93) (v := ?_) ?_ ?_; rotate_left; · (intro u hu; have ka := hO.kb hu (List.mem_singleton.2 rfl); have a5 := ka.cell (i := 5) rfl; have a6 := ka.cell (i := 6) rfl; have a7 := ka.cell (i := 7) rfl; have a8 := ka.cell (i := 8) rfl; have a9 := ka.cell (i := 9) rfl; have a10 := ka.cell (i := 10) rfl; have a11 := ka.cell (i := 11) rfl; clear ka; go_simp; try with_reducible rfl)
      try simp only [Act.put, gzD, gzE, gzF]
      refine wb_pureZ 3 (some 95) (v := ?_) ?_ ?_; rotate_left; · (intro u; go_simp; try with_reducible rfl)
      try simp only [Act.put, gzD, gzE, gzF]
      refine wb_takeZ 4 (some 96) (v := ?_) ?_ ?_; rotate_left; · (intro u hu; have ka := hO.kb hu (List.mem_singleton.2 rfl); have a5 := ka.cell (i := 5) rfl; have a6 := ka.cell (i := 6) rfl; have a7 := ka.cell (i := 7) rfl; have a8 := ka.cell (i := 8) rfl; have a9 := ka.cell (i := 9) rfl; have a10 := ka.cell (i := 10) rfl; have a11 := ka.cell (i := 11) rfl; clear ka; go_simp; try with_reducible rfl)
      try simp only [Act.put, gzD, gzE, gzF]
      refine wb_oneZ 2 (fun K hK => ?_)
      go_simp
      refine (copyNodeZero_any _).mono ?_
      rintro e u2 ⟨rfl, hb2⟩
      refine hK _ _ (Kb.below hb2 (by intro q hq; rw [List.mem_singleton.1 hq]; exact hO.lt)) ?_
      clear hK K
      replace hP := hP.below hb2
      replace hQ := hQ.below hb2
      replace hR := hR.below hb2
      replace hO := hO.below hb2
      replace hbw := hbw.trans (hb2.mono hbw.size)
      clear hb2
      try simp only [Act.put, gzD, gzE, gzF]
      refine wb_pureZ 6 (some 98) (v := ?_) ?_ ?_; rotate_left; · (intro u; go_simp; try with_reducible rfl)
      try simp only [Act.put, gzD, gzE, gzF]
      refine wb_oneZ 5 (fun K hK => ?_)
      go_simp
      refine (cloneRowsNil_any _).mono ?_
      rintro e u5 ⟨⟨A5, c5, rfl⟩, hb5⟩
      refine hK _ _ (Kb.below hb5 (by intro q hq; rw [List.mem_singleton.1 hq]; exact hO.lt)) ?_
      clear hK K
      replace hP := hP.below hb5
      replace hQ := hQ.below hb5
      replace hR := hR.below hb5
      replace hO := hO.below hb5
      replace hbw := hbw.trans (hb5.mono hbw.size)
      clear hb5
      try simp only [Act.put, gzD, gzE, gzF]
      refine wb_store (i := 7) (by simp only [gzA, gzB, gzC] <;> rfl) (by kernel_rfl) (by rfl) (by kernel_rfl) (fun K hK => ?_)
      have c5 := hO.cell (i := 5) rfl
      have f5 := hO.free 5
      have c6 := hO.cell (i := 6) rfl
      have f6 := hO.free 6
      have c7 := hO.cell (i := 7) rfl
      have f7 := hO.free 7
      have c8 := hO.cell (i := 8) rfl
      have f8 := hO.free 8
      have c9 := hO.cell (i := 9) rfl
      have f9 := hO.free 9
      have c10 := hO.cell (i := 10) rfl
      have f10 := hO.free 10
      go_simp
      refine hK _ _ ?_
      clear hK K c5 f5 c6 f6 c7 f7 c8 f8 c9 f9 c10 f10
      replace hbw := hbw.setCell (p := ⟨ob, 5, none⟩) hob.out (.string ⟨#[]⟩)
      replace hO : Blk _ ob [.slice (some ⟨k4, 0, none⟩) 1 c4, .slice A10 0 c10, .bool false, .bool false, .bool false, .string ⟨#[]⟩, .string ⟨#[]⟩, .string ⟨#[]⟩, .slice none 0 0, .slice none 0 0, .slice none 0 0, .slice none 0 0, .string ⟨#[]⟩] 88 := hO.set 5 (.string ⟨#[]⟩)
      replace hP := hP.other (a := ⟨ob, 5, none⟩) hn0.out (.string ⟨#[]⟩)
      replace hQ := hQ.other (a := ⟨ob, 5, none⟩) hn1.out (.string ⟨#[]⟩)
      replace hR := hR.other (a := ⟨ob, 5, none⟩) hn2.out (.string ⟨#[]⟩)
      replace hbw := hbw.setCell (p := ⟨ob, 6, none⟩) hob.out (.string ⟨#[]⟩)
      replace hO : Blk _ ob [.slice (some ⟨k4, 0, none⟩) 1 c4, .slice A10 0 c10, .bool false, .bool false, .bool false, .string ⟨#[]⟩, .string ⟨#[]⟩, .string ⟨#[]⟩, .slice none 0 0, .slice none 0 0, .slice none 0 0, .slice none 0 0, .string ⟨#[]⟩] 88 := hO.set 6 (.string ⟨#[]⟩)
      replace hP := hP.other (a := ⟨ob, 6, none⟩) hn0.out (.string ⟨#[]⟩)
      replace hQ := hQ.other (a := ⟨ob, 6, none⟩) hn1.out (.string ⟨#[]⟩)
      replace hR := hR.other (a := ⟨ob, 6, none⟩) hn2.out (.string ⟨#[]⟩)
      replace hbw := hbw.setCell (p := ⟨ob, 7, none⟩) hob.out (.string ⟨#[]⟩)
      replace hO : Blk _ ob [.slice (some ⟨k4, 0, none⟩) 1 c4, .slice A10 0 c10, .bool false, .bool false, .bool false, .string ⟨#[]⟩, .string ⟨#[]⟩, .string ⟨#[]⟩, .slice none 0 0, .slice none 0 0, .slice none 0 0, .slice none 0 0, .string ⟨#[]⟩] 88 := hO.set 7 (.string ⟨#[]⟩)
      replace hP := hP.other (a := ⟨ob, 7, none⟩) hn0.out (.string ⟨#[]⟩)
      replace hQ := hQ.other (a := ⟨ob, 7, none⟩) hn1.out (.string ⟨#[]⟩)
      replace hR := hR.other (a := ⟨ob, 7, none⟩) hn2.out (.string ⟨#[]⟩)
      replace hbw := hbw.setCell (p := ⟨ob, 8, none⟩) hob.out (.slice none 0 0)
      replace hO : Blk _ ob [.slice (some ⟨k4, 0, none⟩) 1 c4, .slice A10 0 c10, .bool false, .bool false, .bool false, .string ⟨#[]⟩, .string ⟨#[]⟩, .string ⟨#[]⟩, .slice none 0 0, .slice none 0 0, .slice none 0 0, .slice none 0 0, .string ⟨#[]⟩] 88 := hO.set 8 (.slice none 0 0)
      replace hP := hP.other (a := ⟨ob, 8, none⟩) hn0.out (.slice none 0 0)
      replace hQ := hQ.other (a := ⟨ob, 8, none⟩) hn1.out (.slice none 0 0)
      replace hR := hR.other (a := ⟨ob, 8, none⟩) hn2.out (.slice none 0 0)
      replace hbw := hbw.setCell (p := ⟨ob, 9, none⟩) hob.out (.slice none 0 0)
      replace hO : Blk _ ob [.slice (some ⟨k4, 0, none⟩) 1 c4, .slice A10 0 c10, .bool false, .bool false, .bool false, .string ⟨#[]⟩, .string ⟨#[]⟩, .string ⟨#[]⟩, .slice none 0 0, .slice none 0 0, .slice none 0 0, .slice none 0 0, .string ⟨#[]⟩] 88 := hO.set 9 (.slice none 0 0)
      replace hP := hP.other (a := ⟨ob, 9, none⟩) hn0.out (.slice none 0 0)
      replace hQ := hQ.other (a := ⟨ob, 9, none⟩) hn1.out (.slice none 0 0)
      replace hR := hR.other (a := ⟨ob, 9, none⟩) hn2.out (.slice none 0 0)
      replace hbw := hbw.setCell (p := ⟨ob, 10, none⟩) hob.out (.slice none 0 0)
      replace hO : Blk _ ob [.slice (some ⟨k4, 0, none⟩) 1 c4, .slice A10 0 c10, .bool false, .bool false, .bool false, .string ⟨#[]⟩, .string ⟨#[]⟩, .string ⟨#[]⟩, .slice none 0 0, .slice none 0 0, .slice none 0 0, .slice none 0 0, .string ⟨#[]⟩] 88 := hO.set 10 (.slice none 0 0)
      replace hP := hP.other (a := ⟨ob, 10, none⟩) hn0.out (.slice none 0 0)
      replace hQ := hQ.other (a := ⟨ob, 10, none⟩) hn1.out (.slice none 0 0)
      replace hR := hR.other (a := ⟨ob, 10, none⟩) hn2.out (.slice none 0 0)
      try simp only [Act.put, gzD, gzE, gzF]
      refine wb_pureZ 8 (some 99) (v := ?_) ?_ ?_; rotate_left; · (intro u; go_simp; try with_reducible rfl)
      try simp only [Act.put, gzD, gzE, gzF]
      refine wb_store (i := 9) (by simp only [gzA, gzB, gzC] <;> rfl) (by kernel_rfl) (by rfl) (by kernel_rfl) (fun K hK => ?_)
      have c11 := hO.cell (i := 11) rfl
      have f11 := hO.free 11
      go_simp
      refine hK _ _ ?_
      clear hK K c11 f11
      replace hbw := hbw.setCell (p := ⟨ob, 11, none⟩) hob.out (.slice A5 0 c5)
      replace hO : Blk _ ob [.slice (some ⟨k4, 0, none⟩) 1 c4, .slice A10 0 c10, .bool false, .bool false, .bool false, .string ⟨#[]⟩, .string ⟨#[]⟩, .string ⟨#[]⟩, .slice none 0 0, .slice none 0 0, .slice none 0 0, .slice A5 0 c5, .string ⟨#[]⟩] 88 := hO.set 11 (.slice A5 0 c5)
      replace hP := hP.other (a := ⟨ob, 11, none⟩) hn0.out (.slice A5 0 c5)
      replace hQ := hQ.other (a := ⟨ob, 11, none⟩) hn1.out (.slice A5 0 c5)
      replace hR := hR.other (a := ⟨ob, 11, none⟩) hn2.out (.slice A5 0 c5)
      try simp only [Act.put, gzD, gzE, gzF]
      refine wb_done (by kernel_rfl) ?_ _
      skip
      go_upto_region 25 with fail
      have lo := hO.ld rowPa rfl
      have s1 := stT_row rowPa hR (cs := (paR k4 c4 A10 c10 A5 c5)) rfl rfl (oneAll rfl)
      go_wp2_with fail
      have z1 := hR.rowU (paR k4 c4 A10 c10 A5 c5)
      have z2 := below_rowP hbw (show w.heap.size ≤ w.heap.size + 1 + 1 by omega) ((paR k4 c4 A10 c10 A5 c5)).toArray
      exact bodyPost_ret (v := .agg (paR k4 c4 A10 c10 A5 c5).toArray) (results_cell_row rfl _ _ (w.heap.size + 1 + 1) 88 (paR k4 c4 A10 c10 A5 c5).toArray (0, 0) _ rfl z1 Tryz.underlying88 rfl (by kernel_rfl)) rfl ⟨⟨k4, c4, A10, c10, A5, c5, rfl⟩, z2⟩
  · go_simp
    refine hK _ _ (Kb.gb (World.grownBy_alloc _ _ none) (by intro q hq; rw [List.mem_singleton.1 hq]; exact ⟨hQ.lt, by simp⟩)) ?_
    clear hK K
    refine wb_new (cs := [.slice none 0 0, .slice none 0 0]) (t := 82) (fun u8 hv8 hL8 hz8 => ?_)
    replace hP := hP.below hv8
    replace hQ := hQ.below hv8
    replace hR := hR.below hv8
    replace hO := hO.below hv8
    replace hbw := hbw.trans (hv8.mono hbw.size)
    try replace hs1 := hs1.below hv8
    try replace hL3 := hL3.below hv8
    clear hv8 hz8
    try simp only [Act.put, gzD, gzE, gzF]
    refine wb_oneZ 3 (fun K hK => ?_)
    go_simp
    refine hK _ _ (Kb.gb (World.grownBy_alloc _ _ none) (by intro q hq; rw [List.mem_singleton.1 hq]; exact ⟨hQ.lt, by simp⟩)) ?_
    clear hK K
    refine wb_new (cs := [.slice (some ⟨k1, 0, none⟩) 1 c1, .slice none 0 0]) (t := 81) (fun u3 hv3 hL3 hz3 => ?_)
    replace hP := hP.below hv3
    replace hQ := hQ.below hv3
    replace hR := hR.below hv3
    replace hO := hO.below hv3
    replace hbw := hbw.trans (hv3.mono hbw.size)
    try replace hs1 := hs1.below hv3
    try replace hL8 := hL8.below hv3
    clear hv3 hz3
    try simp only [Act.put, gzD, gzE, gzF]
    refine wb_oneZ 4 (fun K hK => ?_)
    go_simp
    refine (concatStr_any _ _ _ _ _ _ _ _ _ _ hL3 hs1 (SlE.nil _) (by decide) (by decide)).mono ?_
    rintro e u4 ⟨⟨v4, rfl, ho4⟩, hb4⟩
    obtain ⟨k4, c4, hv4, _⟩ := ho4.form (by simp)
    replace hv4 : v4 = .slice (some ⟨k4, 0, none⟩) 1 c4 := hv4
    subst hv4
    refine hK _ _ (Kb.below hb4 (by intro q hq; rw [List.mem_singleton.1 hq]; exact hQ.lt)) ?_
    clear hK K ho4
    replace hP := hP.below hb4
    replace hQ := hQ.below hb4
    replace hR := hR.below hb4
    replace hO := hO.below hb4
    replace hbw := hbw.trans (hb4.mono hbw.size)
    try replace hL8 := hL8.below hb4
    clear hb4 hL3 hs1
    try simp only [Act.put, gzD, gzE, gzF]
    refine wb_pureZ 11 (some 57) (v := ?_) ?_ ?_; rotate_left; · (intro u; go_simp; try with_reducible rfl)
    try simp only [Act.put, gzD, gzE, gzF]
    refine wb_oneZ 9 (fun K hK => ?_)
    go_simp
    refine (concatNilPe_any _ _ hL8).mono ?_
    rintro e w9 ⟨rfl, rfl⟩
    refine hK _ _ (Kb.refl _ _) ?_
    clear hK K
    try simp only [Act.put, gzD, gzE, gzF]
    refine wb_oneZ 10 (fun K hK => ?_)
    go_simp
    refine (clonePeersNil_any _).mono ?_
    rintro e u10 ⟨⟨A10, c10, rfl⟩, hb10⟩
    refine hK _ _ (Kb.below hb10 (by intro q hq; rw [List.mem_singleton.1 hq]; exact hQ.lt)) ?_
    clear hK K
    replace hP := hP.below hb10
    replace hQ := hQ.below hb10
    replace hR := hR.below hb10
    replace hO := hO.below hb10
    replace hbw := hbw.trans (hb10.mono hbw.size)
    clear hb10 hL8
    try simp only [Act.put, gzD, gzE, gzF]
    refine wb_oneZ 12 (fun K hK => ?_)
    have c0 := hO.cell (i := 0) rfl
    have f0 := hO.free 0
    go_simp
    refine hK _ _ (Kb.setCell1 hn1.out _) ?_
    clear hK K c0 f0
    replace hbw := hbw.setCell (p := ⟨ob, 0, none⟩) hob.out (.slice (some ⟨k4, 0, none⟩) 1 c4)
    replace hO : Blk _ ob [.slice (some ⟨k4, 0, none⟩) 1 c4, .slice none 0 0, .bool false, .bool false, .bool false, .string ⟨#[]⟩, .string ⟨#[]⟩, .string ⟨#[]⟩, .slice none 0 0, .slice none 0 0, .slice none 0 0, .slice none 0 0, .string ⟨#[]⟩] 88 := hO.set 0 (.slice (some ⟨k4, 0, none⟩) 1 c4)
    replace hP := hP.other (a := ⟨ob, 0, none⟩) hn0.out (.slice (some ⟨k4, 0, none⟩) 1 c4)
    replace hQ := hQ.other (a := ⟨ob, 0, none⟩) hn1.out (.slice (some ⟨k4, 0, none⟩) 1 c4)
    replace hR := hR.other (a := ⟨ob, 0, none⟩) hn2.out (.slice (some ⟨k4, 0, none⟩) 1 c4)
    try simp only [Act.put, gzD, gzE, gzF]
    refine wb_pureZ 13 (some 58) (v := ?_) ?_ ?_; rotate_left; · (intro u; go_simp; try with_reducible rfl)
    try simp only [Act.put, gzD, gzE, gzF]
    refine wb_oneZ 14 (fun K hK => ?_)
    have c1 := hO.cell (i := 1) rfl
    have f1 := hO.free 1
    go_simp
    refine hK _ _ (Kb.setCell1 hn1.out _) ?_
    clear hK K c1 f1
    replace hbw := hbw.setCell (p := ⟨ob, 1, none⟩) hob.out (.slice A10 0 c10)
    replace hO : Blk _ ob [.slice (some ⟨k4, 0, none⟩) 1 c4, .slice A10 0 c10, .bool false, .bool false, .bool false, .string ⟨#[]⟩, .string ⟨#[]⟩, .string ⟨#[]⟩, .slice none 0 0, .slice none 0 0, .slice none 0 0, .slice none 0 0, .string ⟨#[]⟩] 88 := hO.set 1 (.slice A10 0 c10)
    replace hP := hP.other (a := ⟨ob, 1, none⟩) hn0.out (.slice A10 0 c10)
    replace hQ := hQ.other (a := ⟨ob, 1, none⟩) hn1.out (.slice A10 0 c10)
    replace hR := hR.other (a := ⟨ob, 1, none⟩) hn2.out (.slice A10 0 c10)
    try simp only [Act.put, gzD, gzE, gzF]
    refine wb_done (by kernel_rfl) ?_ _
    go_upto_region 16 with fail
    have o0 := hO.cell (i := 0) rfl
    go_wp2_with fail
    refine (sort1St_any _ _ _).mono ?_
    rintro e w7 ⟨rfl, rfl⟩
    clear o0
    have o1 := hO.cell (i := 1) rfl
    go_wp2_with fail
    refine (sortNilPe_any _ _ _ _).mono ?_
    rintro e w7 ⟨rfl, rfl⟩
    clear o1
    have q2 := hQ.cell (i := 2) rfl
    go_upto_region 19 with fail
    clear q2
    refine wb_begin ([w.heap.size]) [] (by kernel_rfl) (fun u0 hb0' hz0' => ?_)
    replace hP := hP.below hb0'
    replace hQ := hQ.below hb0'
    replace hR := hR.below hb0'
    replace hO := hO.below hb0'
    replace hbw := hbw.trans (hb0'.mono hbw.size)
    clear hb0' hz0'
    refine wb_pureZ 0 (some 68) (v := ?_) ?_ ?_; rotate_left; · (intro u; go_simp; try with_reducible rfl)
    try simp only [Act.put, gzD, gzE, gzF]
    refine wb_takeZ 1 (some 69) (v := ?_) ?_ ?_; rotate_left; · (intro u hu; have ka := hP.kb hu (List.mem_singleton.2 rfl); have a2 := ka.cell (i := 2) rfl; have a5 := ka.cell (i := 5) rfl; have a6 := ka.cell (i := 6) rfl; have a7 := ka.cell (i := 7) rfl; have a8 := ka.cell (i := 8) rfl; have a9 := ka.cell (i := 9) rfl; have a10 := ka.cell (i := 10) rfl; clear ka; go_simp; try with_reducible rfl)
    try simp only [Act.put, gzD, gzE, gzF]
    refine wb_pureZ 2 (some 70) (v := ?_) ?_ ?_; rotate_left; · (intro u; go_simp; try with_reducible rfl)
    try simp only [Act.put, gzD, gzE, gzF]
    refine wb_takeZ 3 (some 71) (v := ?_) ?_ ?_; rotate_left; · (intro u hu; have ka := hP.kb hu (List.mem_singleton.2 rfl); have a2 := ka.cell (i := 2) rfl; have a5 := ka.cell (i := 5) rfl; have a6 := ka.cell (i := 6) rfl; have a7 := ka.cell (i := 7) rfl; have a8 := ka.cell (i := 8) rfl; have a9 := ka.cell (i := 9) rfl; have a10 := ka.cell (i := 10) rfl; clear ka; go_simp; try with_reducible rfl)
    try simp only [Act.put, gzD, gzE, gzF]
    refine wb_pureZ 4 (some 72) (v := ?_) ?_ ?_; rotate_left; · (intro u; go_simp; try with_reducible rfl)
    try simp only [Act.put, gzD, gzE, gzF]
    refine wb_oneZ 5 (fun K hK => ?_)
    have c2 := hO.cell (i := 2) rfl
    have f2 := hO.free 2
    go_simp
    refine hK _ _ (Kb.setCell1 hn0.out _) ?_
    clear hK K c2 f2
    replace hbw := hbw.setCell (p := ⟨ob, 2, none⟩) hob.out (.bool false)
    replace hO : Blk _ ob [.slice (some ⟨k4, 0, none⟩) 1 c4, .slice A10 0 c10, .bool false, .bool false, .bool false, .string ⟨#[]⟩, .string ⟨#[]⟩, .string ⟨#[]⟩, .slice none 0 0, .slice none 0 0, .slice none 0 0, .slice none 0 0, .string ⟨#[]⟩] 88 := hO.set 2 (.bool false)
    replace hP := hP.other (a := ⟨ob, 2, none⟩) hn0.out (.bool false)
    replace hQ := hQ.other (a := ⟨ob, 2, none⟩) hn1.out (.bool false)
    replace hR := hR.other (a := ⟨ob, 2, none⟩) hn2.out (.bool false)
    try simp only [Act.put, gzD, gzE, gzF]
    refine wb_pureZ 6 (some 73) (v := ?_) ?_ ?_; rotate_left; · (intro u; go_simp; try with_reducible rfl)
    try simp only [Act.put, gzD, gzE, gzF]
    refine wb_oneZ 7 (fun K hK => ?_)
    have c5 := hO.cell (i := 5) rfl
    have f5 := hO.free 5
    have c6 := hO.cell (i := 6) rfl
    have f6 := hO.free 6
    have c7 := hO.cell (i := 7) rfl
    have f7 := hO.free 7
    have c8 := hO.cell (i := 8) rfl
    have f8 := hO.free 8
    have c9 := hO.cell (i := 9) rfl
    have f9 := hO.free 9
    have c10 := hO.cell (i := 10) rfl
    have f10 := hO.free 10
    go_simp
    refine hK _ _ ((((((Kb.setCell1 hn0.out _).trans (Kb.setCell1 hn0.out _)).trans (Kb.setCell1 hn0.out _)).trans (Kb.setCell1 hn0.out _)).trans (Kb.setCell1 hn0.out _)).trans (Kb.setCell1 hn0.out _)) ?_
    clear hK K c5 f5 c6 f6 c7 f7 c8 f8 c9 f9 c10 f10
    replace hbw := hbw.setCell (p := ⟨ob, 5, none⟩) hob.out (.string ⟨#[]⟩)
    replace hO : Blk _ ob [.slice (some ⟨k4, 0, none⟩) 1 c4, .slice A10 0 c10, .bool false, .bool false, .bool false, .string ⟨#[]⟩, .string ⟨#[]⟩, .string ⟨#[]⟩, .slice none 0 0, .slice none 0 0, .slice none 0 0, .slice none 0 0, .string ⟨#[]⟩] 88 := hO.set 5 (.string ⟨#[]⟩)
    replace hP := hP.other (a := ⟨ob, 5, none⟩) hn0.out (.string ⟨#[]⟩)
    replace hQ := hQ.other (a := ⟨ob, 5, none⟩) hn1.out (.string ⟨#[]⟩)
    replace hR := hR.other (a := ⟨ob, 5, none⟩) hn2.out (.string ⟨#[]⟩)
    replace hbw := hbw.setCell (p := ⟨ob, 6, none⟩) hob.out (.string ⟨#[]⟩)
    replace hO : Blk _ ob [.slice (some ⟨k4, 0, none⟩) 1 c4, .slice A10 0 c10, .bool false, .bool false, .bool false, .string ⟨#[]⟩, .string ⟨#[]⟩, .string ⟨#[]⟩, .slice none 0 0, .slice none 0 0, .slice none 0 0, .slice none 0 0, .string ⟨#[]⟩] 88 := hO.set 6 (.string ⟨#[]⟩)
    replace hP := hP.other (a := ⟨ob, 6, none⟩) hn0.out (.string ⟨#[]⟩)
    replace hQ := hQ.other (a := ⟨ob, 6, none⟩) hn1.out (.string ⟨#[]⟩)
    replace hR := hR.other (a := ⟨ob, 6, none⟩) hn2.out (.string ⟨#[]⟩)
    replace hbw := hbw.setCell (p := ⟨ob, 7, none⟩) hob.out (.string ⟨#[]⟩)
    replace hO : Blk _ ob [.slice (some ⟨k4, 0, none⟩) 1 c4, .slice A10 0 c10, .bool false, .bool false, .bool false, .string ⟨#[]⟩, .string ⟨#[]⟩, .string ⟨#[]⟩, .slice none 0 0, .slice none 0 0, .slice none 0 0, .slice none 0 0, .string ⟨#[]⟩] 88 := hO.set 7 (.string ⟨#[]⟩)
    replace hP := hP.other (a := ⟨ob, 7, none⟩) hn0.out (.string ⟨#[]⟩)
    replace hQ := hQ.other (a := ⟨ob, 7, none⟩) hn1.out (.string ⟨#[]⟩)
    replace hR := hR.other (a := ⟨ob, 7, none⟩) hn2.out (.string ⟨#[]⟩)
    replace hbw := hbw.setCell (p := ⟨ob, 8, none⟩) hob.out (.slice none 0 0)
    replace hO : Blk _ ob [.slice (some ⟨k4, 0, none⟩) 1 c4, .slice A10 0 c10, .bool false, .bool false, .bool false, .string ⟨#[]⟩, .string ⟨#[]⟩, .string ⟨#[]⟩, .slice none 0 0, .slice none 0 0, .slice none 0 0, .slice none 0 0, .string ⟨#[]⟩] 88 := hO.set 8 (.slice none 0 0)
    replace hP := hP.other (a := ⟨ob, 8, none⟩) hn0.out (.slice none 0 0)
    replace hQ := hQ.other (a := ⟨ob, 8, none⟩) hn1.out (.slice none 0 0)
    replace hR := hR.other (a := ⟨ob, 8, none⟩) hn2.out (.slice none 0 0)
    replace hbw := hbw.setCell (p := ⟨ob, 9, none⟩) hob.out (.slice none 0 0)
    replace hO : Blk _ ob [.slice (some ⟨k4, 0, none⟩) 1 c4, .slice A10 0 c10, .bool false, .bool false, .bool false, .string ⟨#[]⟩, .string ⟨#[]⟩, .string ⟨#[]⟩, .slice none 0 0, .slice none 0 0, .slice none 0 0, .slice none 0 0, .string ⟨#[]⟩] 88 := hO.set 9 (.slice none 0 0)
    replace hP := hP.other (a := ⟨ob, 9, none⟩) hn0.out (.slice none 0 0)
    replace hQ := hQ.other (a := ⟨ob, 9, none⟩) hn1.out (.slice none 0 0)
    replace hR := hR.other (a := ⟨ob, 9, none⟩) hn2.out (.slice none 0 0)
    replace hbw := hbw.setCell (p := ⟨ob, 10, none⟩) hob.out (.slice none 0 0)
    replace hO : Blk _ ob [.slice (some ⟨k4, 0, none⟩) 1 c4, .slice A10 0 c10, .bool false, .bool false, .bool false, .string ⟨#[]⟩, .string ⟨#[]⟩, .string ⟨#[]⟩, .slice none 0 0, .slice none 0 0, .slice none 0 0, .slice none 0 0, .string ⟨#[]⟩] 88 := hO.set 10 (.slice none 0 0)
    replace hP := hP.other (a := ⟨ob, 10, none⟩) hn0.out (.slice none 0 0)
    replace hQ := hQ.other (a := ⟨ob, 10, none⟩) hn1.out (.slice none 0 0)
    replace hR := hR.other (a := ⟨ob, 10, none⟩) hn2.out (.slice none 0 0)
    try simp only [Act.put, gzD, gzE, gzF]
    refine wb_done (by kernel_rfl) ?_ _
    skip
    have q3 := hQ.cell (i := 3) rfl
    go_upto_region 21 with fail
    clear q3
    refine wb_begin ([w.heap.size]) [] (by kernel_rfl) (fun u0 hb0' hz0' => ?_)
    replace hP := hP.below hb0'
    replace hQ := hQ.below hb0'
    replace hR := hR.below hb0'
    replace hO := hO.below hb0'
    replace hbw := hbw.trans (hb0'.mono hbw.size)
    clear hb0' hz0'
    refine wb_pureZ 0 (some 77) (v := ?_) ?_ ?_; rotate_left; · (intro u; go_simp; try with_reducible rfl)
    try simp only [Act.put, gzD, gzE, gzF]
    refine wb_takeZ 1 (some 78) (v := ?_) ?_ ?_; rotate_left; · (intro u hu; have ka := hP.kb hu (List.mem_singleton.2 rfl); have a3 := ka.cell (i := 3) rfl; have a11 := ka.cell (i := 11) rfl; clear ka; go_simp; try with_reducible rfl)
    try simp only [Act.put, gzD, gzE, gzF]
    refine wb_pureZ 2 (some 79) (v := ?_) ?_ ?_; rotate_left; · (intro u; go_simp; try with_reducible rfl)
    try simp only [Act.put, gzD, gzE, gzF]
    refine wb_takeZ 3 (some 80) (v := ?_) ?_ ?_; rotate_left; · (intro u hu; have ka := hP.kb hu (List.mem_singleton.2 rfl); have a3 := ka.cell (i := 3) rfl; have a11 := ka.cell (i := 11) rfl; clear ka; go_simp; try with_reducible rfl)
    try simp only [Act.put, gzD, gzE, gzF]
    refine wb_pureZ 4 (some 81) (v := ?_) ?_ ?_; rotate_left; · (intro u; go_simp; try with_reducible rfl)
    try simp only [Act.put, gzD, gzE, gzF]
    refine wb_oneZ 5 (fun K hK => ?_)
    have c3 := hO.cell (i := 3) rfl
    have f3 := hO.free 3
    go_simp
    refine hK _ _ (Kb.setCell1 hn0.out _) ?_
    clear hK K c3 f3
    replace hbw := hbw.setCell (p := ⟨ob, 3, none⟩) hob.out (.bool false)
    replace hO : Blk _ ob [.slice (some ⟨k4, 0, none⟩) 1 c4, .slice A10 0 c10, .bool false, .bool false, .bool false, .string ⟨#[]⟩, .string ⟨#[]⟩, .string ⟨#[]⟩, .slice none 0 0, .slice none 0 0, .slice none 0 0, .slice none 0 0, .string ⟨#[]⟩] 88 := hO.set 3 (.bool false)
    replace hP := hP.other (a := ⟨ob, 3, none⟩) hn0.out (.bool false)
    replace hQ := hQ.other (a := ⟨ob, 3, none⟩) hn1.out (.bool false)
    replace hR := hR.other (a := ⟨ob, 3, none⟩) hn2.out (.bool false)
    try simp only [Act.put, gzD, gzE, gzF]
    refine wb_pureZ 6 (some 82) (v := ?_) ?_ ?_; rotate_left; · (intro u; go_simp; try with_reducible rfl)
    try simp only [Act.put, gzD, gzE, gzF]
    refine wb_oneZ 7 (fun K hK => ?_)
    have c11 := hO.cell (i := 11) rfl
    have f11 := hO.free 11
    go_simp
    refine hK _ _ (Kb.setCell1 hn0.out _) ?_
    clear hK K c11 f11
    replace hbw := hbw.setCell (p := ⟨ob, 11, none⟩) hob.out (.slice none 0 0)
    replace hO : Blk _ ob [.slice (some ⟨k4, 0, none⟩) 1 c4, .slice A10 0 c10, .bool false, .bool false, .bool false, .string ⟨#[]⟩, .string ⟨#[]⟩, .string ⟨#[]⟩, .slice none 0 0, .slice none 0 0, .slice none 0 0, .slice none 0 0, .string ⟨#[]⟩] 88 := hO.set 11 (.slice none 0 0)
    replace hP := hP.other (a := ⟨ob, 11, none⟩) hn0.out (.slice none 0 0)
    replace hQ := hQ.other (a := ⟨ob, 11, none⟩) hn1.out (.slice none 0 0)
    replace hR := hR.other (a := ⟨ob, 11, none⟩) hn2.out (.slice none 0 0)
    try simp only [Act.put, gzD, gzE, gzF]
    refine wb_done (by kernel_rfl) ?_ _
    skip
    have q4 := hQ.cell (i := 4) rfl
    go_upto_region 23 with fail
    clear q4
    refine wb_begin ([w.heap.size]) [] (by kernel_rfl) (fun u0 hb0' hz0' => ?_)
    replace hP := hP.below hb0'
    replace hQ := hQ.below hb0'
    replace hR := hR.below hb0'
    replace hO := hO.below hb0'
    replace hbw := hbw.trans (hb0'.mono hbw.size)
    clear hb0' hz0'
    refine wb_pureZ 0 (some 86) (v := ?_) ?_ ?_; rotate_left; · (intro u; go_simp; try with_reducible rfl)
    try simp only [Act.put, gzD, gzE, gzF]
    refine wb_takeZ 1 (some 87) (v := ?_) ?_ ?_; rotate_left; · (intro u hu; have ka := hP.kb hu (List.mem_singleton.2 rfl); have a4 := ka.cell (i := 4) rfl; have a12 := ka.cell (i := 12) rfl; clear ka; go_simp; try with_reducible rfl)
    try simp only [Act.put, gzD, gzE, gzF]
    refine wb_pureZ 2 (some 88) (v := ?_) ?_ ?_; rotate_left; · (intro u; go_simp; try with_reducible rfl)
    try simp only [Act.put, gzD, gzE, gzF]
    refine wb_takeZ 3 (some 89) (v := ?_) ?_ ?_; rotate_left; · (intro u hu; have ka := hP.kb hu (List.mem_singleton.2 rfl); have a4 := ka.cell (i := 4) rfl; have a12 := ka.cell (i := 12) rfl; clear ka; go_simp; try with_reducible rfl)
    try simp only [Act.put, gzD, gzE, gzF]
    refine wb_pureZ 4 (some 90) (v := ?_) ?_ ?_; rotate_left; · (intro u; go_simp; try with_reducible rfl)
    try simp only [Act.put, gzD, gzE, gzF]
    refine wb_oneZ 5 (fun K hK => ?_)
    have c4 := hO.cell (i := 4) rfl
    have f4 := hO.free 4
    go_simp
    refine hK _ _ (Kb.setCell1 hn0.out _) ?_
    clear hK K c4 f4
    replace hbw := hbw.setCell (p := ⟨ob, 4, none⟩) hob.out (.bool false)
    replace hO : Blk _ ob [.slice (some ⟨k4, 0, none⟩) 1 c4, .slice A10 0 c10, .bool false, .bool false, .bool false, .string ⟨#[]⟩, .string ⟨#[]⟩, .string ⟨#[]⟩, .slice none 0 0, .slice none 0 0, .slice none 0 0, .slice none 0 0, .string ⟨#[]⟩] 88 := hO.set 4 (.bool false)
    replace hP := hP.other (a := ⟨ob, 4, none⟩) hn0.out (.bool false)
    replace hQ := hQ.other (a := ⟨ob, 4, none⟩) hn1.out (.bool false)
    replace hR := hR.other (a := ⟨ob, 4, none⟩) hn2.out (.bool false)
    try simp only [Act.put, gzD, gzE, gzF]
    refine wb_pureZ 6 (some 91) (v := ?_) ?_ ?_; rotate_left; · (intro u; go_simp; try with_reducible rfl)
    try simp only [Act.put, gzD, gzE, gzF]
    refine wb_oneZ 7 (fun K hK => ?_)
    have c12 := hO.cell (i := 12) rfl
    have f12 := hO.free 12
    go_simp
    refine hK _ _ (Kb.setCell1 hn0.out _) ?_
    clear hK K c12 f12
    replace hbw := hbw.setCell (p := ⟨ob, 12, none⟩) hob.out (.string ⟨#[]⟩)
    replace hO : Blk _ ob [.slice (some ⟨k4, 0, none⟩) 1 c4, .slice A10 0 c10, .bool false, .bool false, .bool false, .string ⟨#[]⟩, .string ⟨#[]⟩, .string ⟨#[]⟩, .slice none 0 0, .slice none 0 0, .slice none 0 0, .slice none 0 0, .string ⟨#[]⟩] 88 := hO.set 12 (.string ⟨#[]⟩)
    replace hP := hP.other (a := ⟨ob, 12, none⟩) hn0.out (.string ⟨#[]⟩)
    replace hQ := hQ.other (a := ⟨ob, 12, none⟩) hn1.out (.string ⟨#[]⟩)
    replace hR := hR.other (a := ⟨ob, 12, none⟩) hn2.out (.string ⟨#[]⟩)
    try simp only [Act.put, gzD, gzE, gzF]
    refine wb_done (by kernel_rfl) ?_ _
    skip
    go_upto_region 24 with fail
    refine wb_begin ([ob]) [7, 9] (by kernel_rfl) (fun u0 hb0' hz0' => ?_)
    replace hP := hP.below hb0'
    replace hQ := hQ.below hb0'
    replace hR := hR.below hb0'
    replace hO := hO.below hb0'
    replace hbw := hbw.trans (hb0'.mono hbw.size)
    clear hb0' hz0'
    refine wb_pureZ 0 (some 92) (v := ?_) ?_ ?_; rotate_left; · (intro u; go_simp; try with_reducible rfl)
    try simp only [Act.put, gzD, gzE, gzF]
    refine wb_takeZ 1 (some 93) (v := ?_) ?_ ?_; rotate_left; · (intro u hu; have ka := hO.kb hu (List.mem_singleton.2 rfl); have a5 := ka.cell (i := 5) rfl; have a6 := ka.cell (i := 6) rfl; have a7 := ka.cell (i := 7) rfl; have a8 := ka.cell (i := 8) rfl; have a9 := ka.cell (i := 9) rfl; have a10 := ka.cell (i := 10) rfl; have a11 := ka.cell (i := 11) rfl; clear ka; go_simp; try with_reducible rfl)
    try simp only [Act.put, gzD, gzE, gzF]
    refine wb_pureZ 3 (some 95) (v := ?_) ?_ ?_; rotate_left; · (intro u; go_simp; try with_reducible rfl)
    try simp only [Act.put, gzD, gzE, gzF]
    refine wb_takeZ 4 (some 96) (v := ?_) ?_ ?_; rotate_left; · (intro u hu; have ka := hO.kb hu (List.mem_singleton.2 rfl); have a5 := ka.cell (i := 5) rfl; have a6 := ka.cell (i := 6) rfl; have a7 := ka.cell (i := 7) rfl; have a8 := ka.cell (i := 8) rfl; have a9 := ka.cell (i := 9) rfl; have a10 := ka.cell (i := 10) rfl; have a11 := ka.cell (i := 11) rfl; clear ka; go_simp; try with_reducible rfl)
    try simp only [Act.put, gzD, gzE, gzF]
    refine wb_oneZ 2 (fun K hK => ?_)
    go_simp
    refine (copyNodeZero_any _).mono ?_
    rintro e u2 ⟨rfl, hb2⟩
    refine hK _ _ (Kb.below hb2 (by intro q hq; rw [List.mem_singleton.1 hq]; exact hO.lt)) ?_
    clear hK K
    replace hP := hP.below hb2
    replace hQ := hQ.below hb2
    replace hR := hR.below hb2
    replace hO := hO.below hb2
    replace hbw := hbw.trans (hb2.mono hbw.size)
    clear hb2
    try simp only [Act.put, gzD, gzE, gzF]
    refine wb_pureZ 6 (some 98) (v := ?_) ?_ ?_; rotate_left; · (intro u; go_simp; try with_reducible rfl)
    try simp only [Act.put, gzD, gzE, gzF]
    refine wb_oneZ 5 (fun K hK => ?_)
    go_simp
    refine (cloneRowsNil_any _).mono ?_
    rintro e u5 ⟨⟨A5, c5, rfl⟩, hb5⟩
    refine hK _ _ (Kb.below hb5 (by intro q hq; rw [List.mem_singleton.1 hq]; exact hO.lt)) ?_
    clear hK K
    replace hP := hP.below hb5
    replace hQ := hQ.below hb5
    replace hR := hR.below hb5
    replace hO := hO.below hb5
    replace hbw := hbw.trans (hb5.mono hbw.size)
    clear hb5
    try simp only [Act.put, gzD, gzE, gzF]
    refine wb_store (i := 7) (by simp only [gzA, gzB, gzC] <;> rfl) (by kernel_rfl) (by rfl) (by kernel_rfl) (fun K hK => ?_)
    have c5 := hO.cell (i := 5) rfl
    have f5 := hO.free 5
    have c6 := hO.cell (i := 6) rfl
    have f6 := hO.free 6
    have c7 := hO.cell (i := 7) rfl
    have f7 := hO.free 7
    have c8 := hO.cell (i := 8) rfl
    have f8 := hO.free 8
    have c9 := hO.cell (i := 9) rfl
    have f9 := hO.free 9
    have c10 := hO.cell (i := 10) rfl
    have f10 := hO.free 10
    go_simp
    refine hK _ _ ?_
    clear hK K c5 f5 c6 f6 c7 f7 c8 f8 c9 f9 c10 f10
    replace hbw := hbw.setCell (p := ⟨ob, 5, none⟩) hob.out (.string ⟨#[]⟩)
    replace hO : Blk _ ob [.slice (some ⟨k4, 0, none⟩) 1 c4, .slice A10 0 c10, .bool false, .bool false, .bool false, .string ⟨#[]⟩, .string ⟨#[]⟩, .string ⟨#[]⟩, .slice none 0 0, .slice none 0 0, .slice none 0 0, .slice none 0 0, .string ⟨#[]⟩] 88 := hO.set 5 (.string ⟨#[]⟩)
    replace hP := hP.other (a := ⟨ob, 5, none⟩) hn0.out (.string ⟨#[]⟩)
    replace hQ := hQ.other (a := ⟨ob, 5, none⟩) hn1.out (.string ⟨#[]⟩)
    replace hR := hR.other (a := ⟨ob, 5, none⟩) hn2.out (.string ⟨#[]⟩)
    replace hbw := hbw.setCell (p := ⟨ob, 6, none⟩) hob.out (.string ⟨#[]⟩)
    replace hO : Blk _ ob [.slice (some ⟨k4, 0, none⟩) 1 c4, .slice A10 0 c10, .bool false, .bool false, .bool false, .string ⟨#[]⟩, .string ⟨#[]⟩, .string ⟨#[]⟩, .slice none 0 0, .slice none 0 0, .slice none 0 0, .slice none 0 0, .string ⟨#[]⟩] 88 := hO.set 6 (.string ⟨#[]⟩)
    replace hP := hP.other (a := ⟨ob, 6, none⟩) hn0.out (.string ⟨#[]⟩)
    replace hQ := hQ.other (a := ⟨ob, 6, none⟩) hn1.out (.string ⟨#[]⟩)
    replace hR := hR.other (a := ⟨ob, 6, none⟩) hn2.out (.string ⟨#[]⟩)
    replace hbw := hbw.setCell (p := ⟨ob, 7, none⟩) hob.out (.string ⟨#[]⟩)
    replace hO : Blk _ ob [.slice (some ⟨k4, 0, none⟩) 1 c4, .slice A10 0 c10, .bool false, .bool false, .bool false, .string ⟨#[]⟩, .string ⟨#[]⟩, .string ⟨#[]⟩, .slice none 0 0, .slice none 0 0, .slice none 0 0, .slice none 0 0, .string ⟨#[]⟩] 88 := hO.set 7 (.string ⟨#[]⟩)
    replace hP := hP.other (a := ⟨ob, 7, none⟩) hn0.out (.string ⟨#[]⟩)
    replace hQ := hQ.other (a := ⟨ob, 7, none⟩) hn1.out (.string ⟨#[]⟩)
    replace hR := hR.other (a := ⟨ob, 7, none⟩) hn2.out (.string ⟨#[]⟩)
    replace hbw := hbw.setCell (p := ⟨ob, 8, none⟩) hob.out (.slice none 0 0)
    replace hO : Blk _ ob [.slice (some ⟨k4, 0, none⟩) 1 c4, .slice A10 0 c10, .bool false, .bool false, .bool false, .string ⟨#[]⟩, .string ⟨#[]⟩, .string ⟨#[]⟩, .slice none 0 0, .slice none 0 0, .slice none 0 0, .slice none 0 0, .string ⟨#[]⟩] 88 := hO.set 8 (.slice none 0 0)
    replace hP := hP.other (a := ⟨ob, 8, none⟩) hn0.out (.slice none 0 0)
    replace hQ := hQ.other (a := ⟨ob, 8, none⟩) hn1.out (.slice none 0 0)
    replace hR := hR.other (a := ⟨ob, 8, none⟩) hn2.out (.slice none 0 0)
    replace hbw := hbw.setCell (p := ⟨ob, 9, none⟩) hob.out (.slice none 0 0)
    replace hO : Blk _ ob [.slice (some ⟨k4, 0, none⟩) 1 c4, .slice A10 0 c10, .bool false, .bool false, .bool false, .string ⟨#[]⟩, .string ⟨#[]⟩, .string ⟨#[]⟩, .slice none 0 0, .slice none 0 0, .slice none 0 0, .slice none 0 0, .string ⟨#[]⟩] 88 := hO.set 9 (.slice none 0 0)
    replace hP := hP.other (a := ⟨ob, 9, none⟩) hn0.out (.slice none 0 0)
    replace hQ := hQ.other (a := ⟨ob, 9, none⟩) hn1.out (.slice none 0 0)
    replace hR := hR.other (a := ⟨ob, 9, none⟩) hn2.out (.slice none 0 0)
    replace hbw := hbw.setCell (p := ⟨ob, 10, none⟩) hob.out (.slice none 0 0)
    replace hO : Blk _ ob [.slice (some ⟨k4, 0, none⟩) 1 c4, .slice A10 0 c10, .bool false, .bool false, .bool false, .string ⟨#[]⟩, .string ⟨#[]⟩, .string ⟨#[]⟩, .slice none 0 0, .slice none 0 0, .slice none 0 0, .slice none 0 0, .string ⟨#[]⟩] 88 := hO.set 10 (.slice none 0 0)
    replace hP := hP.other (a := ⟨ob, 10, none⟩) hn0.out (.slice none 0 0)
    replace hQ := hQ.other (a := ⟨ob, 10, none⟩) hn1.out (.slice none 0 0)
    replace hR := hR.other (a := ⟨ob, 10, none⟩) hn2.out (.slice none 0 0)
    try simp only [Act.put, gzD, gzE, gzF]
    refine wb_pureZ 8 (some 99) (v := ?_) ?_ ?_; rotate_left; · (intro u; go_simp; try with_reducible rfl)
    try simp only [Act.put, gzD, gzE, gzF]
    refine wb_store (i := 9) (by simp only [gzA, gzB, gzC] <;> rfl) (by kernel_rfl) (by rfl) (by kernel_rfl) (fun K hK => ?_)
    have c11 := hO.cell (i := 11) rfl
    have f11 := hO.free 11
    go_simp
    refine hK _ _ ?_
    clear hK K c11 f11
    replace hbw := hbw.setCell (p := ⟨ob, 11, none⟩) hob.out (.slice A5 0 c5)
    replace hO : Blk _ ob [.slice (some ⟨k4, 0, none⟩) 1 c4, .slice A10 0 c10, .bool false, .bool false, .bool false, .string ⟨#[]⟩, .string ⟨#[]⟩, .string ⟨#[]⟩, .slice none 0 0, .slice none 0 0, .slice none 0 0, .slice A5 0 c5, .string ⟨#[]⟩] 88 := hO.set 11 (.slice A5 0 c5)
    replace hP := hP.other (a := ⟨ob, 11, none⟩) hn0.out (.slice A5 0 c5)
    replace hQ := hQ.other (a := ⟨ob, 11, none⟩) hn1.out (.slice A5 0 c5)
    replace hR := hR.other (a := ⟨ob, 11, none⟩) hn2.out (.slice A5 0 c5)
    try simp only [Act.put, gzD, gzE, gzF]
    refine wb_done (by kernel_rfl) ?_ _
    skip
    go_upto_region 25 with fail
    have lo := hO.ld rowPa rfl
    have s1 := stT_row rowPa hR (cs := (paR k4 c4 A10 c10 A5 c5)) rfl rfl (oneAll rfl)
    go_wp2_with fail
    have z1 := hR.rowU (paR k4 c4 A10 c10 A5 c5)
    have z2 := below_rowP hbw (show w.heap.size ≤ w.heap.size + 1 + 1 by omega) ((paR k4 c4 A10 c10 A5 c5)).toArray
    exact bodyPost_ret (v := .agg (paR k4 c4 A10 c10 A5 c5).toArray) (results_cell_row rfl _ _ (w.heap.size + 1 + 1) 88 (paR k4 c4 A10 c10 A5 c5).toArray (0, 0) _ rfl z1 Tryz.underlying88 rfl (by kernel_rfl)) rfl ⟨⟨k4, c4, A10, c10, A5, c5, rfl⟩, z2⟩
end Go.Proofs.YtfbggfpihiegpaaGreatDoor
