/- A copy of the node of nothing. -/
import Derived.Test.YtfbggfpihiegpaaGreatDoorKpGzA
import Derived.Test.YtfbggfpihiegpaaGreatDoorKpRvF
import Derived.Test.YtfbggfpihiegpaaGreatDoorKpShelf
set_option linter.unusedVariables false
set_option linter.unusedSimpArgs false
set_option maxRecDepth 100000
namespace Go.Proofs.YtfbggfpihiegpaaGreatDoor
open Go.RowKit

set_option maxHeartbeats 4000000 in
theorem checkPatchNil_any (w : World) : Calls Tryz.prog 59 #[.agg (paC (.slice none 0 0)).toArray] w (GivesV (.int .i64 0) w) := by
  have hX := Blk.new w (paC (.slice none 0 0)) 88
  have hbw : Below w.heap.size w (w.alloc (.cells (paC (.slice none 0 0)).toArray 88)) := (Below.refl _ _).alloc (Nat.le_refl _) _
  go_enter Tryz.func59, Tryz.ntmps59
  go_upto_region 1 with fail
  refine wb_begin ([w.heap.size]) [] (by kernel_rfl) (fun u0 hb0' hz0' => ?_)
  replace hX := hX.below hb0'
  replace hbw := hbw.trans (hb0'.mono hbw.size)
  clear hb0' hz0'
  refine wb_pureZ 0 (some 9) (v := ?_) ?_ ?_; rotate_left; · (intro u; go_simp; try with_reducible rfl)
  try simp only [Act.put, gzD, gzE, gzF]
  refine wb_takeZ 1 (some 10) (v := ?_) ?_ ?_; rotate_left; · (intro u hu; have ka := hX.kb hu (by simp); have a0 := ka.cell (i := 0) rfl; have a1 := ka.cell (i := 1) rfl; clear ka; go_simp; try with_reducible rfl)
  try simp only [Act.put, gzD, gzE, gzF]
  refine wb_pureZ 3 (some 12) (v := ?_) ?_ ?_; rotate_left; · (intro u; go_simp; try with_reducible rfl)
  try simp only [Act.put, gzD, gzE, gzF]
  refine wb_takeZ 4 (some 13) (v := ?_) ?_ ?_; rotate_left; · (intro u hu; have ka := hX.kb hu (by simp); have a0 := ka.cell (i := 0) rfl; have a1 := ka.cell (i := 1) rfl; clear ka; go_simp; try with_reducible rfl)
  try simp only [Act.put, gzD, gzE, gzF]
  refine wb_oneZ 2 (fun K hK => ?_)
  go_simp
  refine (risingNilSt_any _ _ _ _ _ _ _ _ _ (by decide)).mono ?_
  rintro e wq2 ⟨rfl, rfl⟩
  refine hK _ _ (Kb.refl _ _) ?_
  clear hK K
  try simp only [Act.put, gzD, gzE, gzF]
  refine wb_oneZ 5 (fun K hK => ?_)
  go_simp
  refine (checkPeersNil_any _).mono ?_
  rintro e wq5 ⟨rfl, hq5⟩
  refine hK _ _ (Kb.below hq5 (allIn1 hX.lt)) ?_
  replace hq5 := hq5
  replace hX := hX.below hq5
  replace hbw := hbw.trans (hq5.mono hbw.size)
  clear hK K hq5
  try simp only [Act.put, gzD, gzE, gzF]
  refine wb_oneZ 6 (fun K hK => ?_)
  go_simp
  refine hK _ _ (Kb.gb (World.grownBy_alloc _ _ none) (allIn1 ⟨hX.lt, by simp⟩)) ?_
  refine wb_new (cs := ([0, 0] : List Int).map (Value.int .i64)) (t := 32) (fun u91 hv3 hL3 hz3 => ?_)
  replace hX := hX.below hv3
  replace hbw := hbw.trans (hv3.mono hbw.size)
  clear hK K hv3 hz3
  try simp only [Act.put, gzD, gzE, gzF]
  refine wb_oneZ 7 (fun K hK => ?_)
  go_simp
  refine (orU_blk [0, 0] _ _ _ _ hL3 (by decide)).mono ?_
  rintro e w' ⟨rfl, rfl⟩
  refine hK _ _ (Kb.refl _ _) ?_
  clear hK K hL3
  try simp only [Act.put, gzD, gzE, gzF]
  refine wb_pureZ 8 (some 3) (v := ?_) ?_ ?_; rotate_left; · (intro u; go_simp; try with_reducible rfl)
  try simp only [Act.put, gzD, gzE, gzF]
  refine wb_done (by kernel_rfl) ?_ _
  skip
  have b0 := hX.cell (i := 0) rfl
  have b1 := hX.cell (i := 1) rfl
  go_wp2_with fail
  refine (byKeysNil_any _).mono ?_
  rintro e w2 ⟨rfl, rfl⟩
  have hM : (u91.alloc (.map #[] 0)).heap[u91.heap.size]? = some (.map #[] 0) := (MapKept.heap_alloc u91 _).1
  have hz1 : (u91.alloc (.map #[] 0)).heap.size = u91.heap.size + 1 := by simp
  obtain ⟨w1, hw1⟩ : ∃ x, x = u91.alloc (.map #[] 0) := ⟨_, rfl⟩
  have hX1 : Blk w1 w.heap.size (paC (.slice none 0 0)) 88 := by rw [hw1]; exact hX.alloc _
  have hb1 : Below w.heap.size w w1 := by rw [hw1]; exact hbw.alloc hbw.size _
  rw [← hw1] at hM hz1 ⊢
  clear hw1 hX hbw b0 b1
  have b0 := hX1.cell (i := 0) rfl
  go_wp2_with fail
  refine wp_loop_rounds 1 ?_
  rw [rounds_succ]
  go_wp2_with fail
  have hX := hX1
  have hbw := hb1
  clear hX1 hb1 hM hz1 b0
  refine wb_begin ([w.heap.size]) [] (by kernel_rfl) (fun u0 hb0' hz0' => ?_)
  replace hX := hX.below hb0'
  replace hbw := hbw.trans (hb0'.mono hbw.size)
  clear hb0' hz0'
  refine wb_pureZ 0 (some 38) (v := ?_) ?_ ?_; rotate_left; · (intro u; go_simp; try with_reducible rfl)
  try simp only [Act.put, gzD, gzE, gzF]
  refine wb_takeZ 1 (some 39) (v := ?_) ?_ ?_; rotate_left; · (intro u hu; have ka := hX.kb hu (by simp); have a2 := ka.cell (i := 2) rfl; have a3 := ka.cell (i := 3) rfl; have a4 := ka.cell (i := 4) rfl; have a5 := ka.cell (i := 5) rfl; have a6 := ka.cell (i := 6) rfl; have a7 := ka.cell (i := 7) rfl; have a8 := ka.cell (i := 8) rfl; have a9 := ka.cell (i := 9) rfl; have a10 := ka.cell (i := 10) rfl; have a11 := ka.cell (i := 11) rfl; have a12 := ka.cell (i := 12) rfl; clear ka; go_simp; try with_reducible rfl)
  try simp only [Act.put, gzD, gzE, gzF]
  refine wb_pureZ 2 (some 40) (v := ?_) ?_ ?_; rotate_left; · (intro u; go_simp; try with_reducible rfl)
  try simp only [Act.put, gzD, gzE, gzF]
  refine wb_takeZ 3 (some 41) (v := ?_) ?_ ?_; rotate_left; · (intro u hu; have ka := hX.kb hu (by simp); have a2 := ka.cell (i := 2) rfl; have a3 := ka.cell (i := 3) rfl; have a4 := ka.cell (i := 4) rfl; have a5 := ka.cell (i := 5) rfl; have a6 := ka.cell (i := 6) rfl; have a7 := ka.cell (i := 7) rfl; have a8 := ka.cell (i := 8) rfl; have a9 := ka.cell (i := 9) rfl; have a10 := ka.cell (i := 10) rfl; have a11 := ka.cell (i := 11) rfl; have a12 := ka.cell (i := 12) rfl; clear ka; go_simp; try with_reducible rfl)
  try simp only [Act.put, gzD, gzE, gzF]
  refine wb_pureZ 5 (some 43) (v := ?_) ?_ ?_; rotate_left; · (intro u; go_simp; try with_reducible rfl)
  try simp only [Act.put, gzD, gzE, gzF]
  refine wb_takeZ 6 (some 44) (v := ?_) ?_ ?_; rotate_left; · (intro u hu; have ka := hX.kb hu (by simp); have a2 := ka.cell (i := 2) rfl; have a3 := ka.cell (i := 3) rfl; have a4 := ka.cell (i := 4) rfl; have a5 := ka.cell (i := 5) rfl; have a6 := ka.cell (i := 6) rfl; have a7 := ka.cell (i := 7) rfl; have a8 := ka.cell (i := 8) rfl; have a9 := ka.cell (i := 9) rfl; have a10 := ka.cell (i := 10) rfl; have a11 := ka.cell (i := 11) rfl; have a12 := ka.cell (i := 12) rfl; clear ka; go_simp; try with_reducible rfl)
  try simp only [Act.put, gzD, gzE, gzF]
  refine wb_pureZ 7 (some 45) (v := ?_) ?_ ?_; rotate_left; · (intro u; go_simp; try with_reducible rfl)
  try simp only [Act.put, gzD, gzE, gzF]
  refine wb_pureZ 10 (some 48) (v := ?_) ?_ ?_; rotate_left; · (intro u; go_simp; try with_reducible rfl)
  try simp only [Act.put, gzD, gzE, gzF]
  refine wb_takeZ 11 (some 49) (v := ?_) ?_ ?_; rotate_left; · (intro u hu; have ka := hX.kb hu (by simp); have a2 := ka.cell (i := 2) rfl; have a3 := ka.cell (i := 3) rfl; have a4 := ka.cell (i := 4) rfl; have a5 := ka.cell (i := 5) rfl; have a6 := ka.cell (i := 6) rfl; have a7 := ka.cell (i := 7) rfl; have a8 := ka.cell (i := 8) rfl; have a9 := ka.cell (i := 9) rfl; have a10 := ka.cell (i := 10) rfl; have a11 := ka.cell (i := 11) rfl; have a12 := ka.cell (i := 12) rfl; clear ka; go_simp; try with_reducible rfl)
  try simp only [Act.put, gzD, gzE, gzF]
  refine wb_pureZ 12 (some 50) (v := ?_) ?_ ?_; rotate_left; · (intro u; go_simp; try with_reducible rfl)
  try simp only [Act.put, gzD, gzE, gzF]
  refine wb_takeZ 13 (some 51) (v := ?_) ?_ ?_; rotate_left; · (intro u hu; have ka := hX.kb hu (by simp); have a2 := ka.cell (i := 2) rfl; have a3 := ka.cell (i := 3) rfl; have a4 := ka.cell (i := 4) rfl; have a5 := ka.cell (i := 5) rfl; have a6 := ka.cell (i := 6) rfl; have a7 := ka.cell (i := 7) rfl; have a8 := ka.cell (i := 8) rfl; have a9 := ka.cell (i := 9) rfl; have a10 := ka.cell (i := 10) rfl; have a11 := ka.cell (i := 11) rfl; have a12 := ka.cell (i := 12) rfl; clear ka; go_simp; try with_reducible rfl)
  try simp only [Act.put, gzD, gzE, gzF]
  refine wb_pureZ 15 (some 53) (v := ?_) ?_ ?_; rotate_left; · (intro u; go_simp; try with_reducible rfl)
  try simp only [Act.put, gzD, gzE, gzF]
  refine wb_takeZ 16 (some 54) (v := ?_) ?_ ?_; rotate_left; · (intro u hu; have ka := hX.kb hu (by simp); have a2 := ka.cell (i := 2) rfl; have a3 := ka.cell (i := 3) rfl; have a4 := ka.cell (i := 4) rfl; have a5 := ka.cell (i := 5) rfl; have a6 := ka.cell (i := 6) rfl; have a7 := ka.cell (i := 7) rfl; have a8 := ka.cell (i := 8) rfl; have a9 := ka.cell (i := 9) rfl; have a10 := ka.cell (i := 10) rfl; have a11 := ka.cell (i := 11) rfl; have a12 := ka.cell (i := 12) rfl; clear ka; go_simp; try with_reducible rfl)
  try simp only [Act.put, gzD, gzE, gzF]
  refine wb_pureZ 17 (some 55) (v := ?_) ?_ ?_; rotate_left; · (intro u; go_simp; try with_reducible rfl)
  try simp only [Act.put, gzD, gzE, gzF]
  refine wb_pureZ 18 (some 56) (v := ?_) ?_ ?_; rotate_left; · (intro u; go_simp; try with_reducible rfl)
  try simp only [Act.put, gzD, gzE, gzF]
  refine wb_pureZ 20 (some 58) (v := ?_) ?_ ?_; rotate_left; · (intro u; go_simp; try with_reducible rfl)
  try simp only [Act.put, gzD, gzE, gzF]
  refine wb_takeZ 21 (some 59) (v := ?_) ?_ ?_; rotate_left; · (intro u hu; have ka := hX.kb hu (by simp); have a2 := ka.cell (i := 2) rfl; have a3 := ka.cell (i := 3) rfl; have a4 := ka.cell (i := 4) rfl; have a5 := ka.cell (i := 5) rfl; have a6 := ka.cell (i := 6) rfl; have a7 := ka.cell (i := 7) rfl; have a8 := ka.cell (i := 8) rfl; have a9 := ka.cell (i := 9) rfl; have a10 := ka.cell (i := 10) rfl; have a11 := ka.cell (i := 11) rfl; have a12 := ka.cell (i := 12) rfl; clear ka; go_simp; try with_reducible rfl)
  try simp only [Act.put, gzD, gzE, gzF]
  refine wb_pureZ 22 (some 60) (v := ?_) ?_ ?_; rotate_left; · (intro u; go_simp; try with_reducible rfl)
  try simp only [Act.put, gzD, gzE, gzF]
  refine wb_takeZ 23 (some 61) (v := ?_) ?_ ?_; rotate_left; · (intro u hu; have ka := hX.kb hu (by simp); have a2 := ka.cell (i := 2) rfl; have a3 := ka.cell (i := 3) rfl; have a4 := ka.cell (i := 4) rfl; have a5 := ka.cell (i := 5) rfl; have a6 := ka.cell (i := 6) rfl; have a7 := ka.cell (i := 7) rfl; have a8 := ka.cell (i := 8) rfl; have a9 := ka.cell (i := 9) rfl; have a10 := ka.cell (i := 10) rfl; have a11 := ka.cell (i := 11) rfl; have a12 := ka.cell (i := 12) rfl; clear ka; go_simp; try with_reducible rfl)
  try simp only [Act.put, gzD, gzE, gzF]
  refine wb_pureZ 25 (some 63) (v := ?_) ?_ ?_; rotate_left; · (intro u; go_simp; try with_reducible rfl)
  try simp only [Act.put, gzD, gzE, gzF]
  refine wb_takeZ 26 (some 64) (v := ?_) ?_ ?_; rotate_left; · (intro u hu; have ka := hX.kb hu (by simp); have a2 := ka.cell (i := 2) rfl; have a3 := ka.cell (i := 3) rfl; have a4 := ka.cell (i := 4) rfl; have a5 := ka.cell (i := 5) rfl; have a6 := ka.cell (i := 6) rfl; have a7 := ka.cell (i := 7) rfl; have a8 := ka.cell (i := 8) rfl; have a9 := ka.cell (i := 9) rfl; have a10 := ka.cell (i := 10) rfl; have a11 := ka.cell (i := 11) rfl; have a12 := ka.cell (i := 12) rfl; clear ka; go_simp; try with_reducible rfl)
  try simp only [Act.put, gzD, gzE, gzF]
  refine wb_pureZ 27 (some 65) (v := ?_) ?_ ?_; rotate_left; · (intro u; go_simp; try with_reducible rfl)
  try simp only [Act.put, gzD, gzE, gzF]
  refine wb_oneZ 4 (fun K hK => ?_)
  go_simp
  refine (checkSelfZero_any _).mono ?_
  rintro e wq4 ⟨rfl, hq4⟩
  refine hK _ _ (Kb.below hq4 (allIn1 hX.lt)) ?_
  replace hq4 := hq4
  replace hX := hX.below hq4
  replace hbw := hbw.trans (hq4.mono hbw.size)
  clear hK K hq4
  try simp only [Act.put, gzD, gzE, gzF]
  refine wb_oneZ 8 (fun K hK => ?_)
  go_simp
  refine (sameNodeZero_any _).mono ?_
  rintro e wq8 ⟨rfl, hq8⟩
  refine hK _ _ (Kb.below hq8 (allIn1 hX.lt)) ?_
  replace hq8 := hq8
  replace hX := hX.below hq8
  replace hbw := hbw.trans (hq8.mono hbw.size)
  clear hK K hq8
  try simp only [Act.put, gzD, gzE, gzF]
  refine wb_oneZ 9 (fun K hK => ?_)
  go_simp
  refine (checkHadNo_any _ _).mono ?_
  rintro e wq9 ⟨rfl, rfl⟩
  refine hK _ _ (Kb.refl _ _) ?_
  clear hK K
  try simp only [Act.put, gzD, gzE, gzF]
  refine wb_oneZ 14 (fun K hK => ?_)
  go_simp
  refine (filterNil_any _).mono ?_
  rintro e wq14 ⟨rfl, hq14⟩
  refine hK _ _ (Kb.below hq14 (allIn1 hX.lt)) ?_
  replace hq14 := hq14
  replace hX := hX.below hq14
  replace hbw := hbw.trans (hq14.mono hbw.size)
  clear hK K hq14
  try simp only [Act.put, gzD, gzE, gzF]
  refine wb_oneZ 19 (fun K hK => ?_)
  go_simp
  refine (checkHadNo_any _ _).mono ?_
  rintro e wq19 ⟨rfl, rfl⟩
  refine hK _ _ (Kb.refl _ _) ?_
  clear hK K
  try simp only [Act.put, gzD, gzE, gzF]
  refine wb_oneZ 24 (fun K hK => ?_)
  go_simp
  refine (suffixEmpty_any _).mono ?_
  rintro e wq24 ⟨rfl, hq24⟩
  refine hK _ _ (Kb.below hq24 (allIn1 hX.lt)) ?_
  replace hq24 := hq24
  replace hX := hX.below hq24
  replace hbw := hbw.trans (hq24.mono hbw.size)
  clear hK K hq24
  try simp only [Act.put, gzD, gzE, gzF]
  refine wb_oneZ 28 (fun K hK => ?_)
  go_simp
  refine (checkHadNo_any _ _).mono ?_
  rintro e wq28 ⟨rfl, rfl⟩
  refine hK _ _ (Kb.refl _ _) ?_
  clear hK K
  try simp only [Act.put, gzD, gzE, gzF]
  refine wb_oneZ 29 (fun K hK => ?_)
  go_simp
  refine hK _ _ (Kb.gb (World.grownBy_alloc _ _ none) (allIn1 ⟨hX.lt, by simp⟩)) ?_
  refine wb_new (cs := ([0, 0, 0] : List Int).map (Value.int .i64)) (t := 32) (fun u91 hv3 hL3 hz3 => ?_)
  replace hX := hX.below hv3
  replace hbw := hbw.trans (hv3.mono hbw.size)
  clear hK K hv3 hz3
  try simp only [Act.put, gzD, gzE, gzF]
  refine wb_oneZ 30 (fun K hK => ?_)
  go_simp
  refine (orU_blk [0, 0, 0] _ _ _ _ hL3 (by decide)).mono ?_
  rintro e w' ⟨rfl, rfl⟩
  refine hK _ _ (Kb.refl _ _) ?_
  clear hK K hL3
  try simp only [Act.put, gzD, gzE, gzF]
  refine wb_pureZ 31 (some 2) (v := ?_) ?_ ?_; rotate_left; · (intro u; go_simp; try with_reducible rfl)
  try simp only [Act.put, gzD, gzE, gzF]
  refine wb_done (by kernel_rfl) ?_ _
  skip
  go_wp2_with fail
  go_ret
  exact ⟨rfl, hbw⟩

set_option maxHeartbeats 1000000 in
theorem joined1_any (p m : Nat) (s : ByteArray) (w : World) (hp : Blk w p [.map (some m)] 176) (hM : w.heap[m]? = some (.map #[] 0)) :
    Calls Tryz.prog 111 #[.string s, .pointer (some ⟨p, 0, none⟩)] w fun e w' => e = .returned (.bool false) ∧ w = w' := by
  have x0 := hp.cell (i := 0) rfl
  have hlk := lookup_none s Tryz.underlying176 (zeroB_run w) hM false
  simp only [Bool.false_eq_true, if_false] at hlk
  go_enter Tryz.func111, Tryz.ntmps111
  go_wp2_with fail
  go_ret
  exact ⟨rfl, rfl⟩

set_option maxHeartbeats 1000000 in
theorem indexFuncNilPe_any (f : Value) (w : World) : Calls Tryz.prog 194 #[.slice none 0 0, f] w fun e w' => e = .returned (.int .i64 (-1)) ∧ w = w' := by
  go_enter Tryz.func194, Tryz.ntmps194
  go_wp2_with fail
  refine wp_loop_rounds 1 ?_
  rw [rounds_succ]
  go_wp2_with fail
  go_ret
  exact ⟨rfl, rfl⟩
set_option maxHeartbeats 1000000 in
theorem deleteNilPe_any (f : Value) (w : World) : Calls Tryz.prog 112 #[.slice none 0 0, f] w fun e w' => e = .returned (.slice none 0 0) ∧ w = w' := by
  go_enter Tryz.func112, Tryz.ntmps112
  go_wp2_with fail
  refine (indexFuncNilPe_any _ _).mono ?_
  rintro e w2 ⟨rfl, rfl⟩
  go_wp2_with fail
  go_ret
  exact ⟨rfl, rfl⟩

theorem info_partsV {o : Option TypeInfo} {z : Option Value} {s b : Nat} (h : o.map (fun i => (i.zero, i.size, i.bytes)) = some (z, s, b)) : ∃ i, o = some i ∧ i.zero = z ∧ i.size = s ∧ i.bytes = b := by
  cases o with
  | none => simp at h
  | some i => simp only [Option.map_some, Option.some.injEq, Prod.mk.injEq] at h; exact ⟨i, rfl, h.1, h.2.1, h.2.2⟩
abbrev zFi : Value := .agg #[.int .i64 0, .slice none 0 0, .slice none 0 0, .slice none 0 0]
theorem infoPe : (Tryz.prog.info? 170).map (fun i => (i.zero, i.size, i.bytes)) = some (some zPe, 4, 80) := by kernel_rfl
theorem infoFi : (Tryz.prog.info? 278).map (fun i => (i.zero, i.size, i.bytes)) = some (some zFi, 4, 80) := by kernel_rfl

set_option maxHeartbeats 1000000 in
theorem mapNilPe_any (f : Value) (w : World) : Calls Tryz.prog 196 #[.slice none 0 0, f] w fun e w' => (∃ A c, e = .returned (.slice A 0 c)) ∧ Below w.heap.size w w' := by
  obtain ⟨i0, hi0, hz0, hz1, hz2⟩ := info_partsV infoPe
  go_enter Tryz.func196, Tryz.ntmps196
  go_wp2_with (at_make; refine wpList_make_own _ rfl _ _ 82 rfl w.heap.size 170 i0 zPe 4 Tryz.underlying82 hi0 hz0 hz1 .i64 .i64 _ 0 rfl rfl rfl ?c1 ?c2 (Nat.le_refl _) ?_)
  case c1 => rw [hz2]; omega
  case c2 => unfold maxLen; omega
  intro w1 hown hg1
  have hbw : Below w.heap.size w w1 := (Below.refl _ _).grown hg1 (Nat.le_refl _) (fun k h => by cases h)
  clear hown hg1
  go_wp2_with fail
  refine wp_loop_rounds 1 ?_
  rw [rounds_succ]
  go_wp2_with fail
  go_ret
  exact ⟨⟨_, _, rfl⟩, hbw⟩
set_option maxHeartbeats 1000000 in
theorem clonePeersNil_any (w : World) : Calls Tryz.prog 116 #[.slice none 0 0] w fun e w' => (∃ A c, e = .returned (.slice A 0 c)) ∧ Below w.heap.size w w' := by
  go_enter Tryz.func116, Tryz.ntmps116
  go_wp2_with fail
  refine (mapNilPe_any _ _).mono ?_
  rintro e w2 ⟨⟨A, c, rfl⟩, hb⟩
  go_wp2_with fail
  go_ret
  exact ⟨⟨_, _, rfl⟩, hb⟩

set_option maxHeartbeats 1000000 in
theorem mapNilFi_any (f : Value) (w : World) : Calls Tryz.prog 203 #[.slice none 0 0, f] w fun e w' => (∃ A c, e = .returned (.slice A 0 c)) ∧ Below w.heap.size w w' := by
  obtain ⟨i0, hi0, hz0, hz1, hz2⟩ := info_partsV infoFi
  go_enter Tryz.func203, Tryz.ntmps203
  go_wp2_with (at_make; refine wpList_make_own _ rfl _ _ 86 rfl w.heap.size 278 i0 zFi 4 Tryz.underlying86 hi0 hz0 hz1 .i64 .i64 _ 0 rfl rfl rfl ?c1 ?c2 (Nat.le_refl _) ?_)
  case c1 => rw [hz2]; omega
  case c2 => unfold maxLen; omega
  intro w1 hown hg1
  have hbw : Below w.heap.size w w1 := (Below.refl _ _).grown hg1 (Nat.le_refl _) (fun k h => by cases h)
  clear hown hg1
  go_wp2_with fail
  refine wp_loop_rounds 1 ?_
  rw [rounds_succ]
  go_wp2_with fail
  go_ret
  exact ⟨⟨_, _, rfl⟩, hbw⟩
set_option maxHeartbeats 1000000 in
theorem cloneRowsNil_any (w : World) : Calls Tryz.prog 122 #[.slice none 0 0] w fun e w' => (∃ A c, e = .returned (.slice A 0 c)) ∧ Below w.heap.size w w' := by
  go_enter Tryz.func122, Tryz.ntmps122
  go_wp2_with fail
  refine (mapNilFi_any _ _).mono ?_
  rintro e w2 ⟨⟨A, c, rfl⟩, hb⟩
  go_wp2_with fail
  go_ret
  exact ⟨⟨_, _, rfl⟩, hb⟩

set_option maxHeartbeats 1000000 in
theorem growNilPe_any (w : World) : Calls Tryz.prog 198 #[.slice none 0 0, .int .i64 0] w fun e w' => e = .returned (.slice none 0 0) ∧ w = w' := by
  go_enter Tryz.func198, Tryz.ntmps198
  go_wp2_with fail
  go_ret
  exact ⟨rfl, rfl⟩
set_option maxHeartbeats 1000000 in
theorem cloneNilPe_any (w : World) : Calls Tryz.prog 113 #[.slice none 0 0] w fun e w' => e = .returned (.slice none 0 0) ∧ w = w' := by
  have q22 : ∀ (w : World) (a : Option Addr) (n c n' c' : Nat), (binOp .eql 82 (.slice a n c) (.slice none n' c')).run Tryz.prog w = .ok (.bool a.isNone) w := fun w a n c n' c' => Lib.run_eql_slice_nil w _ _ a n c n' c' Tryz.underlying82
  go_enter Tryz.func113, Tryz.ntmps113
  go_wp2_with fail
  go_ret
  exact ⟨rfl, rfl⟩

theorem appNilPe (ty : TypeId) (w : World) : (Builtin.append_ #[82, 82] ty #[.slice none 0 0, .slice none 0 0]).run Tryz.prog w = .ok (.slice none 0 0) w := by kernel_rfl
set_option maxHeartbeats 1000000 in
theorem concatNilPe_any (q : Nat) (w : World) (hQ : Blk w q [.slice none 0 0, .slice none 0 0] 82) : Calls Tryz.prog 117 #[.slice (some ⟨q, 0, none⟩) 2 2] w fun e w' => e = .returned (.slice none 0 0) ∧ w = w' := by
  have x0 := hQ.cell (i := 0) rfl
  have x1 := hQ.cell (i := 1) rfl
  have hap := fun (ty : TypeId) => appNilPe ty w
  go_enter Tryz.func117, Tryz.ntmps117
  go_wp2_with fail
  refine wp_loop_rounds 3 ?_
  rw [rounds_succ]
  go_wp2_with fail
  rw [rounds_succ]
  go_wp2_with fail
  rw [rounds_succ]
  go_wp2_with fail
  refine (growNilPe_any _).mono ?_
  rintro e w2 ⟨rfl, rfl⟩
  go_wp2_with fail
  refine wp_loop_rounds 3 ?_
  rw [rounds_succ]
  go_wp2_with fail
  rw [rounds_succ]
  go_wp2_with fail
  rw [rounds_succ]
  go_wp2_with fail
  go_ret
  exact ⟨rfl, rfl⟩

set_option maxHeartbeats 1000000 in
theorem insertionNilPe_any (A : Option Addr) (c : Nat) (f : Value) (w : World) : Calls Tryz.prog 261 #[.slice A 0 c, .int .i64 0, .int .i64 0, f] w fun e w' => e = .returned (.tuple #[]) ∧ w = w' := by
  go_enter Tryz.func261, Tryz.ntmps261
  go_wp2_with fail
  refine wp_loop_rounds 1 ?_
  rw [rounds_succ]
  go_wp2_with fail
  go_end0
  exact ⟨rfl, rfl⟩
set_option maxHeartbeats 1000000 in
theorem pdqNilPe_any (A : Option Addr) (c : Nat) (l : Int) (f : Value) (w : World) : Calls Tryz.prog 200 #[.slice A 0 c, .int .i64 0, .int .i64 0, .int .i64 l, f] w fun e w' => e = .returned (.tuple #[]) ∧ w = w' := by
  go_enter Tryz.func200, Tryz.ntmps200
  go_wp2_with fail
  refine wp_loop_rounds 1 ?_
  rw [rounds_succ]
  go_wp2_with fail
  refine (insertionNilPe_any _ _ _ _).mono ?_
  rintro e w2 ⟨rfl, rfl⟩
  go_wp2_with fail
  (try simp only [Exit.inBlock, Exit.then]); refine bodyPost_ret (results_none rfl _ _ _) rfl ?_
  exact ⟨rfl, rfl⟩
set_option maxHeartbeats 1000000 in
theorem sortNilPe_any (A : Option Addr) (c : Nat) (f : Value) (w : World) : Calls Tryz.prog 119 #[.slice A 0 c, f] w fun e w' => e = .returned (.tuple #[]) ∧ w = w' := by
  go_enter Tryz.func119, Tryz.ntmps119
  go_wp2_with fail
  refine (Tryz.bits_Len 0 _ (by decide) (by decide)).mono ?_
  rintro e w2 ⟨rfl, rfl⟩
  go_wp2_with fail
  refine (pdqNilPe_any _ _ _ _ _).mono ?_
  rintro e w2 ⟨rfl, rfl⟩
  go_wp2_with fail
  go_end0
  exact ⟨rfl, rfl⟩

set_option maxHeartbeats 1000000 in
theorem cloneNilAd_any (w : World) : Calls Tryz.prog 201 #[.slice none 0 0] w fun e w' => e = .returned (.slice none 0 0) ∧ w = w' := by
  have q22 : ∀ (w : World) (a : Option Addr) (n c n' c' : Nat), (binOp .eql 61 (.slice a n c) (.slice none n' c')).run Tryz.prog w = .ok (.bool a.isNone) w := fun w a n c n' c' => Lib.run_eql_slice_nil w _ _ a n c n' c' Tryz.underlying61
  go_enter Tryz.func201, Tryz.ntmps201
  go_wp2_with fail
  go_ret
  exact ⟨rfl, rfl⟩

set_option maxHeartbeats 1000000 in
theorem cloneNilPx_any (w : World) : Calls Tryz.prog 202 #[.slice none 0 0] w fun e w' => e = .returned (.slice none 0 0) ∧ w = w' := by
  have q22 : ∀ (w : World) (a : Option Addr) (n c n' c' : Nat), (binOp .eql 83 (.slice a n c) (.slice none n' c')).run Tryz.prog w = .ok (.bool a.isNone) w := fun w a n c n' c' => Lib.run_eql_slice_nil w _ _ a n c n' c' Tryz.underlying83
  go_enter Tryz.func202, Tryz.ntmps202
  go_wp2_with fail
  go_ret
  exact ⟨rfl, rfl⟩

set_option maxHeartbeats 1000000 in
theorem copyNodeZero_any (w : World) : Calls Tryz.prog 121 #[.agg ndC.toArray] w (GivesV (.agg ndC.toArray) w) := by
  have hX := (Blk.new w ndC 85).alloc (.cells ndC.toArray 85)
  have hY := Blk.new (w.alloc (.cells ndC.toArray 85)) ndC 85
  rw [World.size_alloc] at hY
  have hbw : Below w.heap.size w ((w.alloc (.cells ndC.toArray 85)).alloc (.cells ndC.toArray 85)) := ((Below.refl _ _).alloc (Nat.le_refl _) _).alloc (by simp) _
  go_enter Tryz.func121, Tryz.ntmps121
  go_upto_region 1 with fail
  refine wb_begin ([w.heap.size]) [10, 12, 14] (by kernel_rfl) (fun u0 hb0' hz0' => ?_)
  replace hX := hX.below hb0'
  replace hY := hY.below hb0'
  replace hbw := hbw.trans (hb0'.mono hbw.size)
  clear hb0' hz0'
  refine wb_pureZ 0 (some 3) (v := ?_) ?_ ?_; rotate_left; · (intro u; go_simp; try with_reducible rfl)
  try simp only [Act.put, gzD, gzE, gzF]
  refine wb_takeZ 1 (some 4) (v := ?_) ?_ ?_; rotate_left; · (intro u hu; have ka := hX.kb hu (List.mem_singleton.2 rfl); have a3 := ka.cell (i := 3) (v := .slice none 0 0) rfl; have a4 := ka.cell (i := 4) (v := .slice none 0 0) rfl; have a5 := ka.cell (i := 5) (v := .slice none 0 0) rfl; clear ka; go_simp; try with_reducible rfl)
  try simp only [Act.put, gzD, gzE, gzF]
  refine wb_pureZ 3 (some 6) (v := ?_) ?_ ?_; rotate_left; · (intro u; go_simp; try with_reducible rfl)
  try simp only [Act.put, gzD, gzE, gzF]
  refine wb_takeZ 4 (some 7) (v := ?_) ?_ ?_; rotate_left; · (intro u hu; have ka := hX.kb hu (List.mem_singleton.2 rfl); have a3 := ka.cell (i := 3) (v := .slice none 0 0) rfl; have a4 := ka.cell (i := 4) (v := .slice none 0 0) rfl; have a5 := ka.cell (i := 5) (v := .slice none 0 0) rfl; clear ka; go_simp; try with_reducible rfl)
  try simp only [Act.put, gzD, gzE, gzF]
  refine wb_pureZ 6 (some 9) (v := ?_) ?_ ?_; rotate_left; · (intro u; go_simp; try with_reducible rfl)
  try simp only [Act.put, gzD, gzE, gzF]
  refine wb_takeZ 7 (some 10) (v := ?_) ?_ ?_; rotate_left; · (intro u hu; have ka := hX.kb hu (List.mem_singleton.2 rfl); have a3 := ka.cell (i := 3) (v := .slice none 0 0) rfl; have a4 := ka.cell (i := 4) (v := .slice none 0 0) rfl; have a5 := ka.cell (i := 5) (v := .slice none 0 0) rfl; clear ka; go_simp; try with_reducible rfl)
  try simp only [Act.put, gzD, gzE, gzF]
  refine wb_oneZ 2 (fun K hK => ?_)
  go_simp
  refine (Tryz.slices_Clone_string_nil 0 0 _).mono ?_
  rintro e wq2 ⟨rfl, rfl⟩
  refine hK _ _ (Kb.refl _ _) ?_
  clear hK K
  try simp only [Act.put, gzD, gzE, gzF]
  refine wb_pureZ 9 (some 12) (v := ?_) ?_ ?_; rotate_left; · (intro u; go_simp; try with_reducible rfl)
  try simp only [Act.put, gzD, gzE, gzF]
  refine wb_oneZ 5 (fun K hK => ?_)
  go_simp
  refine (cloneNilAd_any _).mono ?_
  rintro e wq5 ⟨rfl, rfl⟩
  refine hK _ _ (Kb.refl _ _) ?_
  clear hK K
  try simp only [Act.put, gzD, gzE, gzF]
  refine wb_oneZ 8 (fun K hK => ?_)
  go_simp
  refine (cloneNilPx_any _).mono ?_
  rintro e wq8 ⟨rfl, rfl⟩
  refine hK _ _ (Kb.refl _ _) ?_
  clear hK K
  try simp only [Act.put, gzD, gzE, gzF]
  refine wb_store (i := 10) (by simp only [gzA, gzB, gzC] <;> rfl) (by kernel_rfl) (by rfl) (by kernel_rfl) (fun K hK => ?_)
  have c3 := hX.cell (i := 3) (v := .slice none 0 0) rfl
  have f3 := hX.free 3
  go_simp
  refine hK _ _ ?_
  replace hbw := hbw.setCell (p := ⟨w.heap.size, 3, none⟩) (Nat.le_refl _) (.slice none 0 0)
  replace hX : Blk _ w.heap.size ndC 85 := hX.set 3 (.slice none 0 0)
  replace hY := hY.other (a := ⟨w.heap.size, 3, none⟩) (by simp) (.slice none 0 0)
  clear hK K c3 f3
  try simp only [Act.put, gzD, gzE, gzF]
  refine wb_pureZ 11 (some 13) (v := ?_) ?_ ?_; rotate_left; · (intro u; go_simp; try with_reducible rfl)
  try simp only [Act.put, gzD, gzE, gzF]
  refine wb_store (i := 12) (by simp only [gzA, gzB, gzC] <;> rfl) (by kernel_rfl) (by rfl) (by kernel_rfl) (fun K hK => ?_)
  have c4 := hX.cell (i := 4) (v := .slice none 0 0) rfl
  have f4 := hX.free 4
  go_simp
  refine hK _ _ ?_
  replace hbw := hbw.setCell (p := ⟨w.heap.size, 4, none⟩) (Nat.le_refl _) (.slice none 0 0)
  replace hX : Blk _ w.heap.size ndC 85 := hX.set 4 (.slice none 0 0)
  replace hY := hY.other (a := ⟨w.heap.size, 4, none⟩) (by simp) (.slice none 0 0)
  clear hK K c4 f4
  try simp only [Act.put, gzD, gzE, gzF]
  refine wb_pureZ 13 (some 14) (v := ?_) ?_ ?_; rotate_left; · (intro u; go_simp; try with_reducible rfl)
  try simp only [Act.put, gzD, gzE, gzF]
  refine wb_store (i := 14) (by simp only [gzA, gzB, gzC] <;> rfl) (by kernel_rfl) (by rfl) (by kernel_rfl) (fun K hK => ?_)
  have c5 := hX.cell (i := 5) (v := .slice none 0 0) rfl
  have f5 := hX.free 5
  go_simp
  refine hK _ _ ?_
  replace hbw := hbw.setCell (p := ⟨w.heap.size, 5, none⟩) (Nat.le_refl _) (.slice none 0 0)
  replace hX : Blk _ w.heap.size ndC 85 := hX.set 5 (.slice none 0 0)
  replace hY := hY.other (a := ⟨w.heap.size, 5, none⟩) (by simp) (.slice none 0 0)
  clear hK K c5 f5
  try simp only [Act.put, gzD, gzE, gzF]
  refine wb_done (by kernel_rfl) ?_ _
  skip
  revert hX hY hbw
  generalize World.setCell (World.setCell (World.setCell _ _ _) _ _) _ _ = W1
  intro hbw hX hY
  have x0 := hX.cell (i := 0) rfl
  have x1 := hX.cell (i := 1) rfl
  have x2 := hX.cell (i := 2) rfl
  have x3 := hX.cell (i := 3) rfl
  have x4 := hX.cell (i := 4) rfl
  have x5 := hX.cell (i := 5) rfl
  have y0 := hY.cell (i := 0) rfl
  have y1 := hY.cell (i := 1) rfl
  have y2 := hY.cell (i := 2) rfl
  have y3 := hY.cell (i := 3) rfl
  have y4 := hY.cell (i := 4) rfl
  have y5 := hY.cell (i := 5) rfl
  have g0 := hY.free 0
  have g1 := hY.free 1
  have g2 := hY.free 2
  have g3 := hY.free 3
  have g4 := hY.free 4
  have g5 := hY.free 5
  clear hX
  go_wp2_with fail
  have z0 : Blk _ (w.heap.size + 1) ndC 85 := hY.set 0 (.string ⟨#[]⟩)
  have z1 : Blk _ (w.heap.size + 1) ndC 85 := z0.set 1 (.string ⟨#[]⟩)
  have z2 : Blk _ (w.heap.size + 1) ndC 85 := z1.set 2 (.string ⟨#[]⟩)
  have z3 : Blk _ (w.heap.size + 1) ndC 85 := z2.set 3 (.slice none 0 0)
  have z4 : Blk _ (w.heap.size + 1) ndC 85 := z3.set 4 (.slice none 0 0)
  have z5 : Blk _ (w.heap.size + 1) ndC 85 := z4.set 5 (.slice none 0 0)
  have hbz := (((((hbw.setCell (p := ⟨w.heap.size + 1, 0, none⟩) (by simp) (.string ⟨#[]⟩)).setCell (p := ⟨w.heap.size + 1, 1, none⟩) (by simp) (.string ⟨#[]⟩)).setCell (p := ⟨w.heap.size + 1, 2, none⟩) (by simp) (.string ⟨#[]⟩)).setCell (p := ⟨w.heap.size + 1, 3, none⟩) (by simp) (.slice none 0 0)).setCell (p := ⟨w.heap.size + 1, 4, none⟩) (by simp) (.slice none 0 0)).setCell (p := ⟨w.heap.size + 1, 5, none⟩) (by simp) (.slice none 0 0)
  clear z0 z1 z2 z3 z4 hbw hY
  revert z5 hbz
  generalize World.setCell (World.setCell _ _ _) _ _ = W2
  intro z5 hbz
  exact bodyPost_ret (v := .agg ndC.toArray) (results_cell_row rfl _ _ (w.heap.size + 1) 85 ndC.toArray (0, 0) _ rfl z5 Tryz.underlying85 rfl (by kernel_rfl)) rfl ⟨rfl, hbz⟩
end Go.Proofs.YtfbggfpihiegpaaGreatDoor
