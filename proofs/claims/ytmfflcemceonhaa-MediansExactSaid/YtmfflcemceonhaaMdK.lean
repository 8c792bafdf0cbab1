/- MediansExact: Median and Spread are as specified for all numbers. -/
import Derived.Test.YtmfflcemceonhaaMdJ
namespace Go.Proofs.Ytmfflcemceonhaa
open Go.RowKit
set_option linter.unusedVariables false
set_option linter.unusedSimpArgs false

set_option maxHeartbeats 4000000 in
set_option maxRecDepth 100000 in
theorem mediansExact_walk (a : Option Addr) (len cap : Nat) (w : World) (hs : Str (w.alloc (.cells #[.slice a len cap, .int .i64 0] 25)) w.heap.size 1000) :
    Calls Try.prog 3 #[.slice a len cap] w fun e w' => e = .returned (.bool true) ∧ Below w.heap.size w w' := by
  have hB0 : Below w.heap.size w (w.alloc (.cells #[.slice a len cap, .int .i64 0] 25)) := (Below.refl _ _).alloc (Nat.le_refl _) _
  go_enter Try.func3, Try.ntmps3
  go_wp2_with fail
  refine (numbers_any _ _ 900 (hs.le (by omega))).mono ?_
  rintro e w1 ⟨A, c1, zs, rfl, hown, hl7, hs1, hg1⟩
  have hb : Below w.heap.size w w1 := hB0.trans (gb_toBelow hg1 (Nat.le_refl _) (by simp))
  obtain ⟨A2, c2, hv, hSL⟩ := hown.sl
  cases hv
  obtain ⟨L, hL⟩ : ∃ L, L = zs.length := ⟨_, rfl⟩
  rw [← hL] at hSL hl7 ⊢
  clear hs hB0 hown hs1 hg1 hL
  have HN := Lib.hid (fun W (h : SlE eInt W A L c1 zs) => numbersFault_any A L c1 zs W h (by omega))
  have HMd := Lib.hid (fun W (h : SlE eInt W A L c1 zs) => median_any A L c1 zs W h (by omega))
  have HSp := Lib.hid (fun W (h : SlE eInt W A L c1 zs) => spread_any A L c1 zs W h (by omega))
  by_cases h0 : numsF zs = 0
  · obtain ⟨x1, y1, hxy1⟩ : ∃ x y, fracV (twiceI zs).toNat 2 = .agg #[.int .i64 x, .int .i64 y] := ⟨_, _, rfl⟩
    obtain ⟨x2, y2, hxy2⟩ : ∃ x y, fracV (fourI zs).toNat 4 = .agg #[.int .i64 x, .int .i64 y] := ⟨_, _, rfl⟩
    have HM := Lib.hid (fun W (h : SlE eInt W A L c1 zs) => medianOf_any A L c1 zs x1 y1 W h h0 hxy1)
    have HP := Lib.hid (fun W (h : SlE eInt W A L c1 zs) => spreadOf_any A L c1 zs x2 y2 W h h0 hxy2)
    have hm1 : medV (numsF zs) (twiceI zs).toNat 2 = .tuple #[.agg #[.int .i64 x1, .int .i64 y1], .int .i64 0] := by unfold medV; rw [if_pos h0, hxy1]
    have hm2 : medV (numsF zs) (fourI zs).toNat 4 = .tuple #[.agg #[.int .i64 x2, .int .i64 y2], .int .i64 0] := by unfold medV; rw [if_pos h0, hxy2]
    rw [hm1] at HMd
    rw [hm2] at HSp
    rw [h0] at HN
    clear hm1 hm2 hxy1 hxy2 h0 hl7
    go_wp2_with fail
    refine (HMd.out _ hSL).mono ?_
    rintro e w2 ⟨rfl, hv1⟩
    replace hSL := hSL.below hv1
    replace hb := hb.trans (hv1.mono hb.size)
    obtain ⟨pa, hpa⟩ : ∃ p, p = w2.heap.size := ⟨_, rfl⟩
    have hX := Blk.new w2 [.int .i64 x1, .int .i64 y1] 28
    have hvA : Below w2.heap.size w2 (w2.alloc (.cells [Value.int .i64 x1, .int .i64 y1].toArray 28)) := (Below.refl _ _).alloc (Nat.le_refl _) _
    replace hSL := hSL.below hvA
    replace hb := hb.trans (hvA.mono hb.size)
    rw [← hpa] at hX
    clear hv1 HMd hvA
    go_wp2_with fail
    rw [← hpa]
    clear hpa
    refine (HSp.out _ hSL).mono ?_
    rintro e w3 ⟨rfl, hv1⟩
    replace hSL := hSL.below hv1
    replace hX := hX.below hv1
    replace hb := hb.trans (hv1.mono hb.size)
    obtain ⟨pb, hpb⟩ : ∃ p, p = w3.heap.size := ⟨_, rfl⟩
    have hY := Blk.new w3 [.int .i64 x2, .int .i64 y2] 28
    have hvA : Below w3.heap.size w3 (w3.alloc (.cells [Value.int .i64 x2, .int .i64 y2].toArray 28)) := (Below.refl _ _).alloc (Nat.le_refl _) _
    replace hSL := hSL.below hvA
    replace hX := hX.below hvA
    replace hb := hb.trans (hvA.mono hb.size)
    rw [← hpb] at hY
    clear hv1 HSp hvA
    go_wp2_with fail
    rw [← hpb]
    clear hpb
    refine (HN.out _ hSL).mono ?_
    rintro e w4 ⟨rfl, rfl⟩
    clear HN
    go_upto_region 8 with fail
    refine wb_begin ([pa, pb]) [] (by kernel_rfl) (fun u0 hb0' hz0' => ?_)
    replace hX := hX.below hb0'
    replace hY := hY.below hb0'
    replace hSL := hSL.below hb0'
    replace hb := hb.trans (hb0'.mono hb.size)
    clear hb0' hz0'
    refine wb_pure (i := 0) (d := some 50) (v := ?_) (by simp only [List.getElem?_toArray, List.getElem?_cons_succ, List.getElem?_cons_zero] <;> rfl) (by rfl) (by kernel_rfl) (by kernel_rfl) (by kernel_rfl) (fun _ _ _ h => h) (by rfl) ?_ ?_
    rotate_left
    · ((intro u); go_simp; try with_reducible rfl)
    try simp only [Act.put, List.setIfInBounds_toArray, List.set_cons_zero, List.set_cons_succ]
    refine wb_pure (i := 1) (d := some 51) (v := ?_) (by simp only [List.getElem?_toArray, List.getElem?_cons_succ, List.getElem?_cons_zero] <;> rfl) (by rfl) (by kernel_rfl) (by kernel_rfl) (by kernel_rfl) (fun _ _ _ h => h) (by rfl) ?_ ?_
    rotate_left
    · ((intro u); go_simp; try with_reducible rfl)
    try simp only [Act.put, List.setIfInBounds_toArray, List.set_cons_zero, List.set_cons_succ]
    refine wb_pure (i := 2) (d := some 52) (v := ?_) (by simp only [List.getElem?_toArray, List.getElem?_cons_succ, List.getElem?_cons_zero] <;> rfl) (by rfl) (by kernel_rfl) (by kernel_rfl) (by kernel_rfl) (fun _ _ _ h => h) (by rfl) ?_ ?_
    rotate_left
    · ((intro u); go_simp; try with_reducible rfl)
    try simp only [Act.put, List.setIfInBounds_toArray, List.set_cons_zero, List.set_cons_succ]
    refine wb_pure (i := 3) (d := some 53) (v := ?_) (by simp only [List.getElem?_toArray, List.getElem?_cons_succ, List.getElem?_cons_zero] <;> rfl) (by rfl) (by kernel_rfl) (by kernel_rfl) (by kernel_rfl) (fun _ _ _ h => h) (by rfl) ?_ ?_
    rotate_left
    · ((intro u); go_simp; try with_reducible rfl)
    try simp only [Act.put, List.setIfInBounds_toArray, List.set_cons_zero, List.set_cons_succ]
    refine wb_pure (i := 4) (d := some 54) (v := ?_) (by simp only [List.getElem?_toArray, List.getElem?_cons_succ, List.getElem?_cons_zero] <;> rfl) (by rfl) (by kernel_rfl) (by kernel_rfl) (by kernel_rfl) (fun _ _ _ h => h) (by rfl) ?_ ?_
    rotate_left
    · ((intro u); go_simp; try with_reducible rfl)
    try simp only [Act.put, List.setIfInBounds_toArray, List.set_cons_zero, List.set_cons_succ]
    refine wb_pure (i := 5) (d := some 55) (v := ?_) (by simp only [List.getElem?_toArray, List.getElem?_cons_succ, List.getElem?_cons_zero] <;> rfl) (by rfl) (by kernel_rfl) (by kernel_rfl) (by kernel_rfl) (fun _ _ _ h => h) (by rfl) ?_ ?_
    rotate_left
    · ((intro u); go_simp; try with_reducible rfl)
    try simp only [Act.put, List.setIfInBounds_toArray, List.set_cons_zero, List.set_cons_succ]
    refine wb_pure (i := 6) (d := some 56) (v := ?_) (by simp only [List.getElem?_toArray, List.getElem?_cons_succ, List.getElem?_cons_zero] <;> rfl) (by rfl) (by kernel_rfl) (by kernel_rfl) (by kernel_rfl) (fun _ _ _ h => h) (by rfl) ?_ ?_
    rotate_left
    · ((intro u); go_simp; try with_reducible rfl)
    try simp only [Act.put, List.setIfInBounds_toArray, List.set_cons_zero, List.set_cons_succ]
    refine wb_take (i := 7) (d := some 57) (v := ?_) (by simp only [List.getElem?_toArray, List.getElem?_cons_succ, List.getElem?_cons_zero] <;> rfl) (by rfl) (by kernel_rfl) (by kernel_rfl) (by kernel_rfl) (fun _ _ _ h => h) (by rfl) (by kernel_rfl) ?_ ?_
    rotate_left
    · ((intro u hu); have kx := hX.kb hu (by simp); have ky := hY.kb hu (by simp); have k0 := kx.cell (i := 0) (v := .int .i64 x1) rfl; have k1 := kx.cell (i := 1) (v := .int .i64 y1) rfl; have k2 := ky.cell (i := 0) (v := .int .i64 x2) rfl; have k3 := ky.cell (i := 1) (v := .int .i64 y2) rfl; clear kx ky; go_simp; try with_reducible rfl)
    try simp only [Act.put, List.setIfInBounds_toArray, List.set_cons_zero, List.set_cons_succ]
    refine wb_pure (i := 8) (d := some 58) (v := ?_) (by simp only [List.getElem?_toArray, List.getElem?_cons_succ, List.getElem?_cons_zero] <;> rfl) (by rfl) (by kernel_rfl) (by kernel_rfl) (by kernel_rfl) (fun _ _ _ h => h) (by rfl) ?_ ?_
    rotate_left
    · ((intro u); go_simp; try with_reducible rfl)
    try simp only [Act.put, List.setIfInBounds_toArray, List.set_cons_zero, List.set_cons_succ]
    refine wb_one (i := 9) (by simp only [List.getElem?_toArray, List.getElem?_cons_succ, List.getElem?_cons_zero] <;> rfl) (by kernel_rfl) (by rfl) (fun K hK => ?_)
    go_simp
    refine (HM.out _ hSL).mono ?_
    rintro e u1 ⟨rfl, hv1⟩
    refine hK _ _ (Kb.below hv1 (by intro q hq; simp only [List.mem_cons, List.not_mem_nil, or_false] at hq; rcases hq with rfl | rfl <;> first | exact hX.lt | exact hY.lt)) ?_
    replace hX := hX.below hv1
    replace hY := hY.below hv1
    replace hSL := hSL.below hv1
    replace hb := hb.trans (hv1.mono hb.size)
    clear hK K hv1
    try simp only [Act.put, List.setIfInBounds_toArray, List.set_cons_zero, List.set_cons_succ]
    refine wb_pure (i := 10) (d := some 60) (v := ?_) (by simp only [List.getElem?_toArray, List.getElem?_cons_succ, List.getElem?_cons_zero] <;> rfl) (by rfl) (by kernel_rfl) (by kernel_rfl) (by kernel_rfl) (fun _ _ _ h => h) (by rfl) ?_ ?_
    rotate_left
    · ((intro u); go_simp; try with_reducible rfl)
    try simp only [Act.put, List.setIfInBounds_toArray, List.set_cons_zero, List.set_cons_succ]
    refine wb_pure (i := 11) (d := some 61) (v := ?_) (by simp only [List.getElem?_toArray, List.getElem?_cons_succ, List.getElem?_cons_zero] <;> rfl) (by rfl) (by kernel_rfl) (by kernel_rfl) (by kernel_rfl) (fun _ _ _ h => h) (by rfl) ?_ ?_
    rotate_left
    · ((intro u); go_simp; try with_reducible rfl)
    try simp only [Act.put, List.setIfInBounds_toArray, List.set_cons_zero, List.set_cons_succ]
    refine wb_pure (i := 12) (d := some 62) (v := ?_) (by simp only [List.getElem?_toArray, List.getElem?_cons_succ, List.getElem?_cons_zero] <;> rfl) (by rfl) (by kernel_rfl) (by kernel_rfl) (by kernel_rfl) (fun _ _ _ h => h) (by rfl) ?_ ?_
    rotate_left
    · ((intro u); go_simp; try with_reducible rfl)
    try simp only [Act.put, List.setIfInBounds_toArray, List.set_cons_zero, List.set_cons_succ]
    refine wb_take (i := 13) (d := some 63) (v := ?_) (by simp only [List.getElem?_toArray, List.getElem?_cons_succ, List.getElem?_cons_zero] <;> rfl) (by rfl) (by kernel_rfl) (by kernel_rfl) (by kernel_rfl) (fun _ _ _ h => h) (by rfl) (by kernel_rfl) ?_ ?_
    rotate_left
    · ((intro u hu); have kx := hX.kb hu (by simp); have ky := hY.kb hu (by simp); have k0 := kx.cell (i := 0) (v := .int .i64 x1) rfl; have k1 := kx.cell (i := 1) (v := .int .i64 y1) rfl; have k2 := ky.cell (i := 0) (v := .int .i64 x2) rfl; have k3 := ky.cell (i := 1) (v := .int .i64 y2) rfl; clear kx ky; go_simp; try with_reducible rfl)
    try simp only [Act.put, List.setIfInBounds_toArray, List.set_cons_zero, List.set_cons_succ]
    refine wb_pure (i := 14) (d := some 64) (v := ?_) (by simp only [List.getElem?_toArray, List.getElem?_cons_succ, List.getElem?_cons_zero] <;> rfl) (by rfl) (by kernel_rfl) (by kernel_rfl) (by kernel_rfl) (fun _ _ _ h => h) (by rfl) ?_ ?_
    rotate_left
    · ((intro u); go_simp; try with_reducible rfl)
    try simp only [Act.put, List.setIfInBounds_toArray, List.set_cons_zero, List.set_cons_succ]
    refine wb_one (i := 15) (by simp only [List.getElem?_toArray, List.getElem?_cons_succ, List.getElem?_cons_zero] <;> rfl) (by kernel_rfl) (by rfl) (fun K hK => ?_)
    go_simp
    refine (HP.out _ hSL).mono ?_
    rintro e u2 ⟨rfl, hv1⟩
    refine hK _ _ (Kb.below hv1 (by intro q hq; simp only [List.mem_cons, List.not_mem_nil, or_false] at hq; rcases hq with rfl | rfl <;> first | exact hX.lt | exact hY.lt)) ?_
    replace hX := hX.below hv1
    replace hY := hY.below hv1
    replace hSL := hSL.below hv1
    replace hb := hb.trans (hv1.mono hb.size)
    clear hK K hv1
    try simp only [Act.put, List.setIfInBounds_toArray, List.set_cons_zero, List.set_cons_succ]
    refine wb_pure (i := 16) (d := some 66) (v := ?_) (by simp only [List.getElem?_toArray, List.getElem?_cons_succ, List.getElem?_cons_zero] <;> rfl) (by rfl) (by kernel_rfl) (by kernel_rfl) (by kernel_rfl) (fun _ _ _ h => h) (by rfl) ?_ ?_
    rotate_left
    · ((intro u); go_simp; try with_reducible rfl)
    try simp only [Act.put, List.setIfInBounds_toArray, List.set_cons_zero, List.set_cons_succ]
    refine wb_pure (i := 17) (d := some 67) (v := ?_) (by simp only [List.getElem?_toArray, List.getElem?_cons_succ, List.getElem?_cons_zero] <;> rfl) (by rfl) (by kernel_rfl) (by kernel_rfl) (by kernel_rfl) (fun _ _ _ h => h) (by rfl) ?_ ?_
    rotate_left
    · ((intro u); go_simp; try with_reducible rfl)
    try simp only [Act.put, List.setIfInBounds_toArray, List.set_cons_zero, List.set_cons_succ]
    refine wb_pure (i := 18) (d := some 68) (v := ?_) (by simp only [List.getElem?_toArray, List.getElem?_cons_succ, List.getElem?_cons_zero] <;> rfl) (by rfl) (by kernel_rfl) (by kernel_rfl) (by kernel_rfl) (fun _ _ _ h => h) (by rfl) ?_ ?_
    rotate_left
    · ((intro u); go_simp; try with_reducible rfl)
    try simp only [Act.put, List.setIfInBounds_toArray, List.set_cons_zero, List.set_cons_succ]
    refine wb_one (i := 19) (by simp only [List.getElem?_toArray, List.getElem?_cons_succ, List.getElem?_cons_zero] <;> rfl) (by kernel_rfl) (by rfl) (fun K hK => ?_)
    go_simp
    refine (flowing_any _).mono ?_
    rintro e u3 ⟨rfl, hv1⟩
    refine hK _ _ (Kb.below hv1 (by intro q hq; simp only [List.mem_cons, List.not_mem_nil, or_false] at hq; rcases hq with rfl | rfl <;> first | exact hX.lt | exact hY.lt)) ?_
    replace hX := hX.below hv1
    replace hY := hY.below hv1
    replace hSL := hSL.below hv1
    replace hb := hb.trans (hv1.mono hb.size)
    clear hK K hv1
    try simp only [Act.put, List.setIfInBounds_toArray, List.set_cons_zero, List.set_cons_succ]
    refine wb_pure (i := 20) (d := some 70) (v := ?_) (by simp only [List.getElem?_toArray, List.getElem?_cons_succ, List.getElem?_cons_zero] <;> rfl) (by rfl) (by kernel_rfl) (by kernel_rfl) (by kernel_rfl) (fun _ _ _ h => h) (by rfl) ?_ ?_
    rotate_left
    · ((intro u); go_simp; try with_reducible rfl)
    try simp only [Act.put, List.setIfInBounds_toArray, List.set_cons_zero, List.set_cons_succ]
    refine wb_pure (i := 21) (d := some 2) (v := ?_) (by simp only [List.getElem?_toArray, List.getElem?_cons_succ, List.getElem?_cons_zero] <;> rfl) (by rfl) (by kernel_rfl) (by kernel_rfl) (by kernel_rfl) (fun _ _ _ h => h) (by rfl) ?_ ?_
    rotate_left
    · ((intro u); go_simp; try with_reducible rfl)
    try simp only [Act.put, List.setIfInBounds_toArray, List.set_cons_zero, List.set_cons_succ]
    refine wb_done (by kernel_rfl) ?_ _
    skip
    go_wp2_with fail
    go_ret
    exact ⟨rfl, hb⟩
  · obtain ⟨f, hf⟩ : ∃ f, f = numsF zs := ⟨_, rfl⟩
    have hm1 : medV (numsF zs) (twiceI zs).toNat 2 = .tuple #[.agg #[.int .i64 0, .int .i64 0], .int .i64 f] := by unfold medV; rw [if_neg h0, hf]
    have hm2 : medV (numsF zs) (fourI zs).toNat 4 = .tuple #[.agg #[.int .i64 0, .int .i64 0], .int .i64 f] := by unfold medV; rw [if_neg h0, hf]
    rw [hm1] at HMd
    rw [hm2] at HSp
    rw [← hf] at HN h0
    clear hm1 hm2 hf hl7
    go_wp2_with fail
    refine (HMd.out _ hSL).mono ?_
    rintro e w2 ⟨rfl, hv1⟩
    replace hSL := hSL.below hv1
    replace hb := hb.trans (hv1.mono hb.size)
    obtain ⟨pa, hpa⟩ : ∃ p, p = w2.heap.size := ⟨_, rfl⟩
    have hX := Blk.new w2 [.int .i64 0, .int .i64 0] 28
    have hvA : Below w2.heap.size w2 (w2.alloc (.cells [Value.int .i64 0, .int .i64 0].toArray 28)) := (Below.refl _ _).alloc (Nat.le_refl _) _
    replace hSL := hSL.below hvA
    replace hb := hb.trans (hvA.mono hb.size)
    rw [← hpa] at hX
    clear hv1 HMd hvA
    go_wp2_with fail
    rw [← hpa]
    clear hpa
    refine (HSp.out _ hSL).mono ?_
    rintro e w3 ⟨rfl, hv1⟩
    replace hSL := hSL.below hv1
    replace hX := hX.below hv1
    replace hb := hb.trans (hv1.mono hb.size)
    obtain ⟨pb, hpb⟩ : ∃ p, p = w3.heap.size := ⟨_, rfl⟩
    have hY := Blk.new w3 [.int .i64 0, .int .i64 0] 28
    have hvA : Below w3.heap.size w3 (w3.alloc (.cells [Value.int .i64 0, .int .i64 0].toArray 28)) := (Below.refl _ _).alloc (Nat.le_refl _) _
    replace hSL := hSL.below hvA
    replace hX := hX.below hvA
    replace hb := hb.trans (hvA.mono hb.size)
    rw [← hpb] at hY
    clear hv1 HSp hvA
    go_wp2_with fail
    rw [← hpb]
    clear hpb
    refine (HN.out _ hSL).mono ?_
    rintro e w4 ⟨rfl, rfl⟩
    clear HN
    have k0 := hX.cell (i := 0) (v := .int .i64 0) rfl
    have k1 := hX.cell (i := 1) (v := .int .i64 0) rfl
    have k2 := hY.cell (i := 0) (v := .int .i64 0) rfl
    have k3 := hY.cell (i := 1) (v := .int .i64 0) rfl
    go_wp2_with fail
    refine (flowing_any _).mono ?_
    rintro e w5 ⟨rfl, hv1⟩
    replace hb := hb.trans (hv1.mono hb.size)
    go_wp2_with fail
    go_ret
    exact ⟨rfl, hb⟩
end Go.Proofs.Ytmfflcemceonhaa
