/- Prefixes: Holds, Within of the reference. -/
import Derived.Test.YtfpcalgkfagjkaaGreatDoorKrGzA
import Derived.Test.YtfpcalgkfagjkaaGreatDoorKrPfxD
set_option linter.unusedVariables false
set_option linter.unusedSimpArgs false
namespace Go.Proofs.YtfpcalgkfagjkaaGreatDoor
open Go.RowKit

set_option linter.unusedSimpArgs false in
set_option maxHeartbeats 1000000 in
theorem holds_any (s : Bool) (hi lo n : Int) (t : Bool) (h l : Int) (w : World) (h1 : 0 ≤ hi) (h2 : hi < 18446744073709551616) (h3 : 0 ≤ lo) (h4 : lo < 18446744073709551616)
    (k1 : 0 ≤ h) (k2 : h < 18446744073709551616) (k3 : 0 ≤ l) (k4 : l < 18446744073709551616) (hn1 : 0 ≤ n) (hn2 : n ≤ lenZ s) :
    Calls Tryz.prog 40 #[.agg #[.bool s, .int .u64 hi, .int .u64 lo, .int .i64 n], .agg #[.bool t, .int .u64 h, .int .u64 l]] w (GivesV (.bool (hdB (num hi lo) (lenZ s - n).toNat s (num h l) t)) w) := by
  have HF : Hid (∀ u, ((w.alloc (.cells #[.bool s, .int .u64 hi, .int .u64 lo, .int .i64 n] 35)).alloc (.cells #[.bool t, .int .u64 h, .int .u64 l] 30)).grownBy u none → _) :=
    Lib.hid fun u hu => And.intro ((blk2 w [.bool s, .int .u64 hi, .int .u64 lo, .int .i64 n] [.bool t, .int .u64 h, .int .u64 l] _ _).1.gn hu).four ((blk2 w [.bool s, .int .u64 hi, .int .u64 lo, .int .i64 n] [.bool t, .int .u64 h, .int .u64 l] _ _).2.gn hu).three
  have hB := gb_refl ((w.alloc (.cells #[.bool s, .int .u64 hi, .int .u64 lo, .int .i64 n] 35)).alloc (.cells #[.bool t, .int .u64 h, .int .u64 l] 30)) none
  have HA := fun w' => Lib.hid (of_any s hi lo w' h1 h2 h3 h4)
  have HX := fun w' => Lib.hid (of_any t h l w' k1 k2 k3 k4)
  have HL := fun w' => Lib.hid (lastOf_any s hi lo n w' h1 h2 h3 h4 hn1 hn2)
  have HC1 := fun w' => Lib.hid (cmp_any (num hi lo) s (num h l) t w' (num_lt h2 h4) (num_lt k2 k4))
  have HC2 := fun w' => Lib.hid (cmp_any (num h l) t (fil (num hi lo) (lenZ s - n).toNat) s w' (num_lt k2 k4) (fil_lt128 s hi lo n h2 h4 hn1))
  have HR := Lib.hid (show hdB (num hi lo) (lenZ s - n).toNat s (num h l) t = (decide (cmpW (num hi lo) s (num h l) t ≤ 0) && decide (cmpW (num h l) t (fil (num hi lo) (lenZ s - n).toNat) s ≤ 0)) from rfl)
  clear h1 h2 h3 h4 k1 k2 k3 k4 hn1 hn2
  generalize num hi lo = A at HA HL HC1 HC2 HR ⊢
  generalize num h l = X at HX HC1 HC2 HR ⊢
  generalize fil A (lenZ s - n).toNat = F at HL HC2 HR
  generalize cmpW A s X t = z1 at HC1 HR
  generalize cmpW X t F s = z2 at HC2 HR
  by_cases hc : z1 ≤ 0
  · replace HR := Lib.hid (HR.out.trans (show (decide (z1 ≤ 0) && decide (z2 ≤ 0)) = decide (z2 ≤ 0) by simp [hc]))
    go_enter Tryz.func40, Tryz.ntmps40
    go_wp2_with fail
    refine ways_begin (none) (by kernel_rfl) ?_
    replace hB := gb_drew hB
    refine ways_take (i := 0) (d := some 5) (v := ?_) (by simp only [gzA, gzB, gzC] <;> rfl) (by rfl) (by kernel_rfl) (by kernel_rfl) (by kernel_rfl) (fun _ _ _ h => h) (by rfl) ?_ ?_; rotate_left; · (intro u hu; go_simp; try with_reducible rfl)
    try simp only [Act.put, gzD, gzE, gzF]
    refine ways_take (i := 1) (d := some 6) (v := ?_) (by simp only [gzA, gzB, gzC] <;> rfl) (by rfl) (by kernel_rfl) (by kernel_rfl) (by kernel_rfl) (fun _ _ _ h => h) (by rfl) ?_ ?_; rotate_left; · (intro u hu; obtain ⟨⟨c0, c1, c2, c3, _⟩, ⟨d0, d1, d2, _⟩⟩ := HF.out u (gb_trans hB hu); go_simp; try with_reducible rfl)
    try simp only [Act.put, gzD, gzE, gzF]
    refine ways_take (i := 3) (d := some 8) (v := ?_) (by simp only [gzA, gzB, gzC] <;> rfl) (by rfl) (by kernel_rfl) (by kernel_rfl) (by kernel_rfl) (fun _ _ _ h => h) (by rfl) ?_ ?_; rotate_left; · (intro u hu; obtain ⟨⟨c0, c1, c2, c3, _⟩, ⟨d0, d1, d2, _⟩⟩ := HF.out u (gb_trans hB hu); go_simp; try with_reducible rfl)
    try simp only [Act.put, gzD, gzE, gzF]
    refine ways_one (i := 2) (by simp only [gzA, gzB, gzC] <;> rfl) (by kernel_rfl) (by rfl) (fun u hu K hK => ?_)
    replace hB := gb_trans hB hu
    go_simp
    refine ((HA _).out).mono ?_
    rintro e w102 ⟨rfl, hb2⟩
    have hg2 := gbB (r := none) hb2
    refine hK.out _ _ hg2 ?_
    replace hB := gb_trans hB hg2
    clear hK K hu
    try simp only [Act.put, gzD, gzE, gzF]
    refine ways_one (i := 4) (by simp only [gzA, gzB, gzC] <;> rfl) (by kernel_rfl) (by rfl) (fun u hu K hK => ?_)
    replace hB := gb_trans hB hu
    go_simp
    refine ((HX _).out).mono ?_
    rintro e w104 ⟨rfl, hb4⟩
    have hg4 := gbB (r := none) hb4
    refine hK.out _ _ hg4 ?_
    replace hB := gb_trans hB hg4
    clear hK K hu
    try simp only [Act.put, gzD, gzE, gzF]
    refine ways_one (i := 5) (by simp only [gzA, gzB, gzC] <;> rfl) (by kernel_rfl) (by rfl) (fun u hu K hK => ?_)
    replace hB := gb_trans hB hu
    go_simp
    refine ((HC1 _).out).mono ?_
    rintro e w105 ⟨rfl, hb5⟩
    have hg5 := gbB (r := none) hb5
    refine hK.out _ _ hg5 ?_
    replace hB := gb_trans hB hg5
    clear hK K hu
    try simp only [Act.put, gzD, gzE, gzF]
    refine ways_take (i := 6) (d := some 11) (v := ?_) (by simp only [gzA, gzB, gzC] <;> rfl) (by rfl) (by kernel_rfl) (by kernel_rfl) (by kernel_rfl) (fun _ _ _ h => h) (by rfl) ?_ ?_; rotate_left; · (intro u hu; go_simp; try with_reducible rfl)
    try simp only [Act.put, gzD, gzE, gzF]
    refine ways_take (i := 7) (d := some 12) (v := ?_) (by simp only [gzA, gzB, gzC] <;> rfl) (by rfl) (by kernel_rfl) (by kernel_rfl) (by kernel_rfl) (fun _ _ _ h => h) (by rfl) ?_ ?_; rotate_left; · (intro u hu; go_simp; try with_reducible rfl)
    try simp only [Act.put, gzD, gzE, gzF]
    refine ways_take (i := 8) (d := some 13) (v := ?_) (by simp only [gzA, gzB, gzC] <;> rfl) (by rfl) (by kernel_rfl) (by kernel_rfl) (by kernel_rfl) (fun _ _ _ h => h) (by rfl) ?_ ?_; rotate_left; · (intro u hu; obtain ⟨⟨c0, c1, c2, c3, _⟩, ⟨d0, d1, d2, _⟩⟩ := HF.out u (gb_trans hB hu); go_simp; try with_reducible rfl)
    try simp only [Act.put, gzD, gzE, gzF]
    refine ways_take (i := 10) (d := some 15) (v := ?_) (by simp only [gzA, gzB, gzC] <;> rfl) (by rfl) (by kernel_rfl) (by kernel_rfl) (by kernel_rfl) (fun _ _ _ h => h) (by rfl) ?_ ?_; rotate_left; · (intro u hu; obtain ⟨⟨c0, c1, c2, c3, _⟩, ⟨d0, d1, d2, _⟩⟩ := HF.out u (gb_trans hB hu); go_simp; try with_reducible rfl)
    try simp only [Act.put, gzD, gzE, gzF]
    refine ways_one (i := 9) (by simp only [gzA, gzB, gzC] <;> rfl) (by kernel_rfl) (by rfl) (fun u hu K hK => ?_)
    replace hB := gb_trans hB hu
    go_simp
    refine ((HX _).out).mono ?_
    rintro e w109 ⟨rfl, hb9⟩
    have hg9 := gbB (r := none) hb9
    refine hK.out _ _ hg9 ?_
    replace hB := gb_trans hB hg9
    clear hK K hu
    try simp only [Act.put, gzD, gzE, gzF]
    refine ways_one (i := 11) (by simp only [gzA, gzB, gzC] <;> rfl) (by kernel_rfl) (by rfl) (fun u hu K hK => ?_)
    replace hB := gb_trans hB hu
    go_simp
    refine ((HL _).out).mono ?_
    rintro e w111 ⟨rfl, hb11⟩
    have hg11 := gbB (r := none) hb11
    refine hK.out _ _ hg11 ?_
    replace hB := gb_trans hB hg11
    clear hK K hu
    try simp only [Act.put, gzD, gzE, gzF]
    refine ways_one (i := 12) (by simp only [gzA, gzB, gzC] <;> rfl) (by kernel_rfl) (by rfl) (fun u hu K hK => ?_)
    replace hB := gb_trans hB hu
    go_simp
    refine ((HC2 _).out).mono ?_
    rintro e w112 ⟨rfl, hb12⟩
    have hg12 := gbB (r := none) hb12
    refine hK.out _ _ hg12 ?_
    replace hB := gb_trans hB hg12
    clear hK K hu
    try simp only [Act.put, gzD, gzE, gzF]
    refine ways_take (i := 13) (d := some 18) (v := ?_) (by simp only [gzA, gzB, gzC] <;> rfl) (by rfl) (by kernel_rfl) (by kernel_rfl) (by kernel_rfl) (fun _ _ _ h => h) (by rfl) ?_ ?_; rotate_left; · (intro u hu; go_simp; try with_reducible rfl)
    try simp only [Act.put, gzD, gzE, gzF]
    refine ways_take (i := 14) (d := some 19) (v := ?_) (by simp only [gzA, gzB, gzC] <;> rfl) (by rfl) (by kernel_rfl) (by kernel_rfl) (by kernel_rfl) (fun _ _ _ h => h) (by rfl) ?_ ?_; rotate_left; · (intro u hu; go_simp; try with_reducible rfl)
    try simp only [Act.put, gzD, gzE, gzF]
    refine ways_take (i := 15) (d := some 4) (v := ?_) (by simp only [gzA, gzB, gzC] <;> rfl) (by rfl) (by kernel_rfl) (by kernel_rfl) (by kernel_rfl) (fun _ _ _ h => h) (by rfl) ?_ ?_; rotate_left; · (intro u hu; go_simp; try with_reducible rfl)
    try simp only [Act.put, gzD, gzE, gzF]
    refine ways_done (by kernel_rfl) (fun u hu => ?_) _
    replace hB := gb_trans hB hu
    clear hu
    go_wp2_with fail
    go_ret
    exact ⟨ret_bool HR.out.symm, below_gb2 hB⟩
  · replace HR := Lib.hid (HR.out.trans (show (decide (z1 ≤ 0) && decide (z2 ≤ 0)) = false by simp [hc]))
    have hd : decide (z1 ≤ 0) = false := by simpa using hc
    clear hc
    go_enter Tryz.func40, Tryz.ntmps40
    go_wp2_with fail
    refine ways_begin (none) (by kernel_rfl) ?_
    replace hB := gb_drew hB
    refine ways_take (i := 0) (d := some 5) (v := ?_) (by simp only [gzA, gzB, gzC] <;> rfl) (by rfl) (by kernel_rfl) (by kernel_rfl) (by kernel_rfl) (fun _ _ _ h => h) (by rfl) ?_ ?_; rotate_left; · (intro u hu; go_simp; try with_reducible rfl)
    try simp only [Act.put, gzD, gzE, gzF]
    refine ways_take (i := 1) (d := some 6) (v := ?_) (by simp only [gzA, gzB, gzC] <;> rfl) (by rfl) (by kernel_rfl) (by kernel_rfl) (by kernel_rfl) (fun _ _ _ h => h) (by rfl) ?_ ?_; rotate_left; · (intro u hu; obtain ⟨⟨c0, c1, c2, c3, _⟩, ⟨d0, d1, d2, _⟩⟩ := HF.out u (gb_trans hB hu); go_simp; try with_reducible rfl)
    try simp only [Act.put, gzD, gzE, gzF]
    refine ways_take (i := 3) (d := some 8) (v := ?_) (by simp only [gzA, gzB, gzC] <;> rfl) (by rfl) (by kernel_rfl) (by kernel_rfl) (by kernel_rfl) (fun _ _ _ h => h) (by rfl) ?_ ?_; rotate_left; · (intro u hu; obtain ⟨⟨c0, c1, c2, c3, _⟩, ⟨d0, d1, d2, _⟩⟩ := HF.out u (gb_trans hB hu); go_simp; try with_reducible rfl)
    try simp only [Act.put, gzD, gzE, gzF]
    refine ways_one (i := 2) (by simp only [gzA, gzB, gzC] <;> rfl) (by kernel_rfl) (by rfl) (fun u hu K hK => ?_)
    replace hB := gb_trans hB hu
    go_simp
    refine ((HA _).out).mono ?_
    rintro e w102 ⟨rfl, hb2⟩
    have hg2 := gbB (r := none) hb2
    refine hK.out _ _ hg2 ?_
    replace hB := gb_trans hB hg2
    clear hK K hu
    try simp only [Act.put, gzD, gzE, gzF]
    refine ways_one (i := 4) (by simp only [gzA, gzB, gzC] <;> rfl) (by kernel_rfl) (by rfl) (fun u hu K hK => ?_)
    replace hB := gb_trans hB hu
    go_simp
    refine ((HX _).out).mono ?_
    rintro e w104 ⟨rfl, hb4⟩
    have hg4 := gbB (r := none) hb4
    refine hK.out _ _ hg4 ?_
    replace hB := gb_trans hB hg4
    clear hK K hu
    try simp only [Act.put, gzD, gzE, gzF]
    refine ways_one (i := 5) (by simp only [gzA, gzB, gzC] <;> rfl) (by kernel_rfl) (by rfl) (fun u hu K hK => ?_)
    replace hB := gb_trans hB hu
    go_simp
    refine ((HC1 _).out).mono ?_
    rintro e w105 ⟨rfl, hb5⟩
    have hg5 := gbB (r := none) hb5
    refine hK.out _ _ hg5 ?_
    replace hB := gb_trans hB hg5
    clear hK K hu
    try simp only [Act.put, gzD, gzE, gzF]
    refine ways_take (i := 6) (d := some 11) (v := ?_) (by simp only [gzA, gzB, gzC] <;> rfl) (by rfl) (by kernel_rfl) (by kernel_rfl) (by kernel_rfl) (fun _ _ _ h => h) (by rfl) ?_ ?_; rotate_left; · (intro u hu; go_simp; try with_reducible rfl)
    try simp only [Act.put, gzD, gzE, gzF]
    refine ways_take (i := 7) (d := some 12) (v := ?_) (by simp only [gzA, gzB, gzC] <;> rfl) (by rfl) (by kernel_rfl) (by kernel_rfl) (by kernel_rfl) (fun _ _ _ h => h) (by rfl) ?_ ?_; rotate_left; · (intro u hu; go_simp; try with_reducible rfl)
    try simp only [Act.put, gzD, gzE, gzF]
    refine ways_skip (i := 8) (d := some 13) (by simp only [gzA, gzB, gzC] <;> rfl) (by rfl) (by kernel_rfl) (by kernel_rfl) (by kernel_rfl) (fun _ _ _ h => h) (by rfl) ?_
    try simp only [Act.put, gzD, gzE, gzF]
    refine ways_skip (i := 9) (d := some 14) (by simp only [gzA, gzB, gzC] <;> rfl) (by rfl) (by kernel_rfl) (by kernel_rfl) (by kernel_rfl) (fun _ _ _ h => h) (by rfl) ?_
    try simp only [Act.put, gzD, gzE, gzF]
    refine ways_skip (i := 10) (d := some 15) (by simp only [gzA, gzB, gzC] <;> rfl) (by rfl) (by kernel_rfl) (by kernel_rfl) (by kernel_rfl) (fun _ _ _ h => h) (by rfl) ?_
    try simp only [Act.put, gzD, gzE, gzF]
    refine ways_skip (i := 11) (d := some 16) (by simp only [gzA, gzB, gzC] <;> rfl) (by rfl) (by kernel_rfl) (by kernel_rfl) (by kernel_rfl) (fun _ _ _ h => h) (by rfl) ?_
    try simp only [Act.put, gzD, gzE, gzF]
    refine ways_skip (i := 12) (d := some 17) (by simp only [gzA, gzB, gzC] <;> rfl) (by rfl) (by kernel_rfl) (by kernel_rfl) (by kernel_rfl) (fun _ _ _ h => h) (by rfl) ?_
    try simp only [Act.put, gzD, gzE, gzF]
    refine ways_skip (i := 13) (d := some 18) (by simp only [gzA, gzB, gzC] <;> rfl) (by rfl) (by kernel_rfl) (by kernel_rfl) (by kernel_rfl) (fun _ _ _ h => h) (by rfl) ?_
    try simp only [Act.put, gzD, gzE, gzF]
    refine ways_take (i := 14) (d := some 19) (v := ?_) (by simp only [gzA, gzB, gzC] <;> rfl) (by rfl) (by kernel_rfl) (by kernel_rfl) (by kernel_rfl) (fun _ _ _ h => h) (by rfl) ?_ ?_; rotate_left; · (intro u hu; go_simp; try with_reducible rfl)
    try simp only [Act.put, gzD, gzE, gzF]
    refine ways_take (i := 15) (d := some 4) (v := ?_) (by simp only [gzA, gzB, gzC] <;> rfl) (by rfl) (by kernel_rfl) (by kernel_rfl) (by kernel_rfl) (fun _ _ _ h => h) (by rfl) ?_ ?_; rotate_left; · (intro u hu; go_simp; try with_reducible rfl)
    try simp only [Act.put, gzD, gzE, gzF]
    refine ways_done (by kernel_rfl) (fun u hu => ?_) _
    replace hB := gb_trans hB hu
    clear hu
    go_wp2_with fail
    go_ret
    exact ⟨ret_bool HR.out.symm, below_gb2 hB⟩

end Go.Proofs.YtfpcalgkfagjkaaGreatDoor
