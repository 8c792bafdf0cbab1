/- A policy that is read. -/
import Derived.Test.YtmgdkefoehlamaaGreatDoorKoGzA
import Derived.Test.YtmgdkefoehlamaaGreatDoorKoRuK
import Derived.Test.YtmgdkefoehlamaaGreatDoorKoRuH
set_option linter.unusedVariables false
set_option linter.unusedSimpArgs false
set_option maxRecDepth 100000
namespace Go.Proofs.YtmgdkefoehlamaaGreatDoor
open Go.RowKit

set_option maxHeartbeats 1000000 in
theorem isRightAll_any (w : World) : Calls Tryz.prog 351 #[.agg #[.int .i64 0, .int .i64 65535]] w (GivesV (.bool true) w) := by
  have hB := Blk.new w [.int .i64 0, .int .i64 65535] 250
  have hb : Below w.heap.size w (w.alloc (.cells #[.int .i64 0, .int .i64 65535] 250)) := (Below.refl _ _).alloc (Nat.le_refl _) _
  have c0 := hB.cell (i := 0) rfl
  have c1 := hB.cell (i := 1) rfl
  go_enter Tryz.func351, Tryz.ntmps351
  go_wp2_with fail
  go_ret
  exact ⟨rfl, hb⟩
@[go_sem] theorem run_fieldTg (x : Wh) (a b : Int) (w : World) : (Instr.field 252 (.agg (tgC ⟨x, a, b⟩).toArray) 1).run Tryz.prog w = .ok (.agg #[.int .i64 a, .int .i64 b]) w := by kernel_rfl

set_option maxHeartbeats 2000000 in
theorem checkEndsStar_any (s d : Sl3) (m : Value) (w : World) (hF : Rd2 w) (hs : SlE eWh w s.A s.n s.c [wStar]) (hd : SlE eTg w d.A d.n d.c [tStar]) :
    Calls Tryz.prog 269 #[.agg (gtC ⟨s, d, 0, ⟨none, 0, 0⟩⟩).toArray, m] w (GivesV (.int .i64 0) w) := by
  obtain ⟨sA, sn, sc⟩ := s
  obtain ⟨dA, dn, dc⟩ := d
  simp only at hs hd
  have en : sn = 1 := hs.1
  have em : dn = 1 := hd.1
  subst en em
  obtain ⟨gs, os, rfl⟩ : ∃ g o, sA = some ⟨g, o, none⟩ := by
    rcases hs.2.2.2 with h | ⟨g, o, h, _⟩
    · cases h
    · exact ⟨g, o, h⟩
  obtain ⟨gd, od, rfl⟩ : ∃ g o, dA = some ⟨g, o, none⟩ := by
    rcases hd.2.2.2 with h | ⟨g, o, h, _⟩
    · cases h
    · exact ⟨g, o, h⟩
  have hcs := hs.2.1
  have hcd := hd.2.1
  have hG := Blk.new w (gtC ⟨⟨some ⟨gs, os, none⟩, 1, sc⟩, ⟨some ⟨gd, od, none⟩, 1, dc⟩, 0, ⟨none, 0, 0⟩⟩) 255
  obtain ⟨w1, hw1⟩ : ∃ x, x = w.alloc (.cells (gtC ⟨⟨some ⟨gs, os, none⟩, 1, sc⟩, ⟨some ⟨gd, od, none⟩, 1, dc⟩, 0, ⟨none, 0, 0⟩⟩).toArray 255) := ⟨_, rfl⟩
  have hb1 : Below w.heap.size w w1 := by rw [hw1]; exact (Below.refl _ _).alloc (Nat.le_refl _) _
  replace hG : Blk w1 w.heap.size (gtC ⟨⟨some ⟨gs, os, none⟩, 1, sc⟩, ⟨some ⟨gd, od, none⟩, 1, dc⟩, 0, ⟨none, 0, 0⟩⟩) 255 := by rw [hw1]; exact hG
  have hs1 := hs.below hb1
  have ls : (ldT 244 (.pointer (some ⟨gs, os, none⟩))).run Tryz.prog w1 = .ok (.value (whA wStar)) w1 := by
    have := hs1.ld rowWh (k := 0) (x := wStar) rfl
    simp only [Nat.zero_mul, Nat.add_zero] at this
    exact this
  have c0 := hG.cell (i := 0) (v := .slice (some ⟨gs, os, none⟩) 1 sc) rfl
  have S6 : (stT 244 (.pointer (some ⟨w1.heap.size, 0, none⟩)) (whA wStar)).run Tryz.prog (w1.alloc (.cells #[.int .i64 0, .string ⟨#[]⟩, .bool false, .int .u64 0, .int .u64 0, .int .i64 0] 244)) = .ok .skip (w1.alloc (.cells (whC wStar).toArray 244)) :=
    stT_new rowWh w1 w1.heap.size rfl zWhC (whC wStar) rfl (whC_len _) (whC_one _)
  have hX := Blk.new w1 (whC wStar) 244
  have lX := hX.ld rowWh (whC_len wStar)
  have hbA : Below w1.heap.size w1 (w1.alloc (.cells (whC wStar).toArray 244)) := (Below.refl _ _).alloc (Nat.le_refl _) _
  have hF2 := (hF.below hb1).below hbA
  have HW := Lib.hid (checkWhatStar_any m _ hF2)
  have hz1 := World.size_alloc w1 (.cells (whC wStar).toArray 244)
  replace hz1 := Lib.hid hz1
  replace hG := hG.below hbA
  replace hd := hd.below (hb1.trans (hbA.mono hb1.size))
  replace hb1 := hb1.trans (hbA.mono hb1.size)
  clear hs hs1 hF hbA
  go_enter Tryz.func269, Tryz.ntmps269
  go_upto_region 1 with fail
  rw [← hw1]
  clear hw1
  go_wp2_with fail
  refine wp_loop_rounds 2 ?_
  rw [rounds_succ]
  go_wp2_with fail
  refine HW.out.mono ?_
  rintro e w2 ⟨rfl, hb2⟩
  have k0 := (hX.below hb2).cell (i := 0) (v := .int .i64 1) rfl
  replace hG := hG.below hb2
  replace hd := hd.below hb2
  have hF3 := hF2.below hb2
  replace hb1 := hb1.trans (hb2.mono hb1.size)
  clear HW lX ls S6 c0
  have c1 := hG.cell (i := 1) (v := .slice (some ⟨gd, od, none⟩) 1 dc) rfl
  go_wp2_with fail
  rw [rounds_succ]
  go_wp2_with fail
  have ld : (ldT 252 (.pointer (some ⟨gd, od, none⟩))).run Tryz.prog w2 = .ok (.value (tgA tStar)) w2 := by
    have := hd.ld rowTg (k := 0) (x := tStar) rfl
    simp only [Nat.zero_mul, Nat.add_zero] at this
    exact this
  have S9 : (stT 252 (.pointer (some ⟨w2.heap.size, 0, none⟩)) (tgA tStar)).run Tryz.prog (w2.alloc (.cells #[.int .i64 0, .string ⟨#[]⟩, .bool false, .int .u64 0, .int .u64 0, .int .i64 0, .int .i64 0, .int .i64 0] 252)) = .ok .skip (w2.alloc (.cells (tgC tStar).toArray 252)) :=
    stT_new rowTg w2 w2.heap.size rfl zTgC (tgC tStar) rfl (tgC_len _) (tgC_one _)
  have hT := Blk.new w2 (tgC tStar) 252
  have lT := hT.ldAt rowWh 0 (whC wStar) [.int .i64 0, .int .i64 65535] rfl rfl
  have hbB : Below w2.heap.size w2 (w2.alloc (.cells (tgC tStar).toArray 252)) := (Below.refl _ _).alloc (Nat.le_refl _) _
  have HW2 := Lib.hid (checkWhatStar_any m _ (hF3.below hbB))
  have hb3 := hb1.trans (hbB.mono hb1.size)
  clear hd hG hbB hb1
  refine wp_loop_rounds 2 ?_
  rw [rounds_succ]
  go_wp2_with fail
  refine HW2.out.mono ?_
  rintro e w4 ⟨rfl, hb4⟩
  have hT4 := hT.below hb4
  have p6 := hT4.cell (i := 6) (v := .int .i64 0) rfl
  have p7 := hT4.cell (i := 7) (v := .int .i64 65535) rfl
  replace hb3 := hb3.trans (hb4.mono hb3.size)
  clear HW2 lT S9 ld hb4 hT
  go_wp2_with fail
  refine (isRightAll_any _).mono ?_
  rintro e w5 ⟨rfl, hb5⟩
  replace hb3 := hb3.trans (hb5.mono hb3.size)
  clear hb5 p6 p7 hT4
  go_wp2_with fail
  rw [rounds_succ]
  go_wp2_with fail
  go_ret
  exact ⟨rfl, hb3⟩

theorem neqPt (w : World) : (binOp .neq 250 (.agg #[.int .i64 0, .int .i64 65535]) (.agg #[.int .i64 0, .int .i64 65535])).run Tryz.prog w = .ok (.bool false) w := by kernel_rfl

set_option maxHeartbeats 1000000 in
theorem someOnly1_any (w : World) : Calls Tryz.prog 271 #[tgA tStar] w (GivesV (.bool false) w) := by
  have nq := neqPt
  have hT := Blk.new w (tgC tStar) 252
  have hbw : Below w.heap.size w (w.alloc (.cells (tgC tStar).toArray 252)) := (Below.refl _ _).alloc (Nat.le_refl _) _
  go_enter Tryz.func271, Tryz.ntmps271
  go_upto_region 1 with fail
  refine wx_begin (none) [] (by kernel_rfl) (fun u0 hb0' hz0' => ?_)
  replace hT := hT.below hb0'
  replace hbw := hbw.trans (hb0'.mono hbw.size)
  clear hb0' hz0'
  refine wx_pureZ 0 (some 3) (v := ?_) ?_ ?_; rotate_left; · (intro u; go_simp; try with_reducible rfl)
  try simp only [Act.put, gzD, gzE, gzF]
  refine wx_takeZ 1 (some 4) (v := ?_) ?_ ?_; rotate_left; · (intro u hu; have k6 := (hT.gn hu).cell (i := 6) (v := .int .i64 0) rfl; have k7 := (hT.gn hu).cell (i := 7) (v := .int .i64 65535) rfl; go_simp; try with_reducible rfl)
  try simp only [Act.put, gzD, gzE, gzF]
  refine wx_oneZ 2 (fun K hK => ?_)
  go_simp
  refine (portsAll_any _).mono ?_
  rintro e wq2 ⟨rfl, hv1⟩
  refine hK.out _ _ (gbB hv1) ?_
  replace hT := hT.below hv1
  replace hbw := hbw.trans (hv1.mono hbw.size)
  clear hK K hv1
  try simp only [Act.put, gzD, gzE, gzF]
  refine wx_pureZ 3 (some 6) (v := ?_) ?_ ?_; rotate_left; · (intro u; go_simp; try with_reducible rfl)
  try simp only [Act.put, gzD, gzE, gzF]
  refine wx_pureZ 4 (some 2) (v := ?_) ?_ ?_; rotate_left; · (intro u; go_simp; try with_reducible rfl)
  try simp only [Act.put, gzD, gzE, gzF]
  refine wx_done (by kernel_rfl) ?_ _
  go_wp2_with fail
  go_ret
  exact ⟨rfl, hbw⟩

set_option maxHeartbeats 1000000 in
theorem indexTgStar_any (gd od dc : Nat) (w : World) (hd : SlE eTg w (some ⟨gd, od, none⟩) 1 dc [tStar]) :
    Calls Tryz.prog 352 #[.slice (some ⟨gd, od, none⟩) 1 dc, .func (.func 271) #[] #[]] w (GivesV (.int .i64 (-1)) w) := by
  have hcd := hd.2.1
  have ld : (ldT 252 (.pointer (some ⟨gd, od, none⟩))).run Tryz.prog w = .ok (.value (tgA tStar)) w := by
    have := hd.ld rowTg (k := 0) (x := tStar) rfl
    simp only [Nat.zero_mul, Nat.add_zero] at this
    exact this
  go_enter Tryz.func352, Tryz.ntmps352
  go_wp2_with fail
  refine wp_loop_rounds 2 ?_
  rw [rounds_succ]
  go_wp2_with fail
  refine (someOnly1_any w).mono ?_
  rintro e w1 ⟨rfl, hb⟩
  go_wp2_with fail
  rw [rounds_succ]
  go_wp2_with fail
  go_ret
  exact ⟨rfl, hb⟩

set_option maxHeartbeats 1000000 in
theorem containsTgStar_any (gd od dc : Nat) (w : World) (hd : SlE eTg w (some ⟨gd, od, none⟩) 1 dc [tStar]) :
    Calls Tryz.prog 270 #[.slice (some ⟨gd, od, none⟩) 1 dc, .func (.func 271) #[] #[]] w (GivesV (.bool false) w) := by
  go_enter Tryz.func270, Tryz.ntmps270
  go_wp2_with fail
  refine (indexTgStar_any gd od dc w hd).mono ?_
  rintro e w1 ⟨rfl, hb⟩
  go_wp2_with fail
  go_ret
  exact ⟨rfl, hb⟩

set_option maxHeartbeats 2000000 in
theorem checkGrantStar_any (s d : Sl3) (m : Value) (w : World) (hF : Rd2 w) (hs : SlE eWh w s.A s.n s.c [wStar]) (hd : SlE eTg w d.A d.n d.c [tStar]) :
    Calls Tryz.prog 195 #[.agg (gtC ⟨s, d, 0, ⟨none, 0, 0⟩⟩).toArray, m] w (GivesV (.int .i64 0) w) := by
  obtain ⟨gt, hgt⟩ : ∃ gt : Gt, gt = ⟨s, d, 0, ⟨none, 0, 0⟩⟩ := ⟨_, rfl⟩
  have hG := Blk.new w (gtC gt) 255
  obtain ⟨w1, hw1⟩ : ∃ x, x = w.alloc (.cells (gtC gt).toArray 255) := ⟨_, rfl⟩
  have hb1 : Below w.heap.size w w1 := by rw [hw1]; exact (Below.refl _ _).alloc (Nat.le_refl _) _
  replace hG : Blk w1 w.heap.size (gtC gt) 255 := by rw [hw1]; exact hG
  have HE := Lib.hid (checkEndsStar_any s d m w1 (hF.below hb1) (hs.below hb1) (hd.below hb1))
  rw [← hgt] at HE ⊢
  have lG := hG.ld rowGt (gtC_len gt)
  have e0 : (gtC gt)[0]? = some (.slice s.A s.n s.c) := by rw [hgt]; rfl
  have e1 : (gtC gt)[1]? = some (.slice d.A d.n d.c) := by rw [hgt]; rfl
  have e2 : (gtC gt)[2]? = some (.int .i64 0) := by rw [hgt]; rfl
  have e3 : (gtC gt)[3]? = some (.slice none 0 0) := by rw [hgt]; rfl
  clear hgt
  obtain ⟨sA, sn, sc⟩ := s
  obtain ⟨dA, dn, dc⟩ := d
  simp only at hs hd e0 e1
  have en : sn = 1 := hs.1
  have em : dn = 1 := hd.1
  subst en em
  obtain ⟨gd, od, rfl⟩ : ∃ g o, dA = some ⟨g, o, none⟩ := by
    rcases hd.2.2.2 with h | ⟨g, o, h, _⟩
    · cases h
    · exact ⟨g, o, h⟩
  have c0 := hG.cell e0
  have c1 := hG.cell e1
  have hd1 := hd.below hb1
  clear hs hd hF
  go_enter Tryz.func195, Tryz.ntmps195
  go_upto_region 1 with fail
  rw [← hw1]
  clear hw1
  go_wp2_with fail
  refine HE.out.mono ?_
  rintro e w2 ⟨rfl, hb2⟩
  replace hG := hG.below hb2
  have hd2 := hd1.below hb2
  replace hb1 := hb1.trans (hb2.mono hb1.size)
  clear HE lG c0 c1 hb2 hd1
  have c1 := hG.cell e1
  have c2 := hG.cell e2
  go_wp2_with fail
  refine (containsTgStar_any gd od dc w2 hd2).mono ?_
  rintro e w3 ⟨rfl, hb3⟩
  replace hG := hG.below hb3
  replace hb1 := hb1.trans (hb3.mono hb1.size)
  clear hb3 hd2 c1 c2
  have c3 := hG.cell e3
  go_wp2_with fail
  refine (keysNil_any w3).mono ?_
  rintro e w4 ⟨rfl, hb4⟩
  replace hG := hG.below hb4
  replace hb1 := hb1.trans (hb4.mono hb1.size)
  clear hb4 c3
  have c3 := hG.cell e3
  go_wp2_with fail
  go_ret
  exact ⟨rfl, hb1⟩

abbrev plV (gr : Value) : Value := .agg #[.slice none 0 0, .slice none 0 0, gr, .slice none 0 0]
set_option maxHeartbeats 1000000 in
theorem definedStar_any (gr : Value) (hg1 : gr.oneCell' = true) (w : World) : Calls Tryz.prog 192 #[plV gr] w (fun e w' => (∃ m, e = .returned (.map m)) ∧ Below w.heap.size w w') := by
  have hP := Blk.new w [.slice none 0 0, .slice none 0 0, gr, .slice none 0 0] 67
  have hb1 : Below w.heap.size w (w.alloc (.cells #[.slice none 0 0, .slice none 0 0, gr, .slice none 0 0] 67)) := (Below.refl _ _).alloc (Nat.le_refl _) _
  have hP2 := hP.alloc (.map #[] 0)
  have c0 := hP2.cell (i := 0) (v := .slice none 0 0) rfl
  have c1 := hP2.cell (i := 1) (v := .slice none 0 0) rfl
  have hb2 := hb1.alloc hb1.size (.map #[] 0)
  clear hP hP2
  go_enter Tryz.func192, Tryz.ntmps192
  go_wp2_with fail
  refine wp_loop_rounds 1 ?_
  rw [rounds_succ]
  go_wp2_with fail
  refine wp_loop_rounds 1 ?_
  rw [rounds_succ]
  go_wp2_with fail
  go_ret
  exact ⟨⟨_, rfl⟩, hb2⟩

set_option maxHeartbeats 1000000 in
theorem grants1_any (b : Nat) (m : Option Nat) (s d : Sl3) (w : World) (hF : Rd2 w) (hB : Blk w b [.map m] 277) (hs : SlE eWh w s.A s.n s.c [wStar]) (hd : SlE eTg w d.A d.n d.c [tStar]) :
    Calls Tryz.prog 194 #[.agg (gtC ⟨s, d, 0, ⟨none, 0, 0⟩⟩).toArray, .pointer (some ⟨b, 0, none⟩)] w (GivesV (.int .i64 0) w) := by
  obtain ⟨gt, hgt⟩ : ∃ gt : Gt, gt = ⟨s, d, 0, ⟨none, 0, 0⟩⟩ := ⟨_, rfl⟩
  have hG := Blk.new w (gtC gt) 255
  obtain ⟨w1, hw1⟩ : ∃ x, x = w.alloc (.cells (gtC gt).toArray 255) := ⟨_, rfl⟩
  have hb1 : Below w.heap.size w w1 := by rw [hw1]; exact (Below.refl _ _).alloc (Nat.le_refl _) _
  replace hG : Blk w1 w.heap.size (gtC gt) 255 := by rw [hw1]; exact hG
  have HE := Lib.hid (checkGrantStar_any s d (.map m) w1 (hF.below hb1) (hs.below hb1) (hd.below hb1))
  rw [← hgt] at HE ⊢
  have lG := hG.ld rowGt (gtC_len gt)
  have cb := (hB.below hb1).cell (i := 0) (v := .map m) rfl
  clear hgt hs hd hF hB
  go_enter Tryz.func194, Tryz.ntmps194
  go_upto_region 1 with fail
  rw [← hw1]
  clear hw1
  go_wp2_with fail
  refine HE.out.mono ?_
  rintro e w2 ⟨rfl, hb2⟩
  replace hb1 := hb1.trans (hb2.mono hb1.size)
  go_wp2_with fail
  go_ret
  exact ⟨rfl, hb1⟩

set_option maxHeartbeats 1000000 in
theorem eachGrant_any (b : Nat) (m : Option Nat) (g c : Nat) (s d : Sl3) (w : World) (hF : Rd2 w) (hB : Blk w b [.map m] 277) (hO : SlE eGt w (some ⟨g, 0, none⟩) 1 c [⟨s, d, 0, ⟨none, 0, 0⟩⟩]) (hs : SlE eWh w s.A s.n s.c [wStar]) (hd : SlE eTg w d.A d.n d.c [tStar]) :
    Calls Tryz.prog 193 #[.slice (some ⟨g, 0, none⟩) 1 c, .int .i64 100, .func (.func 194) #[] #[.pointer (some ⟨b, 0, none⟩)]] w (GivesV (.int .i64 0) w) := by
  obtain ⟨gt, hgt⟩ : ∃ gt : Gt, gt = ⟨s, d, 0, ⟨none, 0, 0⟩⟩ := ⟨_, rfl⟩
  have lg : (ldT 255 (.pointer (some ⟨g, 0, none⟩))).run Tryz.prog w = .ok (.value (.agg (gtC gt).toArray)) w := by
    have := hO.ld rowGt (k := 0) (x := gt) (by rw [hgt]; rfl)
    simp only [Nat.zero_mul, Nat.add_zero] at this
    exact this
  have S5 : (stT 255 (.pointer (some ⟨w.heap.size, 0, none⟩)) (.agg (gtC gt).toArray)).run Tryz.prog (w.alloc (.cells #[.slice none 0 0, .slice none 0 0, .int .i64 0, .slice none 0 0] 255)) = .ok .skip (w.alloc (.cells (gtC gt).toArray 255)) :=
    stT_new rowGt w w.heap.size rfl zGtC (gtC gt) rfl (gtC_len _) (gtC_one _)
  have hX := Blk.new w (gtC gt) 255
  have lX := hX.ld rowGt (gtC_len gt)
  have hb1 : Below w.heap.size w (w.alloc (.cells (gtC gt).toArray 255)) := (Below.refl _ _).alloc (Nat.le_refl _) _
  have HE := Lib.hid (grants1_any b m s d _ (hF.below hb1) (hB.below hb1) (hs.below hb1) (hd.below hb1))
  rw [← hgt] at HE
  have hcc := hO.2.1
  clear hgt hs hd hF hB hO hX
  go_enter Tryz.func193, Tryz.ntmps193
  go_wp2_with fail
  refine wp_loop_rounds 2 ?_
  rw [rounds_succ]
  go_wp2_with fail
  refine HE.out.mono ?_
  rintro e w2 ⟨rfl, hb2⟩
  replace hb1 := hb1.trans (hb2.mono hb1.size)
  clear HE lg S5 lX hb2
  go_wp2_with fail
  rw [rounds_succ]
  go_wp2_with fail
  go_ret
  exact ⟨rfl, hb1⟩

set_option maxHeartbeats 1000000 in
theorem checkGrantsStar_any (g c : Nat) (s d : Sl3) (w : World) (hF : Rd2 w) (hO : SlE eGt w (some ⟨g, 0, none⟩) 1 c [⟨s, d, 0, ⟨none, 0, 0⟩⟩]) (hs : SlE eWh w s.A s.n s.c [wStar]) (hd : SlE eTg w d.A d.n d.c [tStar]) :
    Calls Tryz.prog 109 #[plV (.slice (some ⟨g, 0, none⟩) 1 c)] w (GivesV (.int .i64 0) w) := by
  have hP := Blk.new w [.slice none 0 0, .slice none 0 0, .slice (some ⟨g, 0, none⟩) 1 c, .slice none 0 0] 67
  obtain ⟨w1, hw1⟩ : ∃ x, x = w.alloc (.cells #[.slice none 0 0, .slice none 0 0, .slice (some ⟨g, 0, none⟩) 1 c, .slice none 0 0] 67) := ⟨_, rfl⟩
  have hb1 : Below w.heap.size w w1 := by rw [hw1]; exact (Below.refl _ _).alloc (Nat.le_refl _) _
  replace hP : Blk w1 w.heap.size [.slice none 0 0, .slice none 0 0, .slice (some ⟨g, 0, none⟩) 1 c, .slice none 0 0] 67 := by rw [hw1]; exact hP
  have c0 := hP.cell (i := 0) (v := .slice none 0 0) rfl
  have c1 := hP.cell (i := 1) (v := .slice none 0 0) rfl
  have c2 := hP.cell (i := 2) (v := .slice (some ⟨g, 0, none⟩) 1 c) rfl
  have c3 := hP.cell (i := 3) (v := .slice none 0 0) rfl
  have HD := Lib.hid (definedStar_any (.slice (some ⟨g, 0, none⟩) 1 c) rfl w1)
  go_enter Tryz.func109, Tryz.ntmps109
  go_upto_region 1 with fail
  rw [← hw1]
  clear hw1
  go_wp2_with fail
  refine HD.out.mono ?_
  rintro e w2 ⟨⟨m, rfl⟩, hb2⟩
  have hbA : Below w2.heap.size w2 (w2.alloc (.cells #[.map m] 277)) := (Below.refl _ _).alloc (Nat.le_refl _) _
  have hB := Blk.new w2 [.map m] 277
  have hbT := (hb1.trans (hb2.mono hb1.size)).trans (hbA.mono (hb1.trans (hb2.mono hb1.size)).size)
  have hP3 := (hP.below hb2).below hbA
  have HE := Lib.hid (eachGrant_any w2.heap.size m g c s d _ (hF.below hbT) hB (hO.below hbT) (hs.below hbT) (hd.below hbT))
  clear HD c0 c1 c2 c3 hP hb1 hb2 hbA hB hF hO hs hd
  have c2 := hP3.cell (i := 2) (v := .slice (some ⟨g, 0, none⟩) 1 c) rfl
  clear hP3
  go_wp2_with fail
  refine HE.out.mono ?_
  rintro e w3 ⟨rfl, hb3⟩
  replace hbT := hbT.trans (hb3.mono hbT.size)
  clear HE hb3 c2
  go_wp2_with fail
  go_ret
  exact ⟨rfl, hbT⟩

set_option maxHeartbeats 1000000 in
theorem checkPolicyStar_any (g c : Nat) (s d : Sl3) (w : World) (hF : Rd2 w) (hO : SlE eGt w (some ⟨g, 0, none⟩) 1 c [⟨s, d, 0, ⟨none, 0, 0⟩⟩]) (hs : SlE eWh w s.A s.n s.c [wStar]) (hd : SlE eTg w d.A d.n d.c [tStar]) :
    Calls Tryz.prog 62 #[plV (.slice (some ⟨g, 0, none⟩) 1 c)] w (GivesV (.int .i64 0) w) := by
  have hP := Blk.new w [.slice none 0 0, .slice none 0 0, .slice (some ⟨g, 0, none⟩) 1 c, .slice none 0 0] 67
  obtain ⟨w1, hw1⟩ : ∃ x, x = w.alloc (.cells #[.slice none 0 0, .slice none 0 0, .slice (some ⟨g, 0, none⟩) 1 c, .slice none 0 0] 67) := ⟨_, rfl⟩
  have hb1 : Below w.heap.size w w1 := by rw [hw1]; exact (Below.refl _ _).alloc (Nat.le_refl _) _
  replace hP : Blk w1 w.heap.size [.slice none 0 0, .slice none 0 0, .slice (some ⟨g, 0, none⟩) 1 c, .slice none 0 0] 67 := by rw [hw1]; exact hP
  have HG := Lib.hid (fun W (hW : Below w.heap.size w W) => checkGrantsStar_any g c s d W (hF.below hW) (hO.below hW) (hs.below hW) (hd.below hW))
  clear hF hO hs hd
  have c0 := hP.cell (i := 0) (v := .slice none 0 0) rfl
  go_enter Tryz.func62, Tryz.ntmps62
  go_upto_region 1 with fail
  rw [← hw1]
  clear hw1
  go_wp2_with fail
  refine (checkGroupsNil_any w1).mono ?_
  rintro e w2 ⟨rfl, hb2⟩
  replace hP := hP.below hb2
  replace hb1 := hb1.trans (hb2.mono hb1.size)
  clear hb2 c0
  have c1 := hP.cell (i := 1) (v := .slice none 0 0) rfl
  go_wp2_with fail
  refine (checkHostsNil_any w2).mono ?_
  rintro e w3 ⟨rfl, hb2⟩
  replace hP := hP.below hb2
  replace hb1 := hb1.trans (hb2.mono hb1.size)
  clear hb2 c1
  have c0 := hP.cell (i := 0) (v := .slice none 0 0) rfl
  have c1 := hP.cell (i := 1) (v := .slice none 0 0) rfl
  have c2 := hP.cell (i := 2) (v := .slice (some ⟨g, 0, none⟩) 1 c) rfl
  have c3 := hP.cell (i := 3) (v := .slice none 0 0) rfl
  have HG2 := Lib.hid (HG.out w3 hb1)
  clear HG
  go_wp2_with fail
  refine HG2.out.mono ?_
  rintro e w4 ⟨rfl, hb2⟩
  replace hP := hP.below hb2
  replace hb1 := hb1.trans (hb2.mono hb1.size)
  clear hb2 c0 c1 c2 c3 HG2
  have c3 := hP.cell (i := 3) (v := .slice none 0 0) rfl
  go_wp2_with fail
  refine (checkTestsNil_any w4).mono ?_
  rintro e w5 ⟨rfl, hb2⟩
  replace hb1 := hb1.trans (hb2.mono hb1.size)
  clear hb2 c3 hP
  go_wp2_with fail
  go_ret
  exact ⟨rfl, hb1⟩

set_option maxHeartbeats 2000000 in
theorem ruleRead_any (w : World) (hF : Rd2 w) : Calls Tryz.prog 31 #[.string textB] w fun e w' => (∃ g c, e = .returned (.tuple #[plV (.slice (some ⟨g, 0, none⟩) 1 c), .int .i64 0, .int .i64 0])) ∧ Below w.heap.size w w' := by
  have hl := hF.lt
  have hP := (Blk.new w [.slice none 0 0, .slice none 0 0, .slice none 0 0, .slice none 0 0] 67).alloc (.cells (rdC (.slice none 0 0) 0).toArray 110)
  have hR := Blk.new (w.alloc (.cells #[.slice none 0 0, .slice none 0 0, .slice none 0 0, .slice none 0 0] 67)) (rdC (.slice none 0 0) 0) 110
  rw [World.size_alloc] at hR
  obtain ⟨w1, hw1⟩ : ∃ x, x = (w.alloc (.cells #[.slice none 0 0, .slice none 0 0, .slice none 0 0, .slice none 0 0] 67)).alloc (.cells #[.slice none 0 0, .slice none 0 0, .slice none 0 0, .slice none 0 0, .int .i64 0] 110) := ⟨_, rfl⟩
  have hb1 : Below w.heap.size w w1 := by rw [hw1]; exact ((Below.refl _ _).alloc (Nat.le_refl _) _).alloc (by simp) _
  replace hP : Blk w1 w.heap.size [.slice none 0 0, .slice none 0 0, .slice none 0 0, .slice none 0 0] 67 := by rw [hw1]; exact hP
  replace hR : Blk w1 (w.heap.size + 1) (rdC (.slice none 0 0) 0) 110 := by rw [hw1]; exact hR
  have HL := Lib.hid (readLinesStar_any (w.heap.size + 1) w1 (hF.below hb1) hR (by omega))
  have hF1 := hF.below hb1
  go_enter Tryz.func31, Tryz.ntmps31
  go_upto_region 2 with fail
  rw [← hw1]
  clear hw1 hR
  go_wp2_with fail
  refine HL.out.mono ?_
  rintro e w2 ⟨rfl, g, c, s, d, hR2, hO2, h1, h2, hg2⟩
  have hP2 : Blk w2 w.heap.size [.slice none 0 0, .slice none 0 0, .slice none 0 0, .slice none 0 0] 67 := (hg2.block _ hP.lt (by intro e; have h : w.heap.size = w.heap.size + 1 := Option.some.inj e; omega)).trans hP
  have hbT : Below w.heap.size w w2 := hb1.grown hg2 hb1.size (fun k h => by have := Option.some.inj h; omega)
  have hF2 := hF.below hbT
  have hOs : SlE eGt w2 (some ⟨g, 0, none⟩) 1 c [⟨s, d, 0, ⟨none, 0, 0⟩⟩] := by
    obtain ⟨A', c', hv, hS⟩ := hO2.sl
    injection hv with e1 e2 e3
    subst e1 e3
    exact hS
  have HP := Lib.hid (checkPolicyStar_any g c s d w2 hF2 hOs h1 h2)
  have r0 := hR2.cell (i := 0) (v := .slice none 0 0) rfl
  have r1 := hR2.cell (i := 1) (v := .slice none 0 0) rfl
  have r2 := hR2.cell (i := 2) (v := .slice (some ⟨g, 0, none⟩) 1 c) rfl
  have r3 := hR2.cell (i := 3) (v := .slice none 0 0) rfl
  clear HL hO2 h1 h2 hOs hg2 hb1 hP hF1 hF hF2
  go_wp2_with fail
  refine HP.out.mono ?_
  rintro e w3 ⟨rfl, hb3⟩
  replace hR2 := hR2.below hb3
  replace hP2 := hP2.below hb3
  replace hbT := hbT.trans (hb3.mono hbT.size)
  clear HP r0 r1 r2 r3 hb3
  have r0 := hR2.cell (i := 0) (v := .slice none 0 0) rfl
  have r1 := hR2.cell (i := 1) (v := .slice none 0 0) rfl
  have r2 := hR2.cell (i := 2) (v := .slice (some ⟨g, 0, none⟩) 1 c) rfl
  have r3 := hR2.cell (i := 3) (v := .slice none 0 0) rfl
  have p0 := hP2.cell (i := 0) (v := .slice none 0 0) rfl
  have p1 := hP2.cell (i := 1) (v := .slice none 0 0) rfl
  have p2 := hP2.cell (i := 2) (v := .slice none 0 0) rfl
  have p3 := hP2.cell (i := 3) (v := .slice none 0 0) rfl
  have f0 := hP2.free 0
  have f1 := hP2.free 1
  have f2 := hP2.free 2
  have f3 := hP2.free 3
  have hPF := (((hP2.set 0 (.slice none 0 0)).set 1 (.slice none 0 0)).set 2 (.slice (some ⟨g, 0, none⟩) 1 c)).set 3 (.slice none 0 0)
  have u0 := hPF.cell (i := 0) (v := .slice none 0 0) rfl
  have u1 := hPF.cell (i := 1) (v := .slice none 0 0) rfl
  have u2 := hPF.cell (i := 2) (v := .slice (some ⟨g, 0, none⟩) 1 c) rfl
  have u3 := hPF.cell (i := 3) (v := .slice none 0 0) rfl
  have hbF := (((hbT.setCell (p := ⟨w.heap.size, 0, none⟩) (Nat.le_refl _) (.slice none 0 0)).setCell (p := ⟨w.heap.size, 1, none⟩) (Nat.le_refl _) (.slice none 0 0)).setCell (p := ⟨w.heap.size, 2, none⟩) (Nat.le_refl _) (.slice (some ⟨g, 0, none⟩) 1 c)).setCell (p := ⟨w.heap.size, 3, none⟩) (Nat.le_refl _) (.slice none 0 0)
  clear hPF hR2 hP2 hbT
  go_wp2_with fail
  refine bodyPost_ret (v := .tuple #[plV (.slice (some ⟨g, 0, none⟩) 1 c), .int .i64 0, .int .i64 0]) ?_ rfl ⟨⟨g, c, rfl⟩, hbF⟩
  simp [results, Tryz.results31, go_sem, u0, u1, u2, u3]
end Go.Proofs.YtmgdkefoehlamaaGreatDoor
