/- Packets: PacketFault. -/
import Derived.Test.YtigbbpgfblnboaaPkH
namespace Go.Proofs.Ytigbbpgfblnboaa
open Go.RowKit
set_option linter.unusedVariables false
set_option linter.unusedSimpArgs false

theorem Blk.six {w : World} {p : Nat} {x0 x1 x2 x3 x4 x5 : Value} {t : TypeId} (h : Blk w p [x0, x1, x2, x3, x4, x5] t) :
    w.cell? ⟨p, 0, none⟩ = some x0 ∧ w.cell? ⟨p, 1, none⟩ = some x1 ∧ w.cell? ⟨p, 2, none⟩ = some x2 ∧ w.cell? ⟨p, 3, none⟩ = some x3 ∧ w.cell? ⟨p, 4, none⟩ = some x4 ∧ w.cell? ⟨p, 5, none⟩ = some x5 :=
  ⟨h.cell (i := 0) rfl, h.cell (i := 1) rfl, h.cell (i := 2) rfl, h.cell (i := 3) rfl, h.cell (i := 4) rfl, h.cell (i := 5) rfl⟩
theorem inB_seq (seq : Int) : inB seq 0 65535 = (inB seq 0 4294967295 && !decide (65535 < seq)) := by
  unfold inB
  by_cases h : 65535 < seq
  · rw [decide_eq_true h, decide_eq_false (by omega)]; simp
  · rw [decide_eq_false h, Bool.not_false, Bool.and_true]; exact decide_eq_decide.2 (by omega)

set_option maxHeartbeats 4000000 in
set_option maxRecDepth 100000 in
theorem packetFault_any (q : Pk) (A : Option Addr) (n cap : Nat) (w : World) (h1 : 0 ≤ q.fh) (h2 : 0 ≤ q.th) :
    Calls Try.prog 21 #[pkV q (.slice A n cap)] w (GivesV (.int .i64 (pkF q n)) w) := by
  have hP := Blk.new w (pkL q (.slice A n cap)) 45
  have hw : Below w.heap.size w (w.alloc (.cells #[.bool q.fs, .int .u64 q.fh, .int .u64 q.fl, .bool q.ts, .int .u64 q.th, .int .u64 q.tl, .int .i64 q.hops, .int .i64 q.proto, .int .i64 q.fp, .int .i64 q.tp, .bool q.syn, .bool q.fin, .bool q.rst, .bool q.has, .int .i64 q.seq, .int .i64 q.ack, .bool q.reply, .int .i64 q.id, .slice A n cap] 45)) := (Below.refl _ _).alloc (Nat.le_refl _) _
  have HX := Lib.hid (pkF_first q n)
  have HC1 := Lib.hid (fun w' => addrFault_any q.fs q.fh q.fl w' h1)
  have HC2 := Lib.hid (fun w' => addrFault_any q.ts q.th q.tl w' h2)
  have HH := Lib.hid (fun w' => in_any q.hops 0 255 w')
  have HI1 := Lib.hid (fun w' => in_any q.fp 0 65535 w')
  have HI2 := Lib.hid (fun w' => in_any q.tp 0 65535 w')
  have HI3 := Lib.hid (fun w' => in_any q.seq 0 4294967295 w')
  have HI4 := Lib.hid (fun w' => in_any q.ack 0 4294967295 w')
  have HI5 := Lib.hid (fun w' => in_any q.id 0 65535 w')
  generalize pkF q n = N at HX ⊢
  generalize adF q.fs q.fh q.fl = x at HC1 HX
  generalize adF q.ts q.th q.tl = y at HC2 HX
  obtain ⟨fs, fh, fl, ts, th, tl, hops, proto, fp, tp, syn, fin, rst, has, seq, ack, reply, id⟩ := q
  dsimp only at *
  clear h1 h2
  obtain ⟨c0, c1, c2, c3, c4, c5, c6, c7, c8, c9, c10, c11, c12, c13, c14, c15, c16, c17, c18⟩ := hP.pk
  have hS := Blk.new (w.alloc (.cells (pkL ⟨fs, fh, fl, ts, th, tl, hops, proto, fp, tp, syn, fin, rst, has, seq, ack, reply, id⟩ (.slice A n cap)).toArray 45)) [.bool fs, .int .u64 fh, .int .u64 fl, .bool ts, .int .u64 th, .int .u64 tl] 42
  have hP2 := hP.alloc (.cells #[.bool fs, .int .u64 fh, .int .u64 fl, .bool ts, .int .u64 th, .int .u64 tl] 42)
  have hb2 := hw.alloc hw.size (.cells #[.bool fs, .int .u64 fh, .int .u64 fl, .bool ts, .int .u64 th, .int .u64 tl] 42)
  clear hw hP
  by_cases hx : x = 0
  case neg =>
    have b0 : (x != 0) = true := by simpa using hx
    have HY := Lib.hid (show N = x by rw [HX.out, if_pos] <;> simp [firstZ, hx])
    clear HX hx
    go_enter Try.func21, Try.ntmps21
    go_wp2_with fail
    refine wp_loop_rounds 3 ?_
    rw [rounds_succ]
    go_wp2_with fail
    refine (HC1.out _).mono ?_
    rintro e w1 ⟨rfl, hb1⟩
    go_wp2_with fail
    go_ret
    exact ⟨by rw [HY.out]; rfl, (hb2.alloc hb2.size _).trans (hb1.mono (by simp; omega))⟩
  subst hx
  have hfz : firstZ [0, y] = y := by simp [firstZ]; intro h; exact h.symm
  rw [hfz] at HX
  clear hfz
  go_enter Try.func21, Try.ntmps21
  go_wp2_with fail
  refine wp_loop_rounds 3 ?_
  rw [rounds_succ]
  go_wp2_with fail
  refine (HC1.out _).mono ?_
  rintro e w1 ⟨rfl, hb1⟩
  have hb3 := (hb2.alloc hb2.size (.cells #[.bool fs, .int .u64 fh, .int .u64 fl] 42)).trans (hb1.mono (by simp; omega))
  have hP3 := (hP2.alloc (.cells #[.bool fs, .int .u64 fh, .int .u64 fl] 42)).below hb1
  have hS3 := (hS.alloc (.cells #[.bool fs, .int .u64 fh, .int .u64 fl] 42)).below hb1
  clear hb1 hb2 hP2 hS c0 c1 c2 c3 c4 c5 c6 c7 c8 c9 c10 c11 c12 c13 c14 c15 c16 c17 c18
  simp at hS3
  obtain ⟨d0, d1, d2, d3, d4, d5⟩ := hS3.six
  go_wp2_with fail
  rw [rounds_succ]
  go_wp2_with fail
  refine (HC2.out _).mono ?_
  rintro e w2 ⟨rfl, hb4⟩
  have hw := (hb3.alloc hb3.size (.cells #[.bool ts, .int .u64 th, .int .u64 tl] 42)).trans (hb4.mono (by simp; have := hb3.size; omega))
  have hP := (hP3.alloc (.cells #[.bool ts, .int .u64 th, .int .u64 tl] 42)).below hb4
  clear hb4 hb3 hP3 hS3 d0 d1 d2 d3 d4 d5 HC1 HC2
  by_cases hy : y = 0
  case neg =>
    have b0 : (y != 0) = true := by simpa using hy
    replace HX := Lib.hid (HX.out.trans (if_pos hy))
    clear hy
    go_wp2_with fail
    go_ret
    exact ⟨by rw [HX.out]; rfl, hw⟩
  replace HX := Lib.hid (HX.out.trans (if_neg (not_not_intro hy)))
  subst hy
  go_wp2_with fail
  rw [rounds_succ]
  go_wp2_with fail
  refine wb_begin ([w.heap.size]) [] (by kernel_rfl) (fun u0 hb0' hz0' => ?_)
  replace hP := hP.below hb0'
  replace hw := hw.trans (hb0'.mono hw.size)
  clear hb0' hz0'
  refine wb_pure (i := 0) (d := some 25) (v := ?_) (by simp only [List.getElem?_toArray, List.getElem?_cons_succ, List.getElem?_cons_zero] <;> rfl) (by rfl) (by kernel_rfl) (by kernel_rfl) (by kernel_rfl) (fun _ _ _ h => h) (by rfl) ?_ ?_
  rotate_left
  · ((intro u); go_simp; try with_reducible rfl)
  try simp only [Act.put, List.setIfInBounds_toArray, List.set_cons_zero, List.set_cons_succ]
  refine wb_take (i := 1) (d := some 26) (v := ?_) (by simp only [List.getElem?_toArray, List.getElem?_cons_succ, List.getElem?_cons_zero] <;> rfl) (by rfl) (by kernel_rfl) (by kernel_rfl) (by kernel_rfl) (fun _ _ _ h => h) (by rfl) (by kernel_rfl) ?_ ?_
  rotate_left
  · ((intro u hu); have k7 := (hP.kb hu (by simp)).cell (i := 7) (v := .int .i64 proto) rfl; go_simp; try with_reducible rfl)
  try simp only [Act.put, List.setIfInBounds_toArray, List.set_cons_zero, List.set_cons_succ]
  refine wb_pure (i := 2) (d := some 27) (v := ?_) (by simp only [List.getElem?_toArray, List.getElem?_cons_succ, List.getElem?_cons_zero] <;> rfl) (by rfl) (by kernel_rfl) (by kernel_rfl) (by kernel_rfl) (fun _ _ _ h => h) (by rfl) ?_ ?_
  rotate_left
  · ((intro u); go_simp; try with_reducible rfl)
  try simp only [Act.put, List.setIfInBounds_toArray, List.set_cons_zero, List.set_cons_succ]
  refine wb_pure (i := 3) (d := some 28) (v := ?_) (by simp only [List.getElem?_toArray, List.getElem?_cons_succ, List.getElem?_cons_zero] <;> rfl) (by rfl) (by kernel_rfl) (by kernel_rfl) (by kernel_rfl) (fun _ _ _ h => h) (by rfl) ?_ ?_
  rotate_left
  · ((intro u); go_simp; try with_reducible rfl)
  try simp only [Act.put, List.setIfInBounds_toArray, List.set_cons_zero, List.set_cons_succ]
  refine wb_take (i := 4) (d := some 29) (v := ?_) (by simp only [List.getElem?_toArray, List.getElem?_cons_succ, List.getElem?_cons_zero] <;> rfl) (by rfl) (by kernel_rfl) (by kernel_rfl) (by kernel_rfl) (fun _ _ _ h => h) (by rfl) (by kernel_rfl) ?_ ?_
  rotate_left
  · ((intro u hu); have k7 := (hP.kb hu (by simp)).cell (i := 7) (v := .int .i64 proto) rfl; go_simp; try with_reducible rfl)
  try simp only [Act.put, List.setIfInBounds_toArray, List.set_cons_zero, List.set_cons_succ]
  refine wb_pure (i := 5) (d := some 30) (v := ?_) (by simp only [List.getElem?_toArray, List.getElem?_cons_succ, List.getElem?_cons_zero] <;> rfl) (by rfl) (by kernel_rfl) (by kernel_rfl) (by kernel_rfl) (fun _ _ _ h => h) (by rfl) ?_ ?_
  rotate_left
  · ((intro u); go_simp; try with_reducible rfl)
  try simp only [Act.put, List.setIfInBounds_toArray, List.set_cons_zero, List.set_cons_succ]
  refine wb_pure (i := 6) (d := some 31) (v := ?_) (by simp only [List.getElem?_toArray, List.getElem?_cons_succ, List.getElem?_cons_zero] <;> rfl) (by rfl) (by kernel_rfl) (by kernel_rfl) (by kernel_rfl) (fun _ _ _ h => h) (by rfl) ?_ ?_
  rotate_left
  · ((intro u); go_simp; try with_reducible rfl)
  try simp only [Act.put, List.setIfInBounds_toArray, List.set_cons_zero, List.set_cons_succ]
  refine wb_take (i := 7) (d := some 32) (v := ?_) (by simp only [List.getElem?_toArray, List.getElem?_cons_succ, List.getElem?_cons_zero] <;> rfl) (by rfl) (by kernel_rfl) (by kernel_rfl) (by kernel_rfl) (fun _ _ _ h => h) (by rfl) (by kernel_rfl) ?_ ?_
  rotate_left
  · ((intro u hu); have k7 := (hP.kb hu (by simp)).cell (i := 7) (v := .int .i64 proto) rfl; go_simp; try with_reducible rfl)
  try simp only [Act.put, List.setIfInBounds_toArray, List.set_cons_zero, List.set_cons_succ]
  refine wb_pure (i := 8) (d := some 33) (v := ?_) (by simp only [List.getElem?_toArray, List.getElem?_cons_succ, List.getElem?_cons_zero] <;> rfl) (by rfl) (by kernel_rfl) (by kernel_rfl) (by kernel_rfl) (fun _ _ _ h => h) (by rfl) ?_ ?_
  rotate_left
  · ((intro u); go_simp; try with_reducible rfl)
  try simp only [Act.put, List.setIfInBounds_toArray, List.set_cons_zero, List.set_cons_succ]
  refine wb_pure (i := 9) (d := some 6) (v := ?_) (by simp only [List.getElem?_toArray, List.getElem?_cons_succ, List.getElem?_cons_zero] <;> rfl) (by rfl) (by kernel_rfl) (by kernel_rfl) (by kernel_rfl) (fun _ _ _ h => h) (by rfl) ?_ ?_
  rotate_left
  · ((intro u); go_simp; try with_reducible rfl)
  try simp only [Act.put, List.setIfInBounds_toArray, List.set_cons_zero, List.set_cons_succ]
  refine wb_pure (i := 10) (d := some 7) (v := ?_) (by simp only [List.getElem?_toArray, List.getElem?_cons_succ, List.getElem?_cons_zero] <;> rfl) (by rfl) (by kernel_rfl) (by kernel_rfl) (by kernel_rfl) (fun _ _ _ h => h) (by rfl) ?_ ?_
  rotate_left
  · ((intro u); go_simp; try with_reducible rfl)
  try simp only [Act.put, List.setIfInBounds_toArray, List.set_cons_zero, List.set_cons_succ]
  refine wb_pure (i := 11) (d := some 8) (v := ?_) (by simp only [List.getElem?_toArray, List.getElem?_cons_succ, List.getElem?_cons_zero] <;> rfl) (by rfl) (by kernel_rfl) (by kernel_rfl) (by kernel_rfl) (fun _ _ _ h => h) (by rfl) ?_ ?_
  rotate_left
  · ((intro u); go_simp; try with_reducible rfl)
  try simp only [Act.put, List.setIfInBounds_toArray, List.set_cons_zero, List.set_cons_succ]
  refine wb_done (by kernel_rfl) ?_ _
  skip
  obtain ⟨c0, c1, c2, c3, c4, c5, c6, c7, c8, c9, c10, c11, c12, c13, c14, c15, c16, c17, c18⟩ := hP.pk
  replace hw := Lib.hid hw
  clear hP
  by_cases h1 : fs = ts
  case neg =>
    have e1 : (fs == ts) = false := by simp [h1]
    replace HX := Lib.hid (HX.out.trans (if_pos h1))
    replace h1 := Lib.hid h1
    go_wp2_with fail
    go_ret
    exact ⟨by rw [HX.out]; rfl, hw.out⟩
  have e1 : (fs == ts) = true := by simp [h1]
  replace HX := Lib.hid (HX.out.trans (if_neg (not_not_intro h1)))
  replace h1 := Lib.hid h1
  generalize inB hops 0 255 = bh at HX HH
  go_wp2_with fail
  refine (HH.out _).mono ?_
  rintro e w4 ⟨rfl, rfl⟩
  cases bh
  · replace HX := Lib.hid (HX.out.trans (if_pos rfl))
    go_wp2_with fail
    go_ret
    exact ⟨by rw [HX.out]; rfl, hw.out⟩
  replace HX := Lib.hid (HX.out.trans (if_neg (by simp)))
  by_cases h3 : proto = 1 ∨ proto = 6 ∨ proto = 17
  case neg =>
    have p1 : (proto == 1) = false := by simp; omega
    have p6 : (proto == 6) = false := by simp; omega
    have p17 : (proto == 17) = false := by simp; omega
    replace HX := Lib.hid (HX.out.trans (if_pos h3))
    replace h3 := Lib.hid h3
    go_wp2_with fail
    go_ret
    exact ⟨by rw [HX.out]; rfl, hw.out⟩
  replace HX := Lib.hid (HX.out.trans (if_neg (not_not_intro h3)))
  have HNN := Lib.hid (show numB ⟨fs, fh, fl, ts, th, tl, hops, proto, fp, tp, syn, fin, rst, has, seq, ack, reply, id⟩ = (inB fp 0 65535 && (inB tp 0 65535 && (inB seq 0 (if proto = 1 then 65535 else 4294967295) && (inB ack 0 4294967295 && inB id 0 65535)))) from rfl)
  rcases h3 with rfl | rfl | rfl
  · have HN := HNN.out
    rw [if_pos rfl, inB_seq seq] at HN
    clear HNN
    generalize inB fp 0 65535 = b1 at HN HI1
    generalize inB tp 0 65535 = b2 at HN HI2
    generalize inB seq 0 4294967295 = b3 at HN HI3
    generalize inB ack 0 4294967295 = b4 at HN HI4
    generalize inB id 0 65535 = b5 at HN HI5
    replace HN := Lib.hid HN
    as_aux_lemma =>
      go_wp2_with fail
      refine (HI1.out _).mono ?_
      rintro e w5 ⟨rfl, rfl⟩
      cases b1
      · replace HX := Lib.hid (HX.out.trans (if_pos (by rw [HN.out]; simp)))
        go_wp2_with fail
        go_ret
        exact ⟨by rw [HX.out]; rfl, hw.out⟩
      · skip
        go_wp2_with fail
        refine (HI2.out _).mono ?_
        rintro e w6 ⟨rfl, rfl⟩
        cases b2
        · replace HX := Lib.hid (HX.out.trans (if_pos (by rw [HN.out]; simp)))
          go_wp2_with fail
          go_ret
          exact ⟨by rw [HX.out]; rfl, hw.out⟩
        · skip
          go_wp2_with fail
          refine (HI3.out _).mono ?_
          rintro e w7 ⟨rfl, rfl⟩
          cases b3
          · replace HX := Lib.hid (HX.out.trans (if_pos (by rw [HN.out]; simp)))
            go_wp2_with fail
            go_ret
            exact ⟨by rw [HX.out]; rfl, hw.out⟩
          · skip
            go_wp2_with fail
            refine (HI4.out _).mono ?_
            rintro e w8 ⟨rfl, rfl⟩
            cases b4
            · replace HX := Lib.hid (HX.out.trans (if_pos (by rw [HN.out]; simp)))
              go_wp2_with fail
              go_ret
              exact ⟨by rw [HX.out]; rfl, hw.out⟩
            · skip
              go_wp2_with fail
              refine (HI5.out _).mono ?_
              rintro e w9 ⟨rfl, rfl⟩
              cases b5
              · replace HX := Lib.hid (HX.out.trans (if_pos (by rw [HN.out]; simp)))
                go_wp2_with fail
                go_ret
                exact ⟨by rw [HX.out]; rfl, hw.out⟩
              · skip
                by_cases hq : 65535 < seq
                · replace HX := Lib.hid (HX.out.trans (if_pos (by rw [HN.out]; simp [hq])))
                  go_wp2_with fail
                  go_ret
                  exact ⟨by rw [HX.out]; rfl, hw.out⟩
                · replace HX := Lib.hid (HX.out.trans (if_neg (by rw [HN.out]; simp [hq])))
                  clear HN
                  by_cases g_fp : fp = 0
                  · have e_fp : (fp != 0) = false := by simp [g_fp]
                    by_cases g_tp : tp = 0
                    · have e_tp : (tp != 0) = false := by simp [g_tp]
                      cases syn
                      · skip
                        cases fin
                        · skip
                          cases rst
                          · skip
                            cases has
                            · skip
                              by_cases g_ack : ack = 0
                              · have e_ack : (ack != 0) = false := by simp [g_ack]
                                have hf : ¬ fldB (Pk.mk fs fh fl ts th tl hops 1 fp tp false false false false seq ack reply id) = false := by simp [fldB, hpB, htB, hiB, g_fp, g_tp, g_ack]
                                replace HX := Lib.hid (HX.out.trans (if_neg hf))
                                clear hf
                                by_cases h9 : 1400 < n
                                · replace HX := Lib.hid (HX.out.trans (if_pos h9))
                                  go_wp2_with fail
                                  go_ret
                                  exact ⟨by rw [HX.out]; rfl, hw.out⟩
                                · replace HX := Lib.hid (HX.out.trans (if_neg h9))
                                  go_wp2_with fail
                                  go_ret
                                  exact ⟨by rw [HX.out]; rfl, hw.out⟩
                              · have e_ack : (ack != 0) = true := by simp [g_ack]
                                have hf : fldB (Pk.mk fs fh fl ts th tl hops 1 fp tp false false false false seq ack reply id) = false := by simp [fldB, hpB, htB, hiB, g_fp, g_tp, g_ack]
                                replace HX := Lib.hid (HX.out.trans (if_pos hf))
                                clear hf
                                go_wp2_with fail
                                go_ret
                                exact ⟨by rw [HX.out]; rfl, hw.out⟩
                            · skip
                              have hf : fldB (Pk.mk fs fh fl ts th tl hops 1 fp tp false false false true seq ack reply id) = false := by simp [fldB, hpB, htB, hiB, g_fp, g_tp]
                              replace HX := Lib.hid (HX.out.trans (if_pos hf))
                              clear hf
                              go_wp2_with fail
                              go_ret
                              exact ⟨by rw [HX.out]; rfl, hw.out⟩
                          · skip
                            have hf : fldB (Pk.mk fs fh fl ts th tl hops 1 fp tp false false true has seq ack reply id) = false := by simp [fldB, hpB, htB, hiB, g_fp, g_tp]
                            replace HX := Lib.hid (HX.out.trans (if_pos hf))
                            clear hf
                            go_wp2_with fail
                            go_ret
                            exact ⟨by rw [HX.out]; rfl, hw.out⟩
                        · skip
                          have hf : fldB (Pk.mk fs fh fl ts th tl hops 1 fp tp false true rst has seq ack reply id) = false := by simp [fldB, hpB, htB, hiB, g_fp, g_tp]
                          replace HX := Lib.hid (HX.out.trans (if_pos hf))
                          clear hf
                          go_wp2_with fail
                          go_ret
                          exact ⟨by rw [HX.out]; rfl, hw.out⟩
                      · skip
                        have hf : fldB (Pk.mk fs fh fl ts th tl hops 1 fp tp true fin rst has seq ack reply id) = false := by simp [fldB, hpB, htB, hiB, g_fp, g_tp]
                        replace HX := Lib.hid (HX.out.trans (if_pos hf))
                        clear hf
                        go_wp2_with fail
                        go_ret
                        exact ⟨by rw [HX.out]; rfl, hw.out⟩
                    · have e_tp : (tp != 0) = true := by simp [g_tp]
                      have hf : fldB (Pk.mk fs fh fl ts th tl hops 1 fp tp syn fin rst has seq ack reply id) = false := by simp [fldB, hpB, htB, hiB, g_fp, g_tp]
                      replace HX := Lib.hid (HX.out.trans (if_pos hf))
                      clear hf
                      go_wp2_with fail
                      go_ret
                      exact ⟨by rw [HX.out]; rfl, hw.out⟩
                  · have e_fp : (fp != 0) = true := by simp [g_fp]
                    have hf : fldB (Pk.mk fs fh fl ts th tl hops 1 fp tp syn fin rst has seq ack reply id) = false := by simp [fldB, hpB, htB, hiB, g_fp]
                    replace HX := Lib.hid (HX.out.trans (if_pos hf))
                    clear hf
                    go_wp2_with fail
                    go_ret
                    exact ⟨by rw [HX.out]; rfl, hw.out⟩
  · have HN := HNN.out
    rw [if_neg (by decide)] at HN
    clear HNN
    generalize inB fp 0 65535 = b1 at HN HI1
    generalize inB tp 0 65535 = b2 at HN HI2
    generalize inB seq 0 4294967295 = b3 at HN HI3
    generalize inB ack 0 4294967295 = b4 at HN HI4
    generalize inB id 0 65535 = b5 at HN HI5
    replace HN := Lib.hid HN
    as_aux_lemma =>
      go_wp2_with fail
      refine (HI1.out _).mono ?_
      rintro e w5 ⟨rfl, rfl⟩
      cases b1
      · replace HX := Lib.hid (HX.out.trans (if_pos (by rw [HN.out]; simp)))
        go_wp2_with fail
        go_ret
        exact ⟨by rw [HX.out]; rfl, hw.out⟩
      · skip
        go_wp2_with fail
        refine (HI2.out _).mono ?_
        rintro e w6 ⟨rfl, rfl⟩
        cases b2
        · replace HX := Lib.hid (HX.out.trans (if_pos (by rw [HN.out]; simp)))
          go_wp2_with fail
          go_ret
          exact ⟨by rw [HX.out]; rfl, hw.out⟩
        · skip
          go_wp2_with fail
          refine (HI3.out _).mono ?_
          rintro e w7 ⟨rfl, rfl⟩
          cases b3
          · replace HX := Lib.hid (HX.out.trans (if_pos (by rw [HN.out]; simp)))
            go_wp2_with fail
            go_ret
            exact ⟨by rw [HX.out]; rfl, hw.out⟩
          · skip
            go_wp2_with fail
            refine (HI4.out _).mono ?_
            rintro e w8 ⟨rfl, rfl⟩
            cases b4
            · replace HX := Lib.hid (HX.out.trans (if_pos (by rw [HN.out]; simp)))
              go_wp2_with fail
              go_ret
              exact ⟨by rw [HX.out]; rfl, hw.out⟩
            · skip
              go_wp2_with fail
              refine (HI5.out _).mono ?_
              rintro e w9 ⟨rfl, rfl⟩
              cases b5
              · replace HX := Lib.hid (HX.out.trans (if_pos (by rw [HN.out]; simp)))
                go_wp2_with fail
                go_ret
                exact ⟨by rw [HX.out]; rfl, hw.out⟩
              · skip
                replace HX := Lib.hid (HX.out.trans (if_neg (by rw [HN.out]; simp)))
                clear HN
                cases reply
                · skip
                  by_cases g_id : id = 0
                  · have e_id : (id != 0) = false := by simp [g_id]
                    cases has
                    · by_cases ga : ack = 0
                      · have ea : (ack != 0) = false := by simp [ga]
                        have hf : ¬ fldB (Pk.mk fs fh fl ts th tl hops 6 fp tp syn fin rst false seq ack false id) = false := by simp [fldB, hpB, htB, hiB, g_id, ga]
                        replace HX := Lib.hid (HX.out.trans (if_neg hf))
                        clear hf
                        by_cases h9 : 1400 < n
                        · replace HX := Lib.hid (HX.out.trans (if_pos h9))
                          go_wp2_with fail
                          go_ret
                          exact ⟨by rw [HX.out]; rfl, hw.out⟩
                        · replace HX := Lib.hid (HX.out.trans (if_neg h9))
                          go_wp2_with fail
                          go_ret
                          exact ⟨by rw [HX.out]; rfl, hw.out⟩
                      · have ea : (ack != 0) = true := by simp [ga]
                        have hf : fldB (Pk.mk fs fh fl ts th tl hops 6 fp tp syn fin rst false seq ack false id) = false := by simp [fldB, hpB, htB, hiB, g_id, ga]
                        replace HX := Lib.hid (HX.out.trans (if_pos hf))
                        clear hf
                        go_wp2_with fail
                        go_ret
                        exact ⟨by rw [HX.out]; rfl, hw.out⟩
                    · skip
                      have hf : ¬ fldB (Pk.mk fs fh fl ts th tl hops 6 fp tp syn fin rst true seq ack false id) = false := by simp [fldB, hpB, htB, hiB, g_id]
                      replace HX := Lib.hid (HX.out.trans (if_neg hf))
                      clear hf
                      by_cases h9 : 1400 < n
                      · replace HX := Lib.hid (HX.out.trans (if_pos h9))
                        go_wp2_with fail
                        go_ret
                        exact ⟨by rw [HX.out]; rfl, hw.out⟩
                      · replace HX := Lib.hid (HX.out.trans (if_neg h9))
                        go_wp2_with fail
                        go_ret
                        exact ⟨by rw [HX.out]; rfl, hw.out⟩
                  · have e_id : (id != 0) = true := by simp [g_id]
                    have hf : fldB (Pk.mk fs fh fl ts th tl hops 6 fp tp syn fin rst has seq ack false id) = false := by simp [fldB, hpB, htB, hiB, g_id]
                    replace HX := Lib.hid (HX.out.trans (if_pos hf))
                    clear hf
                    go_wp2_with fail
                    go_ret
                    exact ⟨by rw [HX.out]; rfl, hw.out⟩
                · skip
                  have hf : fldB (Pk.mk fs fh fl ts th tl hops 6 fp tp syn fin rst has seq ack true id) = false := by simp [fldB, hpB, htB, hiB]
                  replace HX := Lib.hid (HX.out.trans (if_pos hf))
                  clear hf
                  go_wp2_with fail
                  go_ret
                  exact ⟨by rw [HX.out]; rfl, hw.out⟩
  · have HN := HNN.out
    rw [if_neg (by decide)] at HN
    clear HNN
    generalize inB fp 0 65535 = b1 at HN HI1
    generalize inB tp 0 65535 = b2 at HN HI2
    generalize inB seq 0 4294967295 = b3 at HN HI3
    generalize inB ack 0 4294967295 = b4 at HN HI4
    generalize inB id 0 65535 = b5 at HN HI5
    replace HN := Lib.hid HN
    as_aux_lemma =>
      go_wp2_with fail
      refine (HI1.out _).mono ?_
      rintro e w5 ⟨rfl, rfl⟩
      cases b1
      · replace HX := Lib.hid (HX.out.trans (if_pos (by rw [HN.out]; simp)))
        go_wp2_with fail
        go_ret
        exact ⟨by rw [HX.out]; rfl, hw.out⟩
      · skip
        go_wp2_with fail
        refine (HI2.out _).mono ?_
        rintro e w6 ⟨rfl, rfl⟩
        cases b2
        · replace HX := Lib.hid (HX.out.trans (if_pos (by rw [HN.out]; simp)))
          go_wp2_with fail
          go_ret
          exact ⟨by rw [HX.out]; rfl, hw.out⟩
        · skip
          go_wp2_with fail
          refine (HI3.out _).mono ?_
          rintro e w7 ⟨rfl, rfl⟩
          cases b3
          · replace HX := Lib.hid (HX.out.trans (if_pos (by rw [HN.out]; simp)))
            go_wp2_with fail
            go_ret
            exact ⟨by rw [HX.out]; rfl, hw.out⟩
          · skip
            go_wp2_with fail
            refine (HI4.out _).mono ?_
            rintro e w8 ⟨rfl, rfl⟩
            cases b4
            · replace HX := Lib.hid (HX.out.trans (if_pos (by rw [HN.out]; simp)))
              go_wp2_with fail
              go_ret
              exact ⟨by rw [HX.out]; rfl, hw.out⟩
            · skip
              go_wp2_with fail
              refine (HI5.out _).mono ?_
              rintro e w9 ⟨rfl, rfl⟩
              cases b5
              · replace HX := Lib.hid (HX.out.trans (if_pos (by rw [HN.out]; simp)))
                go_wp2_with fail
                go_ret
                exact ⟨by rw [HX.out]; rfl, hw.out⟩
              · skip
                replace HX := Lib.hid (HX.out.trans (if_neg (by rw [HN.out]; simp)))
                clear HN
                cases syn
                · skip
                  cases fin
                  · skip
                    cases rst
                    · skip
                      cases has
                      · skip
                        by_cases g_ack : ack = 0
                        · have e_ack : (ack != 0) = false := by simp [g_ack]
                          by_cases g_seq : seq = 0
                          · have e_seq : (seq != 0) = false := by simp [g_seq]
                            cases reply
                            · skip
                              by_cases g_id : id = 0
                              · have e_id : (id != 0) = false := by simp [g_id]
                                have hf : ¬ fldB (Pk.mk fs fh fl ts th tl hops 17 fp tp false false false false seq ack false id) = false := by simp [fldB, hpB, htB, hiB, g_ack, g_seq, g_id]
                                replace HX := Lib.hid (HX.out.trans (if_neg hf))
                                clear hf
                                by_cases h9 : 1400 < n
                                · replace HX := Lib.hid (HX.out.trans (if_pos h9))
                                  go_wp2_with fail
                                  go_ret
                                  exact ⟨by rw [HX.out]; rfl, hw.out⟩
                                · replace HX := Lib.hid (HX.out.trans (if_neg h9))
                                  go_wp2_with fail
                                  go_ret
                                  exact ⟨by rw [HX.out]; rfl, hw.out⟩
                              · have e_id : (id != 0) = true := by simp [g_id]
                                have hf : fldB (Pk.mk fs fh fl ts th tl hops 17 fp tp false false false false seq ack false id) = false := by simp [fldB, hpB, htB, hiB, g_ack, g_seq, g_id]
                                replace HX := Lib.hid (HX.out.trans (if_pos hf))
                                clear hf
                                go_wp2_with fail
                                go_ret
                                exact ⟨by rw [HX.out]; rfl, hw.out⟩
                            · skip
                              have hf : fldB (Pk.mk fs fh fl ts th tl hops 17 fp tp false false false false seq ack true id) = false := by simp [fldB, hpB, htB, hiB, g_ack, g_seq]
                              replace HX := Lib.hid (HX.out.trans (if_pos hf))
                              clear hf
                              go_wp2_with fail
                              go_ret
                              exact ⟨by rw [HX.out]; rfl, hw.out⟩
                          · have e_seq : (seq != 0) = true := by simp [g_seq]
                            have hf : fldB (Pk.mk fs fh fl ts th tl hops 17 fp tp false false false false seq ack reply id) = false := by simp [fldB, hpB, htB, hiB, g_ack, g_seq]
                            replace HX := Lib.hid (HX.out.trans (if_pos hf))
                            clear hf
                            go_wp2_with fail
                            go_ret
                            exact ⟨by rw [HX.out]; rfl, hw.out⟩
                        · have e_ack : (ack != 0) = true := by simp [g_ack]
                          have hf : fldB (Pk.mk fs fh fl ts th tl hops 17 fp tp false false false false seq ack reply id) = false := by simp [fldB, hpB, htB, hiB, g_ack]
                          replace HX := Lib.hid (HX.out.trans (if_pos hf))
                          clear hf
                          go_wp2_with fail
                          go_ret
                          exact ⟨by rw [HX.out]; rfl, hw.out⟩
                      · skip
                        have hf : fldB (Pk.mk fs fh fl ts th tl hops 17 fp tp false false false true seq ack reply id) = false := by simp [fldB, hpB, htB, hiB]
                        replace HX := Lib.hid (HX.out.trans (if_pos hf))
                        clear hf
                        go_wp2_with fail
                        go_ret
                        exact ⟨by rw [HX.out]; rfl, hw.out⟩
                    · skip
                      have hf : fldB (Pk.mk fs fh fl ts th tl hops 17 fp tp false false true has seq ack reply id) = false := by simp [fldB, hpB, htB, hiB]
                      replace HX := Lib.hid (HX.out.trans (if_pos hf))
                      clear hf
                      go_wp2_with fail
                      go_ret
                      exact ⟨by rw [HX.out]; rfl, hw.out⟩
                  · skip
                    have hf : fldB (Pk.mk fs fh fl ts th tl hops 17 fp tp false true rst has seq ack reply id) = false := by simp [fldB, hpB, htB, hiB]
                    replace HX := Lib.hid (HX.out.trans (if_pos hf))
                    clear hf
                    go_wp2_with fail
                    go_ret
                    exact ⟨by rw [HX.out]; rfl, hw.out⟩
                · skip
                  have hf : fldB (Pk.mk fs fh fl ts th tl hops 17 fp tp true fin rst has seq ack reply id) = false := by simp [fldB, hpB, htB, hiB]
                  replace HX := Lib.hid (HX.out.trans (if_pos hf))
                  clear hf
                  go_wp2_with fail
                  go_ret
                  exact ⟨by rw [HX.out]; rfl, hw.out⟩
end Go.Proofs.Ytigbbpgfblnboaa
