/- Packets: PacketFault. -/
import Derived.Test.YtijlahgmnpnmfaaGreatDoorKmPcFl
import Derived.Test.YtijlahgmnpnmfaaGreatDoorKmPcJ
namespace Go.Proofs.YtijlahgmnpnmfaaGreatDoor
open Go.RowKit
set_option linter.unusedVariables false
set_option linter.unusedSimpArgs false

theorem pkF_first (q : Pk) (n : Nat) : pkF q n = if firstZ [adF q.fs q.fh q.fl, adF q.ts q.th q.tl] ≠ 0 then firstZ [adF q.fs q.fh q.fl, adF q.ts q.th q.tl]
    else if q.fs ≠ q.ts then 10 else if inB q.hops 0 255 = false then 1 else if ¬ (q.proto = 1 ∨ q.proto = 6 ∨ q.proto = 17) then 4
    else if numB q = false then 1 else if fldB q = false then 3 else if 1400 < n then 2 else 0 := by
  unfold pkF
  generalize adF q.fs q.fh q.fl = x
  generalize adF q.ts q.th q.tl = y
  simp only [firstZ]
  by_cases hx : x = 0
  · by_cases hy : y = 0 <;> simp [hx, hy]
  · simp [hx]

set_option maxHeartbeats 4000000 in
set_option maxRecDepth 100000 in
theorem checkPacket_any (q : Pk) (A : Option Addr) (n cap : Nat) (w : World) :
    Calls Tryz.prog 16 #[pkV q (.slice A n cap)] w (GivesV (.int .i64 (pkF q n)) w) := by
  have hP := Blk.new w (pkL q (.slice A n cap)) 31
  have hw : Below w.heap.size w (w.alloc (.cells #[.bool q.fs, .int .u64 q.fh, .int .u64 q.fl, .bool q.ts, .int .u64 q.th, .int .u64 q.tl, .int .i64 q.hops, .int .i64 q.proto, .int .i64 q.fp, .int .i64 q.tp, .bool q.syn, .bool q.fin, .bool q.rst, .bool q.has, .int .i64 q.seq, .int .i64 q.ack, .bool q.reply, .int .i64 q.id, .slice A n cap] 31)) := (Below.refl _ _).alloc (Nat.le_refl _) _
  have HX := Lib.hid (pkF_first q n)
  have HC1 := Lib.hid (fun w' => checkAddr_any q.fs q.fh q.fl w')
  have HC2 := Lib.hid (fun w' => checkAddr_any q.ts q.th q.tl w')
  have HN := Lib.hid (fun w' => numbersFit_any q (.slice A n cap) w')
  have HF := Lib.hid (fun (h : q.proto = 1 ∨ q.proto = 6 ∨ q.proto = 17) w' => fieldsFit_any q (.slice A n cap) w' h)
  generalize pkF q n = N at HX ⊢
  generalize numB q = bn at HX HN
  generalize fldB q = bf at HX HF
  generalize adF q.fs q.fh q.fl = x at HC1 HX
  generalize adF q.ts q.th q.tl = y at HC2 HX
  obtain ⟨c, hc⟩ : ∃ c, firstZ [x, y] = c := ⟨_, rfl⟩
  rw [hc] at HX
  have HO := Lib.hid hc
  clear hc
  obtain ⟨fs, fh, fl, ts, th, tl, hops, proto, fp, tp, syn, fin, rst, has, seq, ack, reply, id⟩ := q
  dsimp only at *
  go_enter Tryz.func16, Tryz.ntmps16
  go_upto_region 1 with fail
  go_cut [3] (fun s3 wx => s3 = .int .i64 c ∧ Blk wx w.heap.size (pkL ⟨fs, fh, fl, ts, th, tl, hops, proto, fp, tp, syn, fin, rst, has, seq, ack, reply, id⟩ (.slice A n cap)) 31 ∧ Below w.heap.size w wx)
  case first => as_aux_lemma =>
    refine wb_begin ([w.heap.size]) [] (by kernel_rfl) (fun u0 hb0' hz0' => ?_)
    replace hP := hP.below hb0'
    replace hw := hw.trans (hb0'.mono hw.size)
    clear hb0' hz0'
    refine wb_pure (i := 0) (d := some 4) (v := ?_) (by simp only [List.getElem?_toArray, List.getElem?_cons_succ, List.getElem?_cons_zero] <;> rfl) (by rfl) (by kernel_rfl) (by kernel_rfl) (by kernel_rfl) (fun _ _ _ h => h) (by rfl) ?_ ?_
    rotate_left
    · ((intro u); go_simp; try with_reducible rfl)
    try simp only [Act.put, List.setIfInBounds_toArray, List.set_cons_zero, List.set_cons_succ]
    refine wb_take (i := 1) (d := some 5) (v := ?_) (by simp only [List.getElem?_toArray, List.getElem?_cons_succ, List.getElem?_cons_zero] <;> rfl) (by rfl) (by kernel_rfl) (by kernel_rfl) (by kernel_rfl) (fun _ _ _ h => h) (by rfl) (by kernel_rfl) ?_ ?_
    rotate_left
    · ((intro u hu); obtain ⟨c0, c1, c2, c3, c4, c5, _⟩ := (hP.kb hu (by simp)).pk; go_simp; try with_reducible rfl)
    try simp only [Act.put, List.setIfInBounds_toArray, List.set_cons_zero, List.set_cons_succ]
    refine wb_pure (i := 3) (d := some 7) (v := ?_) (by simp only [List.getElem?_toArray, List.getElem?_cons_succ, List.getElem?_cons_zero] <;> rfl) (by rfl) (by kernel_rfl) (by kernel_rfl) (by kernel_rfl) (fun _ _ _ h => h) (by rfl) ?_ ?_
    rotate_left
    · ((intro u); go_simp; try with_reducible rfl)
    try simp only [Act.put, List.setIfInBounds_toArray, List.set_cons_zero, List.set_cons_succ]
    refine wb_take (i := 4) (d := some 8) (v := ?_) (by simp only [List.getElem?_toArray, List.getElem?_cons_succ, List.getElem?_cons_zero] <;> rfl) (by rfl) (by kernel_rfl) (by kernel_rfl) (by kernel_rfl) (fun _ _ _ h => h) (by rfl) (by kernel_rfl) ?_ ?_
    rotate_left
    · ((intro u hu); obtain ⟨c0, c1, c2, c3, c4, c5, _⟩ := (hP.kb hu (by simp)).pk; go_simp; try with_reducible rfl)
    try simp only [Act.put, List.setIfInBounds_toArray, List.set_cons_zero, List.set_cons_succ]
    refine wb_one (i := 2) (by simp only [List.getElem?_toArray, List.getElem?_cons_succ, List.getElem?_cons_zero] <;> rfl) (by kernel_rfl) (by rfl) (fun K hK => ?_)
    go_simp
    refine (HC1.out _).mono ?_
    rintro e u2 ⟨rfl, hv2⟩
    refine hK.out _ _ (Kb.below hv2 (by intro p hp; rw [List.mem_singleton.1 hp]; exact hP.lt)) ?_
    replace hP := hP.below hv2
    replace hw := hw.trans (hv2.mono hw.size)
    clear hK K hv2
    try simp only [Act.put, List.setIfInBounds_toArray, List.set_cons_zero, List.set_cons_succ]
    refine wb_one (i := 5) (by simp only [List.getElem?_toArray, List.getElem?_cons_succ, List.getElem?_cons_zero] <;> rfl) (by kernel_rfl) (by rfl) (fun K hK => ?_)
    go_simp
    refine (HC2.out _).mono ?_
    rintro e u5 ⟨rfl, hv5⟩
    refine hK.out _ _ (Kb.below hv5 (by intro p hp; rw [List.mem_singleton.1 hp]; exact hP.lt)) ?_
    replace hP := hP.below hv5
    replace hw := hw.trans (hv5.mono hw.size)
    clear hK K hv5
    try simp only [Act.put, List.setIfInBounds_toArray, List.set_cons_zero, List.set_cons_succ]
    refine wb_one (i := 6) (by simp only [List.getElem?_toArray, List.getElem?_cons_succ, List.getElem?_cons_zero] <;> rfl) (by kernel_rfl) (by rfl) (fun K hK => ?_)
    go_simp
    refine hK.out _ _ (Kb.gb (World.grownBy_alloc _ _ none) (by intro p hp; rw [List.mem_singleton.1 hp]; exact ⟨hP.lt, by simp⟩)) ?_
    refine wb_new (cs := [.int .i64 x, .int .i64 y]) (t := 33) (fun u6 hv6 hL6 hz6 => ?_)
    replace hP := hP.below hv6
    replace hw := hw.trans (hv6.mono hw.size)
    clear hK K hv6 hz6
    try simp only [Act.put, List.setIfInBounds_toArray, List.set_cons_zero, List.set_cons_succ]
    refine wb_one (i := 7) (by simp only [List.getElem?_toArray, List.getElem?_cons_succ, List.getElem?_cons_zero] <;> rfl) (by kernel_rfl) (by rfl) (fun K hK => ?_)
    go_simp
    refine (or2 x y _ _ _ _ hL6).mono ?_
    rintro e u7 ⟨rfl, rfl⟩
    rw [HO.out]
    refine hK.out _ _ (Kb.refl _ _) ?_
    clear hK K hL6
    try simp only [Act.put, List.setIfInBounds_toArray, List.set_cons_zero, List.set_cons_succ]
    refine wb_pure (i := 8) (d := some 3) (v := ?_) (by simp only [List.getElem?_toArray, List.getElem?_cons_succ, List.getElem?_cons_zero] <;> rfl) (by rfl) (by kernel_rfl) (by kernel_rfl) (by kernel_rfl) (fun _ _ _ h => h) (by rfl) ?_ ?_
    rotate_left
    · ((intro u); go_simp; try with_reducible rfl)
    try simp only [Act.put, List.setIfInBounds_toArray, List.set_cons_zero, List.set_cons_succ]
    refine wb_done (by kernel_rfl) ?_ _
    go_wp2_with fail
    go_meet
    exact ⟨rfl, hP, hw⟩
  case rest =>
  clear hP hw
  obtain ⟨rfl, hP, hw⟩ := hcut
  obtain ⟨c0, c1, c2, c3, c4, c5, c6, c7, c8, c9, c10, c11, c12, c13, c14, c15, c16, c17, c18⟩ := hP.pk
  have L := ldPk_run hP
  replace hw := Lib.hid hw
  clear HC1 HC2 HO
  replace hP := Lib.hid hP
  by_cases h0 : c = 0
  · have e0 : (c != 0) = false := by simp [h0]
    replace HX := Lib.hid (HX.out.trans (if_neg (by simp [h0])))
    replace h0 := Lib.hid h0
    by_cases h1 : fs = ts
    · have e1 : (fs == ts) = true := by simp [h1]
      replace HX := Lib.hid (HX.out.trans (if_neg (by simp [h1])))
      replace h1 := Lib.hid h1
      rcases (by omega : hops < 0 ∨ 255 < hops ∨ (0 ≤ hops ∧ hops ≤ 255)) with h2 | h2 | ⟨h2, h2'⟩
      · as_aux_lemma =>
        replace HX := Lib.hid (HX.out.trans (if_pos (show inB hops 0 255 = false from decide_eq_false (by omega))))
        go_wp2_with fail
        go_ret
        exact ⟨by rw [HX.out]; rfl, hw.out⟩
      · as_aux_lemma =>
        replace HX := Lib.hid (HX.out.trans (if_pos (show inB hops 0 255 = false from decide_eq_false (by omega))))
        have h2' : 0 ≤ hops := by omega
        go_wp2_with fail
        go_ret
        exact ⟨by rw [HX.out]; rfl, hw.out⟩
      · replace HX := Lib.hid (HX.out.trans (if_neg (show ¬ inB hops 0 255 = false by simp [inB]; omega)))
        by_cases h3 : proto = 1 ∨ proto = 6 ∨ proto = 17
        · replace HX := Lib.hid (HX.out.trans (if_neg (not_not_intro h3)))
          replace HF := Lib.hid (HF.out h3)
          rcases h3 with rfl | rfl | rfl
          · as_aux_lemma =>
            go_wp2_with fail
            refine (HN.out _).mono ?_
            rintro e w1 ⟨rfl, hv1⟩
            replace hP := Lib.hid (hP.out.below hv1)
            replace hw := Lib.hid (hw.out.trans (hv1.mono hw.out.size))
            clear hv1 HN L
            have L := ldPk_run hP.out
            clear c0 c1 c2 c3 c4 c5 c6 c7 c8 c9 c10 c11 c12 c13 c14 c15 c16 c17 c18
            cases bn
            · replace HX := Lib.hid (HX.out.trans (if_pos rfl))
              go_wp2_with fail
              go_ret
              exact ⟨by rw [HX.out]; rfl, hw.out⟩
            · replace HX := Lib.hid (HX.out.trans (if_neg (by simp)))
              go_wp2_with fail
              refine (HF.out _).mono ?_
              rintro e w2 ⟨rfl, hv2⟩
              replace hP := Lib.hid (hP.out.below hv2)
              have c18 := hP.out.cell (i := 18) (v := .slice A n cap) rfl
              replace hw := Lib.hid (hw.out.trans (hv2.mono hw.out.size))
              clear hv2 HF L
              cases bf
              · replace HX := Lib.hid (HX.out.trans (if_pos rfl))
                go_wp2_with fail
                go_ret
                exact ⟨by rw [HX.out]; rfl, hw.out⟩
              · replace HX := Lib.hid (HX.out.trans (if_neg (by simp)))
                by_cases h9 : 1400 < n
                · replace HX := Lib.hid (HX.out.trans (if_pos h9))
                  go_wp2_with fail
                  go_ret
                  exact ⟨by rw [HX.out]; rfl, hw.out⟩
                · replace HX := Lib.hid (HX.out.trans (if_neg h9))
                  go_wp2_with fail
                  go_ret
                  exact ⟨by rw [HX.out]; rfl, hw.out⟩
          · as_aux_lemma =>
            go_wp2_with fail
            refine (HN.out _).mono ?_
            rintro e w1 ⟨rfl, hv1⟩
            replace hP := Lib.hid (hP.out.below hv1)
            replace hw := Lib.hid (hw.out.trans (hv1.mono hw.out.size))
            clear hv1 HN L
            have L := ldPk_run hP.out
            clear c0 c1 c2 c3 c4 c5 c6 c7 c8 c9 c10 c11 c12 c13 c14 c15 c16 c17 c18
            cases bn
            · replace HX := Lib.hid (HX.out.trans (if_pos rfl))
              go_wp2_with fail
              go_ret
              exact ⟨by rw [HX.out]; rfl, hw.out⟩
            · replace HX := Lib.hid (HX.out.trans (if_neg (by simp)))
              go_wp2_with fail
              refine (HF.out _).mono ?_
              rintro e w2 ⟨rfl, hv2⟩
              replace hP := Lib.hid (hP.out.below hv2)
              have c18 := hP.out.cell (i := 18) (v := .slice A n cap) rfl
              replace hw := Lib.hid (hw.out.trans (hv2.mono hw.out.size))
              clear hv2 HF L
              cases bf
              · replace HX := Lib.hid (HX.out.trans (if_pos rfl))
                go_wp2_with fail
                go_ret
                exact ⟨by rw [HX.out]; rfl, hw.out⟩
              · replace HX := Lib.hid (HX.out.trans (if_neg (by simp)))
                by_cases h9 : 1400 < n
                · replace HX := Lib.hid (HX.out.trans (if_pos h9))
                  go_wp2_with fail
                  go_ret
                  exact ⟨by rw [HX.out]; rfl, hw.out⟩
                · replace HX := Lib.hid (HX.out.trans (if_neg h9))
                  go_wp2_with fail
                  go_ret
                  exact ⟨by rw [HX.out]; rfl, hw.out⟩
          · as_aux_lemma =>
            go_wp2_with fail
            refine (HN.out _).mono ?_
            rintro e w1 ⟨rfl, hv1⟩
            replace hP := Lib.hid (hP.out.below hv1)
            replace hw := Lib.hid (hw.out.trans (hv1.mono hw.out.size))
            clear hv1 HN L
            have L := ldPk_run hP.out
            clear c0 c1 c2 c3 c4 c5 c6 c7 c8 c9 c10 c11 c12 c13 c14 c15 c16 c17 c18
            cases bn
            · replace HX := Lib.hid (HX.out.trans (if_pos rfl))
              go_wp2_with fail
              go_ret
              exact ⟨by rw [HX.out]; rfl, hw.out⟩
            · replace HX := Lib.hid (HX.out.trans (if_neg (by simp)))
              go_wp2_with fail
              refine (HF.out _).mono ?_
              rintro e w2 ⟨rfl, hv2⟩
              replace hP := Lib.hid (hP.out.below hv2)
              have c18 := hP.out.cell (i := 18) (v := .slice A n cap) rfl
              replace hw := Lib.hid (hw.out.trans (hv2.mono hw.out.size))
              clear hv2 HF L
              cases bf
              · replace HX := Lib.hid (HX.out.trans (if_pos rfl))
                go_wp2_with fail
                go_ret
                exact ⟨by rw [HX.out]; rfl, hw.out⟩
              · replace HX := Lib.hid (HX.out.trans (if_neg (by simp)))
                by_cases h9 : 1400 < n
                · replace HX := Lib.hid (HX.out.trans (if_pos h9))
                  go_wp2_with fail
                  go_ret
                  exact ⟨by rw [HX.out]; rfl, hw.out⟩
                · replace HX := Lib.hid (HX.out.trans (if_neg h9))
                  go_wp2_with fail
                  go_ret
                  exact ⟨by rw [HX.out]; rfl, hw.out⟩
        · replace HX := Lib.hid (HX.out.trans (if_pos h3))
          have p1 : (proto != 1) = true := by simp; omega
          have p6 : (proto != 6) = true := by simp; omega
          have p17 : (proto != 17) = true := by simp; omega
          replace h3 := Lib.hid h3
          clear HF
          as_aux_lemma =>
            go_wp2_with fail
            go_ret
            exact ⟨by rw [HX.out]; rfl, hw.out⟩
    · have e1 : (fs == ts) = false := by simp [h1]
      replace HX := Lib.hid (HX.out.trans (if_pos h1))
      replace h1 := Lib.hid h1
      go_wp2_with fail
      go_ret
      exact ⟨by rw [HX.out]; rfl, hw.out⟩
  · have e0 : (c != 0) = true := by simp [h0]
    replace HX := Lib.hid (HX.out.trans (if_pos h0))
    replace h0 := Lib.hid h0
    go_wp2_with fail
    go_ret
    exact ⟨by rw [HX.out]; rfl, hw.out⟩
end Go.Proofs.YtijlahgmnpnmfaaGreatDoor
namespace Go.Proofs.YtijlahgmnpnmfaaGreatDoor
open Go.RowKit
set_option linter.unusedVariables false
set_option linter.unusedSimpArgs false

end Go.Proofs.YtijlahgmnpnmfaaGreatDoor
