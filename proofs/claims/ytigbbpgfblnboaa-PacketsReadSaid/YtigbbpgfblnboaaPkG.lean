/- Packets: fieldsFit, CheckPacket. -/
import Derived.Test.YtigbbpgfblnboaaPkF
namespace Go.Proofs.Ytigbbpgfblnboaa
open Go.RowKit
set_option linter.unusedVariables false
set_option linter.unusedSimpArgs false

set_option maxHeartbeats 4000000 in
set_option maxRecDepth 100000 in
theorem fieldsFit_any (q : Pk) (v : Value) (w : World) (hk : q.proto = 1 ∨ q.proto = 6 ∨ q.proto = 17) :
    Calls Try.prog 48 #[pkV q v] w (GivesV (.bool (fldB q)) w) := by
  have hP := Blk.new w (pkL q v) 45
  have hw : Below w.heap.size w (w.alloc (.cells #[.bool q.fs, .int .u64 q.fh, .int .u64 q.fl, .bool q.ts, .int .u64 q.th, .int .u64 q.tl, .int .i64 q.hops, .int .i64 q.proto, .int .i64 q.fp, .int .i64 q.tp, .bool q.syn, .bool q.fin, .bool q.rst, .bool q.has, .int .i64 q.seq, .int .i64 q.ack, .bool q.reply, .int .i64 q.id, v] 45)) := (Below.refl _ _).alloc (Nat.le_refl _) _
  have HP := Lib.hid (show hpB q = (decide (q.fp ≠ 0) || decide (q.tp ≠ 0)) from rfl)
  have HT := Lib.hid (show htB q = (q.syn || (q.fin || (q.rst || (q.has || decide (q.ack ≠ 0))))) from rfl)
  have HI := Lib.hid (show hiB q = (q.reply || decide (q.id ≠ 0)) from rfl)
  have HF := Lib.hid (show fldB q = (!((hpB q && decide (q.proto = 1)) || ((htB q && !decide (q.proto = 6)) || (hiB q && !decide (q.proto = 1)))) && (!(decide (q.seq ≠ 0) && decide (q.proto = 17)) && (decide (q.ack = 0) || q.has))) from rfl)
  generalize hpB q = hp at HP HF
  generalize htB q = ht at HT HF
  generalize hiB q = hi at HI HF
  generalize fldB q = N at HF
  obtain ⟨fs, fh, fl, ts, th, tl, hops, proto, fp, tp, syn, fin, rst, has, seq, ack, reply, id⟩ := q
  dsimp only at *
  have k0 := hP.cell (i := 7) (v := .int .i64 proto) rfl
  go_enter Try.func48, Try.ntmps48
  go_wp2_with fail
  refine wb_begin ([w.heap.size]) [] (by kernel_rfl) (fun u0 hb0' hz0' => ?_)
  replace hP := hP.below hb0'
  replace hw := hw.trans (hb0'.mono hw.size)
  clear hb0' hz0' k0
  refine wb_pure (i := 0) (d := some 8) (v := ?_) (by simp only [List.getElem?_toArray, List.getElem?_cons_succ, List.getElem?_cons_zero] <;> rfl) (by rfl) (by kernel_rfl) (by kernel_rfl) (by kernel_rfl) (fun _ _ _ h => h) (by rfl) ?_ ?_
  rotate_left
  · ((intro u); go_simp; try with_reducible rfl)
  try simp only [Act.put, List.setIfInBounds_toArray, List.set_cons_zero, List.set_cons_succ]
  refine wb_take (i := 1) (d := some 9) (v := ?_) (by simp only [List.getElem?_toArray, List.getElem?_cons_succ, List.getElem?_cons_zero] <;> rfl) (by rfl) (by kernel_rfl) (by kernel_rfl) (by kernel_rfl) (fun _ _ _ h => h) (by rfl) (by kernel_rfl) ?_ ?_
  rotate_left
  · ((intro u hu); have k0 := (hP.kb hu (by simp)).cell (i := 7) (v := .int .i64 proto) rfl; go_simp; try with_reducible rfl)
  try simp only [Act.put, List.setIfInBounds_toArray, List.set_cons_zero, List.set_cons_succ]
  refine wb_pure (i := 2) (d := some 10) (v := ?_) (by simp only [List.getElem?_toArray, List.getElem?_cons_succ, List.getElem?_cons_zero] <;> rfl) (by rfl) (by kernel_rfl) (by kernel_rfl) (by kernel_rfl) (fun _ _ _ h => h) (by rfl) ?_ ?_
  rotate_left
  · ((intro u); go_simp; try with_reducible rfl)
  try simp only [Act.put, List.setIfInBounds_toArray, List.set_cons_zero, List.set_cons_succ]
  refine wb_pure (i := 3) (d := some 11) (v := ?_) (by simp only [List.getElem?_toArray, List.getElem?_cons_succ, List.getElem?_cons_zero] <;> rfl) (by rfl) (by kernel_rfl) (by kernel_rfl) (by kernel_rfl) (fun _ _ _ h => h) (by rfl) ?_ ?_
  rotate_left
  · ((intro u); go_simp; try with_reducible rfl)
  try simp only [Act.put, List.setIfInBounds_toArray, List.set_cons_zero, List.set_cons_succ]
  refine wb_take (i := 4) (d := some 12) (v := ?_) (by simp only [List.getElem?_toArray, List.getElem?_cons_succ, List.getElem?_cons_zero] <;> rfl) (by rfl) (by kernel_rfl) (by kernel_rfl) (by kernel_rfl) (fun _ _ _ h => h) (by rfl) (by kernel_rfl) ?_ ?_
  rotate_left
  · ((intro u hu); have k0 := (hP.kb hu (by simp)).cell (i := 7) (v := .int .i64 proto) rfl; go_simp; try with_reducible rfl)
  try simp only [Act.put, List.setIfInBounds_toArray, List.set_cons_zero, List.set_cons_succ]
  refine wb_pure (i := 5) (d := some 13) (v := ?_) (by simp only [List.getElem?_toArray, List.getElem?_cons_succ, List.getElem?_cons_zero] <;> rfl) (by rfl) (by kernel_rfl) (by kernel_rfl) (by kernel_rfl) (fun _ _ _ h => h) (by rfl) ?_ ?_
  rotate_left
  · ((intro u); go_simp; try with_reducible rfl)
  try simp only [Act.put, List.setIfInBounds_toArray, List.set_cons_zero, List.set_cons_succ]
  refine wb_pure (i := 6) (d := some 3) (v := ?_) (by simp only [List.getElem?_toArray, List.getElem?_cons_succ, List.getElem?_cons_zero] <;> rfl) (by rfl) (by kernel_rfl) (by kernel_rfl) (by kernel_rfl) (fun _ _ _ h => h) (by rfl) ?_ ?_
  rotate_left
  · ((intro u); go_simp; try with_reducible rfl)
  try simp only [Act.put, List.setIfInBounds_toArray, List.set_cons_zero, List.set_cons_succ]
  refine wb_pure (i := 7) (d := some 4) (v := ?_) (by simp only [List.getElem?_toArray, List.getElem?_cons_succ, List.getElem?_cons_zero] <;> rfl) (by rfl) (by kernel_rfl) (by kernel_rfl) (by kernel_rfl) (fun _ _ _ h => h) (by rfl) ?_ ?_
  rotate_left
  · ((intro u); go_simp; try with_reducible rfl)
  try simp only [Act.put, List.setIfInBounds_toArray, List.set_cons_zero, List.set_cons_succ]
  refine wb_done (by kernel_rfl) ?_ _
  skip
  obtain ⟨c0, c1, c2, c3, c4, c5, c6, c7, c8, c9, c10, c11, c12, c13, c14, c15, c16, c17, c18⟩ := hP.pk
  replace hw := Lib.hid hw
  clear hP
  obtain ⟨pT, hpT⟩ : ∃ b : Bool, b = decide (proto = 6) := ⟨_, rfl⟩
  obtain ⟨pI, hpI⟩ : ∃ b : Bool, b = decide (proto = 1) := ⟨_, rfl⟩
  go_upto_region 2 with fail
  go_cut [5] (fun s5 wx => s5 = .bool hp ∧ wx = u0)
  case first =>
    by_cases g0 : fp = 0
    · have e0 : (fp != 0) = false := by simp [g0]
      replace g0 := Lib.hid g0
      by_cases g1 : tp = 0
      · have e1 : (tp != 0) = false := by simp [g1]
        replace g1 := Lib.hid g1
        go_wp2_with fail
        go_meet
        exact ⟨by rw [HP.out, decide_eq_false (show ¬ (fp ≠ 0) from fun h => h g0.out), decide_eq_false (show ¬ (tp ≠ 0) from fun h => h g1.out)]; first | rfl | (simp; done), rfl⟩
      · have e1 : (tp != 0) = true := by simp [g1]
        replace g1 := Lib.hid g1
        go_wp2_with fail
        go_meet
        exact ⟨by rw [HP.out, decide_eq_false (show ¬ (fp ≠ 0) from fun h => h g0.out), decide_eq_true g1.out]; first | rfl | (simp; done), rfl⟩
    · have e0 : (fp != 0) = true := by simp [g0]
      replace g0 := Lib.hid g0
      go_wp2_with fail
      go_meet
      exact ⟨by rw [HP.out, decide_eq_true g0.out]; first | rfl | (simp; done), rfl⟩
  case rest =>
    obtain ⟨rfl, rfl⟩ := hcut
    go_upto_region 3 with fail
    go_cut [6] (fun s6 wx => s6 = .bool ht ∧ wx = wc)
    case first =>
      cases syn
      · skip
        cases fin
        · skip
          cases rst
          · skip
            cases has
            · skip
              by_cases g4 : ack = 0
              · have e4 : (ack != 0) = false := by simp [g4]
                replace g4 := Lib.hid g4
                go_wp2_with fail
                go_meet
                exact ⟨by rw [HT.out, decide_eq_false (show ¬ (ack ≠ 0) from fun h => h g4.out)]; first | rfl | (simp; done), rfl⟩
              · have e4 : (ack != 0) = true := by simp [g4]
                replace g4 := Lib.hid g4
                go_wp2_with fail
                go_meet
                exact ⟨by rw [HT.out, decide_eq_true g4.out]; first | rfl | (simp; done), rfl⟩
            · skip
              go_wp2_with fail
              go_meet
              exact ⟨by rw [HT.out]; first | rfl | (simp; done), rfl⟩
          · skip
            go_wp2_with fail
            go_meet
            exact ⟨by rw [HT.out]; first | rfl | (simp; done), rfl⟩
        · skip
          go_wp2_with fail
          go_meet
          exact ⟨by rw [HT.out]; first | rfl | (simp; done), rfl⟩
      · skip
        go_wp2_with fail
        go_meet
        exact ⟨by rw [HT.out]; first | rfl | (simp; done), rfl⟩
    case rest =>
      obtain ⟨rfl, rfl⟩ := hcut
      go_upto_region 4 with fail
      go_cut [7] (fun s7 wx => s7 = .bool hi ∧ wx = wc)
      case first =>
        cases reply
        · skip
          by_cases g1 : id = 0
          · have e1 : (id != 0) = false := by simp [g1]
            replace g1 := Lib.hid g1
            go_wp2_with fail
            go_meet
            exact ⟨by rw [HI.out, decide_eq_false (show ¬ (id ≠ 0) from fun h => h g1.out)]; first | rfl | (simp; done), rfl⟩
          · have e1 : (id != 0) = true := by simp [g1]
            replace g1 := Lib.hid g1
            go_wp2_with fail
            go_meet
            exact ⟨by rw [HI.out, decide_eq_true g1.out]; first | rfl | (simp; done), rfl⟩
        · skip
          go_wp2_with fail
          go_meet
          exact ⟨by rw [HI.out]; first | rfl | (simp; done), rfl⟩
      case rest =>
        obtain ⟨rfl, rfl⟩ := hcut
        clear HP HT HI hpT hpI
        have HS := Lib.hid (show ∀ b, (seq != 0) = b → decide (seq ≠ 0) = b from fun b h => by rw [← h]; by_cases e : seq = 0 <;> simp [e])
        have HA := Lib.hid (show ∀ b, (ack == 0) = b → decide (ack = 0) = b from fun b h => by rw [← h]; by_cases e : ack = 0 <;> simp [e])
        obtain ⟨bs, hbs⟩ : ∃ b, (seq != 0) = b := ⟨_, rfl⟩
        obtain ⟨ba, hba⟩ : ∃ b, (ack == 0) = b := ⟨_, rfl⟩
        replace HS := Lib.hid (HS.out bs hbs)
        replace HA := Lib.hid (HA.out ba hba)
        rcases hk with rfl | rfl | rfl <;> cases hp <;> cases ht <;> cases hi <;> cases bs <;> cases ba <;> cases has <;> (
          go_wp2_with fail
          go_ret
          exact ⟨by rw [HF.out, HS.out, HA.out]; rfl, hw.out⟩)
end Go.Proofs.Ytigbbpgfblnboaa
