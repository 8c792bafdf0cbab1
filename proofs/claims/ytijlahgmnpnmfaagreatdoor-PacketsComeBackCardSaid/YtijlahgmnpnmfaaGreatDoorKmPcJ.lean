/- Packets: flags, ports, protocols. -/
import Derived.Test.YtijlahgmnpnmfaaGreatDoorKmPdB
import Derived.Test.YtijlahgmnpnmfaaGreatDoorKmAddressed
import Derived.Test.YtijlahgmnpnmfaaGreatDoorKmSiteA
import Derived.Test.YtijlahgmnpnmfaaGreatDoorKmPfxA
import Derived.ChangeAlike
import Derived.Deep.DeepCutAuto
namespace Go.Proofs.YtijlahgmnpnmfaaGreatDoor
open Go.RowKit
set_option linter.unusedVariables false
set_option linter.unusedSimpArgs false

/-- A packet but for its payload. -/
structure Pk where
  fs : Bool
  fh : Int
  fl : Int
  ts : Bool
  th : Int
  tl : Int
  hops : Int
  proto : Int
  fp : Int
  tp : Int
  syn : Bool
  fin : Bool
  rst : Bool
  has : Bool
  seq : Int
  ack : Int
  reply : Bool
  id : Int
abbrev pkL (q : Pk) (v : Value) : List Value := [.bool q.fs, .int .u64 q.fh, .int .u64 q.fl, .bool q.ts, .int .u64 q.th, .int .u64 q.tl, .int .i64 q.hops, .int .i64 q.proto, .int .i64 q.fp, .int .i64 q.tp, .bool q.syn, .bool q.fin, .bool q.rst, .bool q.has, .int .i64 q.seq, .int .i64 q.ack, .bool q.reply, .int .i64 q.id, v]
abbrev pkV (q : Pk) (v : Value) : Value := .agg #[.bool q.fs, .int .u64 q.fh, .int .u64 q.fl, .bool q.ts, .int .u64 q.th, .int .u64 q.tl, .int .i64 q.hops, .int .i64 q.proto, .int .i64 q.fp, .int .i64 q.tp, .bool q.syn, .bool q.fin, .bool q.rst, .bool q.has, .int .i64 q.seq, .int .i64 q.ack, .bool q.reply, .int .i64 q.id, v]
theorem Blk.pk {w : World} {p : Nat} {q : Pk} {v : Value} {t : TypeId} (h : Blk w p (pkL q v) t) :
    w.cell? ⟨p, 0, none⟩ = some (.bool q.fs) ∧ w.cell? ⟨p, 1, none⟩ = some (.int .u64 q.fh) ∧ w.cell? ⟨p, 2, none⟩ = some (.int .u64 q.fl) ∧ w.cell? ⟨p, 3, none⟩ = some (.bool q.ts) ∧ w.cell? ⟨p, 4, none⟩ = some (.int .u64 q.th) ∧ w.cell? ⟨p, 5, none⟩ = some (.int .u64 q.tl) ∧ w.cell? ⟨p, 6, none⟩ = some (.int .i64 q.hops) ∧ w.cell? ⟨p, 7, none⟩ = some (.int .i64 q.proto) ∧ w.cell? ⟨p, 8, none⟩ = some (.int .i64 q.fp) ∧ w.cell? ⟨p, 9, none⟩ = some (.int .i64 q.tp) ∧ w.cell? ⟨p, 10, none⟩ = some (.bool q.syn) ∧ w.cell? ⟨p, 11, none⟩ = some (.bool q.fin) ∧ w.cell? ⟨p, 12, none⟩ = some (.bool q.rst) ∧ w.cell? ⟨p, 13, none⟩ = some (.bool q.has) ∧ w.cell? ⟨p, 14, none⟩ = some (.int .i64 q.seq) ∧ w.cell? ⟨p, 15, none⟩ = some (.int .i64 q.ack) ∧ w.cell? ⟨p, 16, none⟩ = some (.bool q.reply) ∧ w.cell? ⟨p, 17, none⟩ = some (.int .i64 q.id) ∧ w.cell? ⟨p, 18, none⟩ = some v :=
  ⟨h.cell (i := 0) rfl, h.cell (i := 1) rfl, h.cell (i := 2) rfl, h.cell (i := 3) rfl, h.cell (i := 4) rfl, h.cell (i := 5) rfl, h.cell (i := 6) rfl, h.cell (i := 7) rfl, h.cell (i := 8) rfl, h.cell (i := 9) rfl, h.cell (i := 10) rfl, h.cell (i := 11) rfl, h.cell (i := 12) rfl, h.cell (i := 13) rfl, h.cell (i := 14) rfl, h.cell (i := 15) rfl, h.cell (i := 16) rfl, h.cell (i := 17) rfl, h.cell (i := 18) rfl⟩

/-- Are the numbers behind the protocol in their ranges? -/
def numB (q : Pk) : Bool := inB q.fp 0 65535 && (inB q.tp 0 65535 && (inB q.seq 0 (if q.proto = 1 then 65535 else 4294967295) && (inB q.ack 0 4294967295 && inB q.id 0 65535)))
def hpB (q : Pk) : Bool := decide (q.fp ≠ 0) || decide (q.tp ≠ 0)
def htB (q : Pk) : Bool := q.syn || (q.fin || (q.rst || (q.has || decide (q.ack ≠ 0))))
def hiB (q : Pk) : Bool := q.reply || decide (q.id ≠ 0)
/-- Are the fields that the protocol does not use zero, and Ack without Has? -/
def fldB (q : Pk) : Bool := !((hpB q && decide (q.proto = 1)) || ((htB q && !decide (q.proto = 6)) || (hiB q && !decide (q.proto = 1)))) && (!(decide (q.seq ≠ 0) && decide (q.proto = 17)) && (decide (q.ack = 0) || q.has))
/-- What is wrong with a packet whose payload has n bytes. -/
def pkF (q : Pk) (n : Nat) : Int :=
  if adF q.fs q.fh q.fl ≠ 0 then adF q.fs q.fh q.fl else if adF q.ts q.th q.tl ≠ 0 then adF q.ts q.th q.tl
  else if q.fs ≠ q.ts then 10 else if inB q.hops 0 255 = false then 1 else if ¬ (q.proto = 1 ∨ q.proto = 6 ∨ q.proto = 17) then 4
  else if numB q = false then 1 else if fldB q = false then 3 else if 1400 < n then 2 else 0

theorem fits_any (n m : Int) (w : World) :
    Calls Tryz.prog 57 #[.int .i64 n, .int .i64 m] w fun e w' => e = .returned (.bool (inB n 0 m)) ∧ w = w' := by
  by_cases h1 : 0 ≤ n
  · by_cases h2 : n ≤ m
    · go_enter Tryz.func57, Tryz.ntmps57
      go_wp2_with fail
      go_ret
      exact ⟨by unfold inB; rw [decide_eq_true (by omega)]; rfl, rfl⟩
    · go_enter Tryz.func57, Tryz.ntmps57
      go_wp2_with fail
      go_ret
      exact ⟨by unfold inB; rw [decide_eq_false (by omega)]; rfl, rfl⟩
  · go_enter Tryz.func57, Tryz.ntmps57
    go_wp2_with fail
    go_ret
    exact ⟨by unfold inB; rw [decide_eq_false (by omega)]; rfl, rfl⟩

set_option maxHeartbeats 2000000 in
set_option maxRecDepth 100000 in
theorem numbersFit_any (q : Pk) (v : Value) (w : World) :
    Calls Tryz.prog 32 #[pkV q v] w (GivesV (.bool (numB q)) w) := by
  have hP := Blk.new w (pkL q v) 31
  have hw : Hid (Below w.heap.size w (w.alloc (.cells #[.bool q.fs, .int .u64 q.fh, .int .u64 q.fl, .bool q.ts, .int .u64 q.th, .int .u64 q.tl, .int .i64 q.hops, .int .i64 q.proto, .int .i64 q.fp, .int .i64 q.tp, .bool q.syn, .bool q.fin, .bool q.rst, .bool q.has, .int .i64 q.seq, .int .i64 q.ack, .bool q.reply, .int .i64 q.id, v] 31))) := Lib.hid ((Below.refl _ _).alloc (Nat.le_refl _) _)
  obtain ⟨c0, c1, c2, c3, c4, c5, c6, c7, c8, c9, c10, c11, c12, c13, c14, c15, c16, c17, c18⟩ := hP.pk
  have h1 := fun w' => fits_any q.fp 65535 w'
  have h2 := fun w' => fits_any q.tp 65535 w'
  have h3 := fun w' => fits_any q.seq (if q.proto = 1 then 65535 else 4294967295) w'
  have h4 := fun w' => fits_any q.ack 4294967295 w'
  have h5 := fun w' => fits_any q.id 65535 w'
  have HN : numB q = (inB q.fp 0 65535 && (inB q.tp 0 65535 && (inB q.seq 0 (if q.proto = 1 then 65535 else 4294967295) && (inB q.ack 0 4294967295 && inB q.id 0 65535)))) := rfl
  generalize inB q.fp 0 65535 = b1 at h1 HN
  generalize inB q.tp 0 65535 = b2 at h2 HN
  generalize inB q.seq 0 (if q.proto = 1 then 65535 else 4294967295) = b3 at h3 HN
  generalize inB q.ack 0 4294967295 = b4 at h4 HN
  generalize inB q.id 0 65535 = b5 at h5 HN
  generalize numB q = N at HN
  replace HN := Lib.hid HN
  replace h1 := Lib.hid h1
  replace h2 := Lib.hid h2
  replace h3 := Lib.hid h3
  replace h4 := Lib.hid h4
  replace h5 := Lib.hid h5
  clear hP
  obtain ⟨fs, fh, fl, ts, th, tl, hops, proto, fp, tp, syn, fin, rst, has, seq, ack, reply, id⟩ := q
  dsimp only at *
  by_cases hp : proto = 1
  · rw [if_pos hp] at h3
    subst hp
    go_enter Tryz.func32, Tryz.ntmps32
    go_wp2_with fail
    refine (h1.out _).mono ?_
    rintro e w1 ⟨rfl, rfl⟩
    cases b1
    · go_wp2_with fail
      go_ret
      exact ⟨by rw [HN.out]; rfl, hw.out⟩
    · skip
      go_wp2_with fail
      refine (h2.out _).mono ?_
      rintro e w1 ⟨rfl, rfl⟩
      cases b2
      · go_wp2_with fail
        go_ret
        exact ⟨by rw [HN.out]; rfl, hw.out⟩
      · skip
        go_wp2_with fail
        refine (h3.out _).mono ?_
        rintro e w1 ⟨rfl, rfl⟩
        cases b3
        · go_wp2_with fail
          go_ret
          exact ⟨by rw [HN.out]; rfl, hw.out⟩
        · skip
          go_wp2_with fail
          refine (h4.out _).mono ?_
          rintro e w1 ⟨rfl, rfl⟩
          cases b4
          · go_wp2_with fail
            go_ret
            exact ⟨by rw [HN.out]; rfl, hw.out⟩
          · skip
            go_wp2_with fail
            refine (h5.out _).mono ?_
            rintro e w1 ⟨rfl, rfl⟩
            cases b5
            · go_wp2_with fail
              go_ret
              exact ⟨by rw [HN.out]; rfl, hw.out⟩
            · go_wp2_with fail
              go_ret
              exact ⟨by rw [HN.out]; rfl, hw.out⟩
  · rw [if_neg hp] at h3
    go_enter Tryz.func32, Tryz.ntmps32
    go_wp2_with fail
    refine (h1.out _).mono ?_
    rintro e w1 ⟨rfl, rfl⟩
    cases b1
    · go_wp2_with fail
      go_ret
      exact ⟨by rw [HN.out]; rfl, hw.out⟩
    · skip
      go_wp2_with fail
      refine (h2.out _).mono ?_
      rintro e w1 ⟨rfl, rfl⟩
      cases b2
      · go_wp2_with fail
        go_ret
        exact ⟨by rw [HN.out]; rfl, hw.out⟩
      · skip
        go_wp2_with fail
        refine (h3.out _).mono ?_
        rintro e w1 ⟨rfl, rfl⟩
        cases b3
        · go_wp2_with fail
          go_ret
          exact ⟨by rw [HN.out]; rfl, hw.out⟩
        · skip
          go_wp2_with fail
          refine (h4.out _).mono ?_
          rintro e w1 ⟨rfl, rfl⟩
          cases b4
          · go_wp2_with fail
            go_ret
            exact ⟨by rw [HN.out]; rfl, hw.out⟩
          · skip
            go_wp2_with fail
            refine (h5.out _).mono ?_
            rintro e w1 ⟨rfl, rfl⟩
            cases b5
            · go_wp2_with fail
              go_ret
              exact ⟨by rw [HN.out]; rfl, hw.out⟩
            · go_wp2_with fail
              go_ret
              exact ⟨by rw [HN.out]; rfl, hw.out⟩

end Go.Proofs.YtijlahgmnpnmfaaGreatDoor
namespace Go.Proofs.YtijlahgmnpnmfaaGreatDoor
open Go.RowKit
set_option linter.unusedVariables false
set_option linter.unusedSimpArgs false

set_option maxHeartbeats 4000000 in
set_option maxRecDepth 100000 in
theorem fieldsFit_any (q : Pk) (v : Value) (w : World) (hk : q.proto = 1 ∨ q.proto = 6 ∨ q.proto = 17) :
    Calls Tryz.prog 33 #[pkV q v] w (GivesV (.bool (fldB q)) w) := by
  have hP := Blk.new w (pkL q v) 31
  have hw : Below w.heap.size w (w.alloc (.cells #[.bool q.fs, .int .u64 q.fh, .int .u64 q.fl, .bool q.ts, .int .u64 q.th, .int .u64 q.tl, .int .i64 q.hops, .int .i64 q.proto, .int .i64 q.fp, .int .i64 q.tp, .bool q.syn, .bool q.fin, .bool q.rst, .bool q.has, .int .i64 q.seq, .int .i64 q.ack, .bool q.reply, .int .i64 q.id, v] 31)) := (Below.refl _ _).alloc (Nat.le_refl _) _
  have HP := Lib.hid (show hpB q = (decide (q.fp ≠ 0) || decide (q.tp ≠ 0)) from rfl)
  have HT := Lib.hid (show htB q = (q.syn || (q.fin || (q.rst || (q.has || decide (q.ack ≠ 0))))) from rfl)
  have HI := Lib.hid (show hiB q = (q.reply || decide (q.id ≠ 0)) from rfl)
  have HF := Lib.hid (show fldB q = (!((hpB q && decide (q.proto = 1)) || ((htB q && !decide (q.proto = 6)) || (hiB q && !decide (q.proto = 1)))) && (!(decide (q.seq ≠ 0) && decide (q.proto = 17)) && (decide (q.ack = 0) || q.has))) from rfl)
  generalize hpB q = hp at HP HF
  generalize htB q = ht at HT HF
  generalize hiB q = hi at HI HF
  generalize fldB q = N at HF
  obtain ⟨fs, fh, fl, ts, th, tl, hops, proto, fp, tp, syn, fin, rst, has, seq, ack, reply, id⟩ := q
  dsimp only at *
  have k0 := hP.cell (i := 7) (v := .int .i64 proto) rfl
  go_enter Tryz.func33, Tryz.ntmps33
  go_wp2_with fail
  refine wb_begin ([w.heap.size]) [] (by kernel_rfl) (fun u0 hb0' hz0' => ?_)
  replace hP := hP.below hb0'
  replace hw := hw.trans (hb0'.mono hw.size)
  clear hb0' hz0' k0
  refine wb_pure (i := 0) (d := some 8) (v := ?_) (by simp only [List.getElem?_toArray, List.getElem?_cons_succ, List.getElem?_cons_zero] <;> rfl) (by rfl) (by kernel_rfl) (by kernel_rfl) (by kernel_rfl) (fun _ _ _ h => h) (by rfl) ?_ ?_
  rotate_left
  · ((intro u); go_simp; try with_reducible rfl)
  try simp only [Act.put, List.setIfInBounds_toArray, List.set_cons_zero, List.set_cons_succ]
  refine wb_take (i := 1) (d := some 9) (v := ?_) (by simp only [List.getElem?_toArray, List.getElem?_cons_succ, List.getElem?_cons_zero] <;> rfl) (by rfl) (by kernel_rfl) (by kernel_rfl) (by kernel_rfl) (fun _ _ _ h => h) (by rfl) (by kernel_rfl) ?_ ?_
  rotate_left
  · ((intro u hu); have k0 := (hP.kb hu (by simp)).cell (i := 7) (v := .int .i64 proto) rfl; go_simp; try with_reducible rfl)
  try simp only [Act.put, List.setIfInBounds_toArray, List.set_cons_zero, List.set_cons_succ]
  refine wb_pure (i := 2) (d := some 10) (v := ?_) (by simp only [List.getElem?_toArray, List.getElem?_cons_succ, List.getElem?_cons_zero] <;> rfl) (by rfl) (by kernel_rfl) (by kernel_rfl) (by kernel_rfl) (fun _ _ _ h => h) (by rfl) ?_ ?_
  rotate_left
  · ((intro u); go_simp; try with_reducible rfl)
  try simp only [Act.put, List.setIfInBounds_toArray, List.set_cons_zero, List.set_cons_succ]
  refine wb_pure (i := 3) (d := some 11) (v := ?_) (by simp only [List.getElem?_toArray, List.getElem?_cons_succ, List.getElem?_cons_zero] <;> rfl) (by rfl) (by kernel_rfl) (by kernel_rfl) (by kernel_rfl) (fun _ _ _ h => h) (by rfl) ?_ ?_
  rotate_left
  · ((intro u); go_simp; try with_reducible rfl)
  try simp only [Act.put, List.setIfInBounds_toArray, List.set_cons_zero, List.set_cons_succ]
  refine wb_take (i := 4) (d := some 12) (v := ?_) (by simp only [List.getElem?_toArray, List.getElem?_cons_succ, List.getElem?_cons_zero] <;> rfl) (by rfl) (by kernel_rfl) (by kernel_rfl) (by kernel_rfl) (fun _ _ _ h => h) (by rfl) (by kernel_rfl) ?_ ?_
  rotate_left
  · ((intro u hu); have k0 := (hP.kb hu (by simp)).cell (i := 7) (v := .int .i64 proto) rfl; go_simp; try with_reducible rfl)
  try simp only [Act.put, List.setIfInBounds_toArray, List.set_cons_zero, List.set_cons_succ]
  refine wb_pure (i := 5) (d := some 13) (v := ?_) (by simp only [List.getElem?_toArray, List.getElem?_cons_succ, List.getElem?_cons_zero] <;> rfl) (by rfl) (by kernel_rfl) (by kernel_rfl) (by kernel_rfl) (fun _ _ _ h => h) (by rfl) ?_ ?_
  rotate_left
  · ((intro u); go_simp; try with_reducible rfl)
  try simp only [Act.put, List.setIfInBounds_toArray, List.set_cons_zero, List.set_cons_succ]
  refine wb_pure (i := 6) (d := some 3) (v := ?_) (by simp only [List.getElem?_toArray, List.getElem?_cons_succ, List.getElem?_cons_zero] <;> rfl) (by rfl) (by kernel_rfl) (by kernel_rfl) (by kernel_rfl) (fun _ _ _ h => h) (by rfl) ?_ ?_
  rotate_left
  · ((intro u); go_simp; try with_reducible rfl)
  try simp only [Act.put, List.setIfInBounds_toArray, List.set_cons_zero, List.set_cons_succ]
  refine wb_pure (i := 7) (d := some 4) (v := ?_) (by simp only [List.getElem?_toArray, List.getElem?_cons_succ, List.getElem?_cons_zero] <;> rfl) (by rfl) (by kernel_rfl) (by kernel_rfl) (by kernel_rfl) (fun _ _ _ h => h) (by rfl) ?_ ?_
  rotate_left
  · ((intro u); go_simp; try with_reducible rfl)
  try simp only [Act.put, List.setIfInBounds_toArray, List.set_cons_zero, List.set_cons_succ]
  refine wb_done (by kernel_rfl) ?_ _
  skip
  obtain ⟨c0, c1, c2, c3, c4, c5, c6, c7, c8, c9, c10, c11, c12, c13, c14, c15, c16, c17, c18⟩ := hP.pk
  replace hw := Lib.hid hw
  clear hP
  obtain ⟨pT, hpT⟩ : ∃ b : Bool, b = decide (proto = 6) := ⟨_, rfl⟩
  obtain ⟨pI, hpI⟩ : ∃ b : Bool, b = decide (proto = 1) := ⟨_, rfl⟩
  go_upto_region 2 with fail
  go_cut [5] (fun s5 wx => s5 = .bool hp ∧ wx = u0)
  case first =>
    by_cases g0 : fp = 0
    · have e0 : (fp != 0) = false := by simp [g0]
      replace g0 := Lib.hid g0
      by_cases g1 : tp = 0
      · have e1 : (tp != 0) = false := by simp [g1]
        replace g1 := Lib.hid g1
        go_wp2_with fail
        go_meet
        exact ⟨by rw [HP.out, decide_eq_false (show ¬ (fp ≠ 0) from fun h => h g0.out), decide_eq_false (show ¬ (tp ≠ 0) from fun h => h g1.out)]; first | rfl | (simp; done), rfl⟩
      · have e1 : (tp != 0) = true := by simp [g1]
        replace g1 := Lib.hid g1
        go_wp2_with fail
        go_meet
        exact ⟨by rw [HP.out, decide_eq_false (show ¬ (fp ≠ 0) from fun h => h g0.out), decide_eq_true g1.out]; first | rfl | (simp; done), rfl⟩
    · have e0 : (fp != 0) = true := by simp [g0]
      replace g0 := Lib.hid g0
      go_wp2_with fail
      go_meet
      exact ⟨by rw [HP.out, decide_eq_true g0.out]; first | rfl | (simp; done), rfl⟩
  case rest =>
    obtain ⟨rfl, rfl⟩ := hcut
    go_upto_region 3 with fail
    go_cut [6] (fun s6 wx => s6 = .bool ht ∧ wx = wc)
    case first =>
      cases syn
      · skip
        cases fin
        · skip
          cases rst
          · skip
            cases has
            · skip
              by_cases g4 : ack = 0
              · have e4 : (ack != 0) = false := by simp [g4]
                replace g4 := Lib.hid g4
                go_wp2_with fail
                go_meet
                exact ⟨by rw [HT.out, decide_eq_false (show ¬ (ack ≠ 0) from fun h => h g4.out)]; first | rfl | (simp; done), rfl⟩
              · have e4 : (ack != 0) = true := by simp [g4]
                replace g4 := Lib.hid g4
                go_wp2_with fail
                go_meet
                exact ⟨by rw [HT.out, decide_eq_true g4.out]; first | rfl | (simp; done), rfl⟩
            · skip
              go_wp2_with fail
              go_meet
              exact ⟨by rw [HT.out]; first | rfl | (simp; done), rfl⟩
          · skip
            go_wp2_with fail
            go_meet
            exact ⟨by rw [HT.out]; first | rfl | (simp; done), rfl⟩
        · skip
          go_wp2_with fail
          go_meet
          exact ⟨by rw [HT.out]; first | rfl | (simp; done), rfl⟩
      · skip
        go_wp2_with fail
        go_meet
        exact ⟨by rw [HT.out]; first | rfl | (simp; done), rfl⟩
    case rest =>
      obtain ⟨rfl, rfl⟩ := hcut
      go_upto_region 4 with fail
      go_cut [7] (fun s7 wx => s7 = .bool hi ∧ wx = wc)
      case first =>
        cases reply
        · skip
          by_cases g1 : id = 0
          · have e1 : (id != 0) = false := by simp [g1]
            replace g1 := Lib.hid g1
            go_wp2_with fail
            go_meet
            exact ⟨by rw [HI.out, decide_eq_false (show ¬ (id ≠ 0) from fun h => h g1.out)]; first | rfl | (simp; done), rfl⟩
          · have e1 : (id != 0) = true := by simp [g1]
            replace g1 := Lib.hid g1
            go_wp2_with fail
            go_meet
            exact ⟨by rw [HI.out, decide_eq_true g1.out]; first | rfl | (simp; done), rfl⟩
        · skip
          go_wp2_with fail
          go_meet
          exact ⟨by rw [HI.out]; first | rfl | (simp; done), rfl⟩
      case rest =>
        obtain ⟨rfl, rfl⟩ := hcut
        clear HP HT HI hpT hpI
        have HS := Lib.hid (show ∀ b, (seq != 0) = b → decide (seq ≠ 0) = b from fun b h => by rw [← h]; by_cases e : seq = 0 <;> simp [e])
        have HA := Lib.hid (show ∀ b, (ack == 0) = b → decide (ack = 0) = b from fun b h => by rw [← h]; by_cases e : ack = 0 <;> simp [e])
        obtain ⟨bs, hbs⟩ : ∃ b, (seq != 0) = b := ⟨_, rfl⟩
        obtain ⟨ba, hba⟩ : ∃ b, (ack == 0) = b := ⟨_, rfl⟩
        replace HS := Lib.hid (HS.out bs hbs)
        replace HA := Lib.hid (HA.out ba hba)
        rcases hk with rfl | rfl | rfl <;> cases hp <;> cases ht <;> cases hi <;> cases bs <;> cases ba <;> cases has <;> (
          go_wp2_with fail
          go_ret
          exact ⟨by rw [HF.out, HS.out, HA.out]; rfl, hw.out⟩)
end Go.Proofs.YtijlahgmnpnmfaaGreatDoor
namespace Go.Proofs.YtijlahgmnpnmfaaGreatDoor
open Go.RowKit

/-- The load of a packet, as one step. -/
def ldPk (p : Value) : Sem Next := do
  let x ← Instr.loadAt 31 p
  pure (.value x)
@[go_sem ↓ high] theorem execOp_ldPk (ρ : Operand → Value) (dst : Option Tmp) (x : Operand) (ty : TypeId) (pos : String) (after : Array Edge) (guard : Option (Nat × Bool)) :
    execOp ρ ⟨dst, .load 31 x, ty, pos, after, guard⟩ = ldPk (ρ x) := rfl
@[go_sem high] theorem execOp_ldPk' (ρ : Operand → Value) (dst : Option Tmp) (x : Operand) (ty : TypeId) (pos : String) (after : Array Edge) (guard : Option (Nat × Bool)) :
    execOp ρ ⟨dst, .load 31 x, ty, pos, after, guard⟩ = ldPk (ρ x) := rfl
theorem ldPk_run {w : World} {p : Nat} {q : Pk} {v : Value} {t : TypeId} (h : Blk w p (pkL q v) t) : (ldPk (.pointer (some ⟨p, 0, none⟩))).run Tryz.prog w = .ok (.value (pkV q v)) w := by
  unfold ldPk
  have hl := run_loadVar_row (P := Tryz.prog) w p t 31 (pkL q v).toArray (0, 0) _ h Tryz.underlying31 rfl (by kernel_rfl)
  simp only [Instr.loadAt, Instr.sureAddr, Sem.run_bind, Sem.run_pure, Result.andThen_ok, hl]
end Go.Proofs.YtijlahgmnpnmfaaGreatDoor
namespace Go.Proofs.YtijlahgmnpnmfaaGreatDoor
open Go.RowKit
set_option linter.unusedVariables false
set_option linter.unusedSimpArgs false

theorem wrapU (x : Int) (h0 : 0 ≤ x) (h1 : x < 18446744073709551616) : IntKind.u64.wrap x = x := by rw [IntKind.wrap_u64]; omega
/-- Bytes are returned in a new row. -/
def GivesB (bs : List Nat) (w : World) (e : Ending) (w' : World) : Prop := ∃ v, e = .returned v ∧ Own w.heap.size w' v bs ∧ Below w.heap.size w w'

theorem kind_any (six reply : Bool) (w : World) :
    Calls Tryz.prog 119 #[.bool six, .bool reply] w fun e w' => e = .returned (.int .u8 ((if six then (if reply then 129 else 128) else (if reply then 0 else 8) : Nat) : Int)) ∧ w = w' := by
  cases six <;> cases reply <;> (
    go_enter Tryz.func119, Tryz.ntmps119
    go_wp2_with fail
    go_ret
    exact ⟨rfl, rfl⟩)
/-- The number of a protocol beside addresses. -/
def codeN (p : Int) (six : Bool) : Int := if six = true ∧ p = 1 then 58 else p
theorem proto_any (p : Int) (six : Bool) (w : World) :
    Calls Tryz.prog 37 #[.int .i64 p, .bool six] w fun e w' => e = .returned (.int .i64 (codeN p six)) ∧ w = w' := by
  cases six
  · go_enter Tryz.func37, Tryz.ntmps37
    go_wp2_with fail
    go_ret
    exact ⟨by simp [codeN], rfl⟩
  · by_cases h : p = 1
    · have hc := Lib.hid (show codeN p true = 58 from if_pos ⟨rfl, h⟩)
      subst h
      go_enter Tryz.func37, Tryz.ntmps37
      go_wp2_with fail
      go_ret
      exact ⟨by rw [hc.out]; rfl, rfl⟩
    · have hc := Lib.hid (show codeN p true = p from if_neg (fun x => h x.2))
      have e : (p == 1) = false := by simp [h]
      replace h := Lib.hid h
      go_enter Tryz.func37, Tryz.ntmps37
      go_wp2_with fail
      go_ret
      exact ⟨by rw [hc.out]; rfl, rfl⟩
/-- The flags as a number. -/
def flgN (q : Pk) : Nat := (if q.fin then 1 else 0) + (if q.syn then 2 else 0) + (if q.rst then 4 else 0) + (if q.has then 16 else 0)
theorem add_any (b : Bool) (bit x : Int) (g : Nat) (w : World) (t : TypeId) (hc : Blk w g [.int .i64 x] t) :
    Calls Tryz.prog 194 #[.bool b, .int .i64 bit, .pointer (some ⟨g, 0, none⟩)] w fun e w' => e = .returned (.tuple #[]) ∧ Blk w' g [.int .i64 (if b then bits .or .i64 x bit else x)] t ∧ Below g w w' := by
  have c0 := hc.cell (i := 0) (v := .int .i64 x) rfl
  have f0 := hc.free 0
  cases b
  · go_enter Tryz.func194, Tryz.ntmps194
    go_wp2_with fail
    go_end0
    exact ⟨rfl, hc, Below.refl _ _⟩
  · have hs := Lib.hid (hc.set 0 (.int .i64 (bits .or .i64 x bit)))
    have hb := Lib.hid ((Below.refl g w).setCell (p := ⟨g, 0, none⟩) (Nat.le_refl _) (.int .i64 (bits .or .i64 x bit)))
    clear hc
    go_enter Tryz.func194, Tryz.ntmps194
    go_wp2_with fail
    go_end0
    exact ⟨rfl, hs.out, hb.out⟩

set_option maxHeartbeats 2000000 in
set_option maxRecDepth 100000 in
theorem portBytes_any (q : Pk) (v : Value) (pb : Nat) (w : World) (hP : Blk w pb (pkL q v) 31) (hr : 0 ≤ q.fp ∧ q.fp ≤ 65535 ∧ 0 ≤ q.tp ∧ q.tp ≤ 65535) :
    Calls Tryz.prog 115 #[.pointer (some ⟨pb, 0, none⟩)] w (GivesB (be q.fp.toNat 2 ++ be q.tp.toNat 2) w) := by
  have hpb := hP.lt
  have hw := Below.refl w.heap.size w
  obtain ⟨fs, fh, fl, ts, th, tl, hops, proto, fp, tp, syn, fin, rst, has, seq, ack, reply, id⟩ := q
  dsimp only at *
  have hfp0 := hr.1
  have hfp1 := hr.2.1
  have htp0 := hr.2.2.1
  have htp1 := hr.2.2.2
  have wfp := wrapU fp hfp0 (by omega)
  have wtp := wrapU tp htp0 (by omega)
  replace hr := Lib.hid hr
  go_enter Tryz.func115, Tryz.ntmps115
  go_wp2_with fail
  refine wb_begin ([pb]) [] (by kernel_rfl) (fun u0 hb0' hz0' => ?_)
  replace hP := hP.below hb0'
  replace hw := hw.trans (hb0'.mono hw.size)
  clear hb0' hz0'
  refine wb_pure (i := 0) (d := some 3) (v := ?_) (by simp only [List.getElem?_toArray, List.getElem?_cons_succ, List.getElem?_cons_zero] <;> rfl) (by rfl) (by kernel_rfl) (by kernel_rfl) (by kernel_rfl) (fun _ _ _ h => h) (by rfl) ?_ ?_
  rotate_left
  · ((intro u); go_simp; try with_reducible rfl)
  try simp only [Act.put, List.setIfInBounds_toArray, List.set_cons_zero, List.set_cons_succ]
  refine wb_pure (i := 1) (d := some 4) (v := ?_) (by simp only [List.getElem?_toArray, List.getElem?_cons_succ, List.getElem?_cons_zero] <;> rfl) (by rfl) (by kernel_rfl) (by kernel_rfl) (by kernel_rfl) (fun _ _ _ h => h) (by rfl) ?_ ?_
  rotate_left
  · ((intro u); go_simp; try with_reducible rfl)
  try simp only [Act.put, List.setIfInBounds_toArray, List.set_cons_zero, List.set_cons_succ]
  refine wb_pure (i := 2) (d := some 5) (v := ?_) (by simp only [List.getElem?_toArray, List.getElem?_cons_succ, List.getElem?_cons_zero] <;> rfl) (by rfl) (by kernel_rfl) (by kernel_rfl) (by kernel_rfl) (fun _ _ _ h => h) (by rfl) ?_ ?_
  rotate_left
  · ((intro u); go_simp; try with_reducible rfl)
  try simp only [Act.put, List.setIfInBounds_toArray, List.set_cons_zero, List.set_cons_succ]
  refine wb_take (i := 3) (d := some 6) (v := ?_) (by simp only [List.getElem?_toArray, List.getElem?_cons_succ, List.getElem?_cons_zero] <;> rfl) (by rfl) (by kernel_rfl) (by kernel_rfl) (by kernel_rfl) (fun _ _ _ h => h) (by rfl) (by kernel_rfl) ?_ ?_
  rotate_left
  · ((intro u hu); have k8 := (hP.kb hu (by simp)).cell (i := 8) (v := .int .i64 fp) rfl; have k9 := (hP.kb hu (by simp)).cell (i := 9) (v := .int .i64 tp) rfl; go_simp; try with_reducible rfl)
  try simp only [Act.put, List.setIfInBounds_toArray, List.set_cons_zero, List.set_cons_succ]
  refine wb_pure (i := 4) (d := some 7) (v := ?_) (by simp only [List.getElem?_toArray, List.getElem?_cons_succ, List.getElem?_cons_zero] <;> rfl) (by rfl) (by kernel_rfl) (by kernel_rfl) (by kernel_rfl) (fun _ _ _ h => h) (by rfl) ?_ ?_
  rotate_left
  · ((intro u); go_simp; try with_reducible rfl)
  try simp only [Act.put, List.setIfInBounds_toArray, List.set_cons_zero, List.set_cons_succ]
  refine wb_pure (i := 6) (d := some 9) (v := ?_) (by simp only [List.getElem?_toArray, List.getElem?_cons_succ, List.getElem?_cons_zero] <;> rfl) (by rfl) (by kernel_rfl) (by kernel_rfl) (by kernel_rfl) (fun _ _ _ h => h) (by rfl) ?_ ?_
  rotate_left
  · ((intro u); go_simp; try with_reducible rfl)
  try simp only [Act.put, List.setIfInBounds_toArray, List.set_cons_zero, List.set_cons_succ]
  refine wb_pure (i := 7) (d := some 10) (v := ?_) (by simp only [List.getElem?_toArray, List.getElem?_cons_succ, List.getElem?_cons_zero] <;> rfl) (by rfl) (by kernel_rfl) (by kernel_rfl) (by kernel_rfl) (fun _ _ _ h => h) (by rfl) ?_ ?_
  rotate_left
  · ((intro u); go_simp; try with_reducible rfl)
  try simp only [Act.put, List.setIfInBounds_toArray, List.set_cons_zero, List.set_cons_succ]
  refine wb_pure (i := 8) (d := some 11) (v := ?_) (by simp only [List.getElem?_toArray, List.getElem?_cons_succ, List.getElem?_cons_zero] <;> rfl) (by rfl) (by kernel_rfl) (by kernel_rfl) (by kernel_rfl) (fun _ _ _ h => h) (by rfl) ?_ ?_
  rotate_left
  · ((intro u); go_simp; try with_reducible rfl)
  try simp only [Act.put, List.setIfInBounds_toArray, List.set_cons_zero, List.set_cons_succ]
  refine wb_take (i := 9) (d := some 12) (v := ?_) (by simp only [List.getElem?_toArray, List.getElem?_cons_succ, List.getElem?_cons_zero] <;> rfl) (by rfl) (by kernel_rfl) (by kernel_rfl) (by kernel_rfl) (fun _ _ _ h => h) (by rfl) (by kernel_rfl) ?_ ?_
  rotate_left
  · ((intro u hu); have k8 := (hP.kb hu (by simp)).cell (i := 8) (v := .int .i64 fp) rfl; have k9 := (hP.kb hu (by simp)).cell (i := 9) (v := .int .i64 tp) rfl; go_simp; try with_reducible rfl)
  try simp only [Act.put, List.setIfInBounds_toArray, List.set_cons_zero, List.set_cons_succ]
  refine wb_pure (i := 10) (d := some 13) (v := ?_) (by simp only [List.getElem?_toArray, List.getElem?_cons_succ, List.getElem?_cons_zero] <;> rfl) (by rfl) (by kernel_rfl) (by kernel_rfl) (by kernel_rfl) (fun _ _ _ h => h) (by rfl) ?_ ?_
  rotate_left
  · ((intro u); go_simp; try with_reducible rfl)
  try simp only [Act.put, List.setIfInBounds_toArray, List.set_cons_zero, List.set_cons_succ]
  refine wb_one (i := 5) (by simp only [List.getElem?_toArray, List.getElem?_cons_succ, List.getElem?_cons_zero] <;> rfl) (by kernel_rfl) (by rfl) (fun K hK => ?_)
  go_simp
  refine (number_own w.heap.size 2 _ [] fp _ (Own.nil _ _) hw.size (by simp [be_len]) (by omega) hr.out.1 (by have := hr.out.2.1; omega)).mono ?_
  rintro e u5 ⟨v5, rfl, o5, hv5, hf5⟩
  refine hK.out _ _ (Kb.below hv5 (by intro p hp; rw [List.mem_singleton.1 hp]; exact hpb)) ?_
  replace hP := hP.upB hpb hv5
  replace hw := hw.trans hv5
  clear hK K hv5 hf5
  try simp only [Act.put, List.setIfInBounds_toArray, List.set_cons_zero, List.set_cons_succ]
  refine wb_one (i := 11) (by simp only [List.getElem?_toArray, List.getElem?_cons_succ, List.getElem?_cons_zero] <;> rfl) (by kernel_rfl) (by rfl) (fun K hK => ?_)
  go_simp
  refine (number_own w.heap.size 2 _ _ tp _ o5 hw.size (by simp [be_len]) (by omega) hr.out.2.2.1 (by have := hr.out.2.2.2; omega)).mono ?_
  rintro e u11 ⟨v11, rfl, o11, hv11, hf11⟩
  refine hK.out _ _ (Kb.below hv11 (by intro p hp; rw [List.mem_singleton.1 hp]; exact hpb)) ?_
  replace hP := hP.upB hpb hv11
  replace hw := hw.trans hv11
  clear hK K hv11 hf11
  try simp only [Act.put, List.setIfInBounds_toArray, List.set_cons_zero, List.set_cons_succ]
  refine wb_pure (i := 12) (d := some 2) (v := ?_) (by simp only [List.getElem?_toArray, List.getElem?_cons_succ, List.getElem?_cons_zero] <;> rfl) (by rfl) (by kernel_rfl) (by kernel_rfl) (by kernel_rfl) (fun _ _ _ h => h) (by rfl) ?_ ?_
  rotate_left
  · ((intro u); go_simp; try with_reducible rfl)
  try simp only [Act.put, List.setIfInBounds_toArray, List.set_cons_zero, List.set_cons_succ]
  refine wb_done (by kernel_rfl) ?_ _
  go_wp2_with fail
  go_ret
  exact ⟨_, rfl, o11, hw⟩
end Go.Proofs.YtijlahgmnpnmfaaGreatDoor
