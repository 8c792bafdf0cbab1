/- Packets: what is summed ahead of a part, and the sum. -/
import Derived.Test.YtigbbpgfblnboaaPkM
namespace Go.Proofs.Ytigbbpgfblnboaa
open Go.RowKit
set_option linter.unusedVariables false
set_option linter.unusedSimpArgs false

/-- A packet's numbers are those that a right one has. -/
structure PkOk (q : Pk) : Prop where
  f : Wd q.fh q.fl
  t : Wd q.th q.tl
  hops0 : 0 ≤ q.hops
  hops1 : q.hops ≤ 255
  proto : q.proto = 1 ∨ q.proto = 6 ∨ q.proto = 17
  fp0 : 0 ≤ q.fp
  fp1 : q.fp ≤ 65535
  tp0 : 0 ≤ q.tp
  tp1 : q.tp ≤ 65535
  seq0 : 0 ≤ q.seq
  seq1 : q.seq ≤ 4294967295
  seqI : q.proto = 1 → q.seq ≤ 65535
  ack0 : 0 ≤ q.ack
  ack1 : q.ack ≤ 4294967295
  id0 : 0 ≤ q.id
  id1 : q.id ≤ 65535
  six : q.fs = q.ts
theorem codeN_in {p : Int} {s : Bool} (h : p = 1 ∨ p = 6 ∨ p = 17) : 0 ≤ codeN p s ∧ codeN p s < 256 := by
  unfold codeN; split <;> omega
/-- What is summed ahead of a part of n bytes. -/
def aheadL (q : Pk) (n : Int) : List Nat :=
  if q.fs then adB q.fs q.fh q.fl ++ adB q.ts q.th q.tl ++ be n.toNat 4 ++ be (codeN q.proto q.fs).toNat 4
  else if q.proto = 1 then [] else adB q.fs q.fh q.fl ++ adB q.ts q.th q.tl ++ be (codeN q.proto q.fs).toNat 2 ++ be n.toNat 2

set_option maxHeartbeats 4000000 in
set_option maxRecDepth 100000 in
theorem ahead_any (q : Pk) (v : Value) (pb : Nat) (len : Int) (w : World) (hP : Blk w pb (pkL q v) 45) (hq : PkOk q) (hl0 : 0 ≤ len) (hl1 : len ≤ 65535) :
    Calls Try.prog 96 #[.pointer (some ⟨pb, 0, none⟩), .int .i64 len] w (GivesB (aheadL q len) w) := by
  have hpb := hP.lt
  have hw := Below.refl w.heap.size w
  have hr := Lib.hid (And.intro hq.f hq.t)
  obtain ⟨hc0, hc1⟩ := codeN_in (s := q.fs) hq.proto
  have HL := Lib.hid (show aheadL q len = if q.fs then adB q.fs q.fh q.fl ++ adB q.ts q.th q.tl ++ be len.toNat 4 ++ be (codeN q.proto q.fs).toNat 4
    else if q.proto = 1 then [] else adB q.fs q.fh q.fl ++ adB q.ts q.th q.tl ++ be (codeN q.proto q.fs).toNat 2 ++ be len.toNat 2 from rfl)
  generalize aheadL q len = LL at HL ⊢
  clear hq
  obtain ⟨fs, fh, fl, ts, th, tl, hops, proto, fp, tp, syn, fin, rst, has, seq, ack, reply, id⟩ := q
  dsimp only at *
  generalize hcd : codeN proto fs = cd at hc0 hc1 HL
  replace hcd := Lib.hid hcd
  have wcd := wrapU cd hc0 (by omega)
  have wlen := wrapU len hl0 (by omega)
  go_enter Try.func96, Try.ntmps96
  go_wp2_with fail
  refine wb_begin ([pb]) [] (by kernel_rfl) (fun u0 hb0' hz0' => ?_)
  replace hP := hP.below hb0'
  replace hw := hw.trans (hb0'.mono hw.size)
  clear hb0' hz0'
  refine wb_pure (i := 0) (d := some 7) (v := ?_) (by simp only [List.getElem?_toArray, List.getElem?_cons_succ, List.getElem?_cons_zero] <;> rfl) (by rfl) (by kernel_rfl) (by kernel_rfl) (by kernel_rfl) (fun _ _ _ h => h) (by rfl) ?_ ?_
  rotate_left
  · ((intro u); go_simp; try with_reducible rfl)
  try simp only [Act.put, List.setIfInBounds_toArray, List.set_cons_zero, List.set_cons_succ]
  refine wb_pure (i := 1) (d := some 8) (v := ?_) (by simp only [List.getElem?_toArray, List.getElem?_cons_succ, List.getElem?_cons_zero] <;> rfl) (by rfl) (by kernel_rfl) (by kernel_rfl) (by kernel_rfl) (fun _ _ _ h => h) (by rfl) ?_ ?_
  rotate_left
  · ((intro u); go_simp; try with_reducible rfl)
  try simp only [Act.put, List.setIfInBounds_toArray, List.set_cons_zero, List.set_cons_succ]
  refine wb_pure (i := 2) (d := some 9) (v := ?_) (by simp only [List.getElem?_toArray, List.getElem?_cons_succ, List.getElem?_cons_zero] <;> rfl) (by rfl) (by kernel_rfl) (by kernel_rfl) (by kernel_rfl) (fun _ _ _ h => h) (by rfl) ?_ ?_
  rotate_left
  · ((intro u); go_simp; try with_reducible rfl)
  try simp only [Act.put, List.setIfInBounds_toArray, List.set_cons_zero, List.set_cons_succ]
  refine wb_take (i := 3) (d := some 10) (v := ?_) (by simp only [List.getElem?_toArray, List.getElem?_cons_succ, List.getElem?_cons_zero] <;> rfl) (by rfl) (by kernel_rfl) (by kernel_rfl) (by kernel_rfl) (fun _ _ _ h => h) (by rfl) (by kernel_rfl) ?_ ?_
  rotate_left
  · ((intro u hu); have k7 := (hP.kb hu (by simp)).cell (i := 7) (v := .int .i64 proto) rfl; have k0 := (hP.kb hu (by simp)).cell (i := 0) (v := .bool fs) rfl; go_simp; try with_reducible rfl)
  try simp only [Act.put, List.setIfInBounds_toArray, List.set_cons_zero, List.set_cons_succ]
  refine wb_pure (i := 4) (d := some 11) (v := ?_) (by simp only [List.getElem?_toArray, List.getElem?_cons_succ, List.getElem?_cons_zero] <;> rfl) (by rfl) (by kernel_rfl) (by kernel_rfl) (by kernel_rfl) (fun _ _ _ h => h) (by rfl) ?_ ?_
  rotate_left
  · ((intro u); go_simp; try with_reducible rfl)
  try simp only [Act.put, List.setIfInBounds_toArray, List.set_cons_zero, List.set_cons_succ]
  refine wb_pure (i := 5) (d := some 12) (v := ?_) (by simp only [List.getElem?_toArray, List.getElem?_cons_succ, List.getElem?_cons_zero] <;> rfl) (by rfl) (by kernel_rfl) (by kernel_rfl) (by kernel_rfl) (fun _ _ _ h => h) (by rfl) ?_ ?_
  rotate_left
  · ((intro u); go_simp; try with_reducible rfl)
  try simp only [Act.put, List.setIfInBounds_toArray, List.set_cons_zero, List.set_cons_succ]
  refine wb_pure (i := 6) (d := some 13) (v := ?_) (by simp only [List.getElem?_toArray, List.getElem?_cons_succ, List.getElem?_cons_zero] <;> rfl) (by rfl) (by kernel_rfl) (by kernel_rfl) (by kernel_rfl) (fun _ _ _ h => h) (by rfl) ?_ ?_
  rotate_left
  · ((intro u); go_simp; try with_reducible rfl)
  try simp only [Act.put, List.setIfInBounds_toArray, List.set_cons_zero, List.set_cons_succ]
  refine wb_pure (i := 7) (d := some 14) (v := ?_) (by simp only [List.getElem?_toArray, List.getElem?_cons_succ, List.getElem?_cons_zero] <;> rfl) (by rfl) (by kernel_rfl) (by kernel_rfl) (by kernel_rfl) (fun _ _ _ h => h) (by rfl) ?_ ?_
  rotate_left
  · ((intro u); go_simp; try with_reducible rfl)
  try simp only [Act.put, List.setIfInBounds_toArray, List.set_cons_zero, List.set_cons_succ]
  refine wb_take (i := 8) (d := some 15) (v := ?_) (by simp only [List.getElem?_toArray, List.getElem?_cons_succ, List.getElem?_cons_zero] <;> rfl) (by rfl) (by kernel_rfl) (by kernel_rfl) (by kernel_rfl) (fun _ _ _ h => h) (by rfl) (by kernel_rfl) ?_ ?_
  rotate_left
  · ((intro u hu); have k7 := (hP.kb hu (by simp)).cell (i := 7) (v := .int .i64 proto) rfl; have k0 := (hP.kb hu (by simp)).cell (i := 0) (v := .bool fs) rfl; go_simp; try with_reducible rfl)
  try simp only [Act.put, List.setIfInBounds_toArray, List.set_cons_zero, List.set_cons_succ]
  refine wb_one (i := 9) (by simp only [List.getElem?_toArray, List.getElem?_cons_succ, List.getElem?_cons_zero] <;> rfl) (by kernel_rfl) (by rfl) (fun K hK => ?_)
  go_simp
  refine (proto_any proto fs _).mono ?_
  rintro e u9 ⟨rfl, rfl⟩
  rw [hcd.out]
  refine hK.out _ _ (Kb.refl _ _) ?_
  clear hK K
  try simp only [Act.put, List.setIfInBounds_toArray, List.set_cons_zero, List.set_cons_succ]
  refine wb_pure (i := 10) (d := some 17) (v := ?_) (by simp only [List.getElem?_toArray, List.getElem?_cons_succ, List.getElem?_cons_zero] <;> rfl) (by rfl) (by kernel_rfl) (by kernel_rfl) (by kernel_rfl) (fun _ _ _ h => h) (by rfl) ?_ ?_
  rotate_left
  · ((intro u); go_simp; try with_reducible rfl)
  try simp only [Act.put, List.setIfInBounds_toArray, List.set_cons_zero, List.set_cons_succ]
  refine wb_pure (i := 11) (d := some 5) (v := ?_) (by simp only [List.getElem?_toArray, List.getElem?_cons_succ, List.getElem?_cons_zero] <;> rfl) (by rfl) (by kernel_rfl) (by kernel_rfl) (by kernel_rfl) (fun _ _ _ h => h) (by rfl) ?_ ?_
  rotate_left
  · ((intro u); go_simp; try with_reducible rfl)
  try simp only [Act.put, List.setIfInBounds_toArray, List.set_cons_zero, List.set_cons_succ]
  refine wb_done (by kernel_rfl) ?_ _
  skip
  go_wp2_with fail
  refine wb_begin ([pb]) [] (by kernel_rfl) (fun u0 hb0' hz0' => ?_)
  replace hP := hP.below hb0'
  replace hw := hw.trans (hb0'.mono hw.size)
  clear hb0' hz0'
  refine wb_pure (i := 0) (d := some 18) (v := ?_) (by simp only [List.getElem?_toArray, List.getElem?_cons_succ, List.getElem?_cons_zero] <;> rfl) (by rfl) (by kernel_rfl) (by kernel_rfl) (by kernel_rfl) (fun _ _ _ h => h) (by rfl) ?_ ?_
  rotate_left
  · ((intro u); go_simp; try with_reducible rfl)
  try simp only [Act.put, List.setIfInBounds_toArray, List.set_cons_zero, List.set_cons_succ]
  refine wb_pure (i := 1) (d := some 19) (v := ?_) (by simp only [List.getElem?_toArray, List.getElem?_cons_succ, List.getElem?_cons_zero] <;> rfl) (by rfl) (by kernel_rfl) (by kernel_rfl) (by kernel_rfl) (fun _ _ _ h => h) (by rfl) ?_ ?_
  rotate_left
  · ((intro u); go_simp; try with_reducible rfl)
  try simp only [Act.put, List.setIfInBounds_toArray, List.set_cons_zero, List.set_cons_succ]
  refine wb_pure (i := 2) (d := some 20) (v := ?_) (by simp only [List.getElem?_toArray, List.getElem?_cons_succ, List.getElem?_cons_zero] <;> rfl) (by rfl) (by kernel_rfl) (by kernel_rfl) (by kernel_rfl) (fun _ _ _ h => h) (by rfl) ?_ ?_
  rotate_left
  · ((intro u); go_simp; try with_reducible rfl)
  try simp only [Act.put, List.setIfInBounds_toArray, List.set_cons_zero, List.set_cons_succ]
  refine wb_take (i := 3) (d := some 21) (v := ?_) (by simp only [List.getElem?_toArray, List.getElem?_cons_succ, List.getElem?_cons_zero] <;> rfl) (by rfl) (by kernel_rfl) (by kernel_rfl) (by kernel_rfl) (fun _ _ _ h => h) (by rfl) (by kernel_rfl) ?_ ?_
  rotate_left
  · ((intro u hu); have k0 := (hP.kb hu (by simp)).cell (i := 0) (v := .bool fs) rfl; have k1 := (hP.kb hu (by simp)).cell (i := 1) (v := .int .u64 fh) rfl; have k2 := (hP.kb hu (by simp)).cell (i := 2) (v := .int .u64 fl) rfl; have k3 := (hP.kb hu (by simp)).cell (i := 3) (v := .bool ts) rfl; have k4 := (hP.kb hu (by simp)).cell (i := 4) (v := .int .u64 th) rfl; have k5 := (hP.kb hu (by simp)).cell (i := 5) (v := .int .u64 tl) rfl; go_simp; try with_reducible rfl)
  try simp only [Act.put, List.setIfInBounds_toArray, List.set_cons_zero, List.set_cons_succ]
  refine wb_pure (i := 5) (d := some 23) (v := ?_) (by simp only [List.getElem?_toArray, List.getElem?_cons_succ, List.getElem?_cons_zero] <;> rfl) (by rfl) (by kernel_rfl) (by kernel_rfl) (by kernel_rfl) (fun _ _ _ h => h) (by rfl) ?_ ?_
  rotate_left
  · ((intro u); go_simp; try with_reducible rfl)
  try simp only [Act.put, List.setIfInBounds_toArray, List.set_cons_zero, List.set_cons_succ]
  refine wb_pure (i := 6) (d := some 24) (v := ?_) (by simp only [List.getElem?_toArray, List.getElem?_cons_succ, List.getElem?_cons_zero] <;> rfl) (by rfl) (by kernel_rfl) (by kernel_rfl) (by kernel_rfl) (fun _ _ _ h => h) (by rfl) ?_ ?_
  rotate_left
  · ((intro u); go_simp; try with_reducible rfl)
  try simp only [Act.put, List.setIfInBounds_toArray, List.set_cons_zero, List.set_cons_succ]
  refine wb_pure (i := 7) (d := some 25) (v := ?_) (by simp only [List.getElem?_toArray, List.getElem?_cons_succ, List.getElem?_cons_zero] <;> rfl) (by rfl) (by kernel_rfl) (by kernel_rfl) (by kernel_rfl) (fun _ _ _ h => h) (by rfl) ?_ ?_
  rotate_left
  · ((intro u); go_simp; try with_reducible rfl)
  try simp only [Act.put, List.setIfInBounds_toArray, List.set_cons_zero, List.set_cons_succ]
  refine wb_take (i := 8) (d := some 26) (v := ?_) (by simp only [List.getElem?_toArray, List.getElem?_cons_succ, List.getElem?_cons_zero] <;> rfl) (by rfl) (by kernel_rfl) (by kernel_rfl) (by kernel_rfl) (fun _ _ _ h => h) (by rfl) (by kernel_rfl) ?_ ?_
  rotate_left
  · ((intro u hu); have k0 := (hP.kb hu (by simp)).cell (i := 0) (v := .bool fs) rfl; have k1 := (hP.kb hu (by simp)).cell (i := 1) (v := .int .u64 fh) rfl; have k2 := (hP.kb hu (by simp)).cell (i := 2) (v := .int .u64 fl) rfl; have k3 := (hP.kb hu (by simp)).cell (i := 3) (v := .bool ts) rfl; have k4 := (hP.kb hu (by simp)).cell (i := 4) (v := .int .u64 th) rfl; have k5 := (hP.kb hu (by simp)).cell (i := 5) (v := .int .u64 tl) rfl; go_simp; try with_reducible rfl)
  try simp only [Act.put, List.setIfInBounds_toArray, List.set_cons_zero, List.set_cons_succ]
  refine wb_one (i := 4) (by simp only [List.getElem?_toArray, List.getElem?_cons_succ, List.getElem?_cons_zero] <;> rfl) (by kernel_rfl) (by rfl) (fun K hK => ?_)
  go_simp
  refine (addrBytesP_any w.heap.size _ [] fs fh fl _ hr.out.1 (Own.nil _ _) hw.size (by simp)).mono ?_
  rintro e u4 ⟨v4, rfl, o4, hv4, hf4⟩
  refine hK.out _ _ (Kb.below hv4 (by intro p hp; rw [List.mem_singleton.1 hp]; exact hpb)) ?_
  replace hP := hP.upB hpb hv4
  replace hw := hw.trans hv4
  clear hK K hv4 hf4
  try simp only [Act.put, List.setIfInBounds_toArray, List.set_cons_zero, List.set_cons_succ]
  refine wb_one (i := 9) (by simp only [List.getElem?_toArray, List.getElem?_cons_succ, List.getElem?_cons_zero] <;> rfl) (by kernel_rfl) (by rfl) (fun K hK => ?_)
  go_simp
  refine (addrBytesP_any w.heap.size _ _ ts th tl _ hr.out.2 o4 hw.size (by have := adB_len fs fh fl; simp; omega)).mono ?_
  rintro e u9 ⟨v9, rfl, o9, hv9, hf9⟩
  refine hK.out _ _ (Kb.below hv9 (by intro p hp; rw [List.mem_singleton.1 hp]; exact hpb)) ?_
  replace hP := hP.upB hpb hv9
  replace hw := hw.trans hv9
  clear hK K hv9 hf9
  try simp only [Act.put, List.setIfInBounds_toArray, List.set_cons_zero, List.set_cons_succ]
  refine wb_pure (i := 10) (d := some 6) (v := ?_) (by simp only [List.getElem?_toArray, List.getElem?_cons_succ, List.getElem?_cons_zero] <;> rfl) (by rfl) (by kernel_rfl) (by kernel_rfl) (by kernel_rfl) (fun _ _ _ h => h) (by rfl) ?_ ?_
  rotate_left
  · ((intro u); go_simp; try with_reducible rfl)
  try simp only [Act.put, List.setIfInBounds_toArray, List.set_cons_zero, List.set_cons_succ]
  refine wb_done (by kernel_rfl) ?_ _
  skip
  have c0 := hP.cell (i := 0) (v := .bool fs) rfl
  have c7 := hP.cell (i := 7) (v := .int .i64 proto) rfl
  replace hP := Lib.hid hP
  clear o4 hr
  cases fs
  · by_cases h : proto = 1
    · replace HL := Lib.hid (HL.out.trans ((if_neg (by simp)).trans (if_pos h)))
      have e : (proto == 1) = true := by simp [h]
      replace h := Lib.hid h
      go_wp2_with fail
      go_ret
      exact ⟨_, rfl, by rw [HL.out]; exact Own.nil _ _, hw⟩
    · replace HL := Lib.hid (HL.out.trans ((if_neg (by simp)).trans (if_neg h)))
      have e : (proto == 1) = false := by simp [h]
      replace h := Lib.hid h
      go_wp2_with fail
      refine (number_own w.heap.size 2 _ _ cd _ o9 hw.size (by have := adB_len false fh fl; have := adB_len ts th tl; simp [be_len]; omega) (by omega) hc0 (by omega)).mono ?_
      rintro e u48 ⟨v48, rfl, o48, hv48, hf48⟩
      replace hw := hw.trans hv48
      clear hv48 hf48 o9
      go_wp2_with fail
      refine (number_own w.heap.size 2 _ _ len _ o48 hw.size (by have := adB_len false fh fl; have := adB_len ts th tl; simp [be_len]; omega) (by omega) hl0 (by omega)).mono ?_
      rintro e u51 ⟨v51, rfl, o51, hv51, hf51⟩
      replace hw := hw.trans hv51
      clear hv51 hf51 o48

      go_wp2_with fail
      go_ret
      exact ⟨_, rfl, by rw [HL.out]; exact o51, hw⟩
  · replace HL := Lib.hid (HL.out.trans (if_pos rfl))
    go_wp2_with fail
    refine (number_own w.heap.size 4 _ _ len _ o9 hw.size (by have := adB_len true fh fl; have := adB_len ts th tl; simp [be_len]; omega) (by omega) hl0 (by omega)).mono ?_
    rintro e u37 ⟨v37, rfl, o37, hv37, hf37⟩
    replace hw := hw.trans hv37
    clear hv37 hf37 o9
    go_wp2_with fail
    refine (number_own w.heap.size 4 _ _ cd _ o37 hw.size (by have := adB_len true fh fl; have := adB_len ts th tl; simp [be_len]; omega) (by omega) hc0 (by omega)).mono ?_
    rintro e u39 ⟨v39, rfl, o39, hv39, hf39⟩
    replace hw := hw.trans hv39
    clear hv39 hf39 o37

    go_wp2_with fail
    go_ret
    exact ⟨_, rfl, by rw [HL.out]; exact o39, hw⟩
end Go.Proofs.Ytigbbpgfblnboaa
