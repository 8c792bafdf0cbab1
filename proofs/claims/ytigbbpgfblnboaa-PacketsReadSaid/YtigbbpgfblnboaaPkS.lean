/- Packets: FlowOf; equal bytes. -/
import Derived.Test.YtigbbpgfblnboaaPkR
namespace Go.Proofs.Ytigbbpgfblnboaa
open Go.RowKit
set_option linter.unusedVariables false
set_option linter.unusedSimpArgs false

theorem Blk.nineP {w : World} {p : Nat} {x0 x1 x2 x3 x4 x5 x6 x7 x8 : Value} {t : TypeId} (h : Blk w p [x0, x1, x2, x3, x4, x5, x6, x7, x8] t) :
    w.cell? ⟨p, 0, none⟩ = some x0 ∧ w.cell? ⟨p, 1, none⟩ = some x1 ∧ w.cell? ⟨p, 2, none⟩ = some x2 ∧ w.cell? ⟨p, 3, none⟩ = some x3 ∧ w.cell? ⟨p, 4, none⟩ = some x4 ∧ w.cell? ⟨p, 5, none⟩ = some x5 ∧ w.cell? ⟨p, 6, none⟩ = some x6 ∧ w.cell? ⟨p, 7, none⟩ = some x7 ∧ w.cell? ⟨p, 8, none⟩ = some x8 :=
  ⟨h.cell (i := 0) rfl, h.cell (i := 1) rfl, h.cell (i := 2) rfl, h.cell (i := 3) rfl, h.cell (i := 4) rfl, h.cell (i := 5) rfl, h.cell (i := 6) rfl, h.cell (i := 7) rfl, h.cell (i := 8) rfl⟩
theorem Blk.nineF {w : World} {p : Nat} {cs : List Value} {t : TypeId} (h : Blk w p cs t) :
    w.frozen? ⟨p, 0, none⟩ = false ∧ w.frozen? ⟨p, 1, none⟩ = false ∧ w.frozen? ⟨p, 2, none⟩ = false ∧ w.frozen? ⟨p, 3, none⟩ = false ∧ w.frozen? ⟨p, 4, none⟩ = false ∧ w.frozen? ⟨p, 5, none⟩ = false ∧ w.frozen? ⟨p, 6, none⟩ = false ∧ w.frozen? ⟨p, 7, none⟩ = false ∧ w.frozen? ⟨p, 8, none⟩ = false :=
  ⟨h.free 0, h.free 1, h.free 2, h.free 3, h.free 4, h.free 5, h.free 6, h.free 7, h.free 8⟩
theorem below_set9 {B p : Nat} {w W : World} (h : Below B w W) (hp : B ≤ p) (x0 x1 x2 x3 x4 x5 x6 x7 x8 : Value) : Below B w (((((((((W.setCell ⟨p, 0, none⟩ x0).setCell ⟨p, 1, none⟩ x1).setCell ⟨p, 2, none⟩ x2).setCell ⟨p, 3, none⟩ x3).setCell ⟨p, 4, none⟩ x4).setCell ⟨p, 5, none⟩ x5).setCell ⟨p, 6, none⟩ x6).setCell ⟨p, 7, none⟩ x7).setCell ⟨p, 8, none⟩ x8) :=
  ((((((((h.setCell hp _).setCell hp _).setCell hp _).setCell hp _).setCell hp _).setCell hp _).setCell hp _).setCell hp _).setCell hp _
theorem Kb.cellAt {r : List Nat} {x y : World} (h : Kb r x y) {p o : Nat} {v : Value} (hp : p ∈ r) (hc : x.cell? ⟨p, o, none⟩ = some v) : y.cell? ⟨p, o, none⟩ = some v :=
  (World.cell?_of_block (w := x) (h p hp)).trans hc
/-- No flow. -/
def zeroFV : Value := .agg #[.int .i64 0, .bool false, .int .u64 0, .int .u64 0, .bool false, .int .u64 0, .int .u64 0, .int .i64 0, .int .i64 0]

set_option maxHeartbeats 1000000 in
set_option maxRecDepth 100000 in
theorem flowOf_bad (q : Pk) (A : Option Addr) (n cap : Nat) (w : World) (h : pkF q n ≠ 0) :
    Calls Try.prog 20 #[pkV q (.slice A n cap)] w (GivesV (.tuple #[zeroFV, .int .i64 (pkF q n)]) w) := by
  have hP := Blk.new w (pkL q (.slice A n cap)) 45
  have hw : Below w.heap.size w (w.alloc (.cells #[.bool q.fs, .int .u64 q.fh, .int .u64 q.fl, .bool q.ts, .int .u64 q.th, .int .u64 q.tl, .int .i64 q.hops, .int .i64 q.proto, .int .i64 q.fp, .int .i64 q.tp, .bool q.syn, .bool q.fin, .bool q.rst, .bool q.has, .int .i64 q.seq, .int .i64 q.ack, .bool q.reply, .int .i64 q.id, .slice A n cap] 45)) := (Below.refl _ _).alloc (Nat.le_refl _) _
  have hR := Blk.new (w.alloc (.cells #[.bool q.fs, .int .u64 q.fh, .int .u64 q.fl, .bool q.ts, .int .u64 q.th, .int .u64 q.tl, .int .i64 q.hops, .int .i64 q.proto, .int .i64 q.fp, .int .i64 q.tp, .bool q.syn, .bool q.fin, .bool q.rst, .bool q.has, .int .i64 q.seq, .int .i64 q.ack, .bool q.reply, .int .i64 q.id, .slice A n cap] 45)) [.int .i64 0, .bool false, .int .u64 0, .int .u64 0, .bool false, .int .u64 0, .int .u64 0, .int .i64 0, .int .i64 0] 51
  replace hP := hP.alloc (.cells #[.int .i64 0, .bool false, .int .u64 0, .int .u64 0, .bool false, .int .u64 0, .int .u64 0, .int .i64 0, .int .i64 0] 51)
  replace hw := hw.alloc hw.size (.cells #[.int .i64 0, .bool false, .int .u64 0, .int .u64 0, .bool false, .int .u64 0, .int .u64 0, .int .i64 0, .int .i64 0] 51)
  have L := ldPk_run hP
  have HC := Lib.hid (checkPacket_any q A n cap)
  generalize pkF q n = N at HC h ⊢
  have e0 : (N != 0) = true := by simp [h]
  replace h := Lib.hid h
  obtain ⟨rb, hrb⟩ : ∃ rb, rb = (w.alloc (.cells #[.bool q.fs, .int .u64 q.fh, .int .u64 q.fl, .bool q.ts, .int .u64 q.th, .int .u64 q.tl, .int .i64 q.hops, .int .i64 q.proto, .int .i64 q.fp, .int .i64 q.tp, .bool q.syn, .bool q.fin, .bool q.rst, .bool q.has, .int .i64 q.seq, .int .i64 q.ack, .bool q.reply, .int .i64 q.id, .slice A n cap] 45)).heap.size := ⟨_, rfl⟩
  have hrb2 : rb = w.heap.size + 1 := by rw [hrb]; simp
  rw [← hrb] at hR
  clear hP hrb
  go_enter Try.func20, Try.ntmps20
  go_wp2_with fail
  refine (HC.out _).mono ?_
  rintro e u1 ⟨rfl, hv1⟩
  replace hR := hR.below hv1
  replace hw := hw.trans (hv1.mono hw.size)
  clear hv1 HC L
  subst hrb2
  obtain ⟨r0, r1, r2, r3, r4, r5, r6, r7, r8⟩ := hR.nineP
  obtain ⟨f0, f1, f2, f3, f4, f5, f6, f7, f8⟩ := hR.nineF
  go_wp2_with fail
  have hR2 : Blk _ (w.heap.size + 1) [.int .i64 0, .bool false, .int .u64 0, .int .u64 0, .bool false, .int .u64 0, .int .u64 0, .int .i64 0, .int .i64 0] 51 := ((((((((hR.set 0 (.int .i64 0)).set 1 (.bool false)).set 2 (.int .u64 0)).set 3 (.int .u64 0)).set 4 (.bool false)).set 5 (.int .u64 0)).set 6 (.int .u64 0)).set 7 (.int .i64 0)).set 8 (.int .i64 0)
  refine bodyPost_ret (v := .tuple #[zeroFV, .int .i64 N]) ?_ rfl ⟨rfl, below_set9 hw (by omega) _ _ _ _ _ _ _ _ _⟩
  obtain ⟨r0, r1, r2, r3, r4, r5, r6, r7, r8⟩ := hR2.nineP
  simp [results, Try.results20, go_sem, zeroFV, r0, r1, r2, r3, r4, r5, r6, r7, r8]

set_option maxHeartbeats 1000000 in
set_option maxRecDepth 100000 in
theorem flowOf_ok (q : Pk) (A : Option Addr) (n cap : Nat) (w : World) (h : pkF q n = 0) :
    Calls Try.prog 20 #[pkV q (.slice A n cap)] w (GivesV (.tuple #[flowV q, .int .i64 0]) w) := by
  have hP := Blk.new w (pkL q (.slice A n cap)) 45
  have hw : Below w.heap.size w (w.alloc (.cells #[.bool q.fs, .int .u64 q.fh, .int .u64 q.fl, .bool q.ts, .int .u64 q.th, .int .u64 q.tl, .int .i64 q.hops, .int .i64 q.proto, .int .i64 q.fp, .int .i64 q.tp, .bool q.syn, .bool q.fin, .bool q.rst, .bool q.has, .int .i64 q.seq, .int .i64 q.ack, .bool q.reply, .int .i64 q.id, .slice A n cap] 45)) := (Below.refl _ _).alloc (Nat.le_refl _) _
  have hR := Blk.new (w.alloc (.cells #[.bool q.fs, .int .u64 q.fh, .int .u64 q.fl, .bool q.ts, .int .u64 q.th, .int .u64 q.tl, .int .i64 q.hops, .int .i64 q.proto, .int .i64 q.fp, .int .i64 q.tp, .bool q.syn, .bool q.fin, .bool q.rst, .bool q.has, .int .i64 q.seq, .int .i64 q.ack, .bool q.reply, .int .i64 q.id, .slice A n cap] 45)) [.int .i64 0, .bool false, .int .u64 0, .int .u64 0, .bool false, .int .u64 0, .int .u64 0, .int .i64 0, .int .i64 0] 51
  replace hP := hP.alloc (.cells #[.int .i64 0, .bool false, .int .u64 0, .int .u64 0, .bool false, .int .u64 0, .int .u64 0, .int .i64 0, .int .i64 0] 51)
  replace hw := hw.alloc hw.size (.cells #[.int .i64 0, .bool false, .int .u64 0, .int .u64 0, .bool false, .int .u64 0, .int .u64 0, .int .i64 0, .int .i64 0] 51)
  have L := ldPk_run hP
  have HC := Lib.hid (checkPacket_any q A n cap)
  have HF := Lib.hid (fun w' => flowOf_any q (.slice A n cap) w')
  rw [h] at HC
  obtain ⟨rb, hrb⟩ : ∃ rb, rb = (w.alloc (.cells #[.bool q.fs, .int .u64 q.fh, .int .u64 q.fl, .bool q.ts, .int .u64 q.th, .int .u64 q.tl, .int .i64 q.hops, .int .i64 q.proto, .int .i64 q.fp, .int .i64 q.tp, .bool q.syn, .bool q.fin, .bool q.rst, .bool q.has, .int .i64 q.seq, .int .i64 q.ack, .bool q.reply, .int .i64 q.id, .slice A n cap] 45)).heap.size := ⟨_, rfl⟩
  have hrb2 : rb = w.heap.size + 1 := by rw [hrb]; simp
  rw [← hrb] at hR
  clear hrb h
  go_enter Try.func20, Try.ntmps20
  go_wp2_with fail
  refine (HC.out _).mono ?_
  rintro e u1 ⟨rfl, hv1⟩
  replace hR := hR.below hv1
  replace hP := hP.below hv1
  replace hw := hw.trans (hv1.mono hw.size)
  clear hv1 HC L
  have L := ldPk_run hP
  replace hP := Lib.hid hP
  go_wp2_with fail
  refine (HF.out _).mono ?_
  rintro e u2 ⟨rfl, hv2⟩
  replace hR := hR.below hv2
  replace hw := hw.trans (hv2.mono hw.size)
  clear hv2 HF L hP
  subst hrb2
  obtain ⟨r0, r1, r2, r3, r4, r5, r6, r7, r8⟩ := hR.nineP
  obtain ⟨f0, f1, f2, f3, f4, f5, f6, f7, f8⟩ := hR.nineF
  have hR2 : Blk _ (w.heap.size + 1) [.int .i64 q.proto, .bool q.fs, .int .u64 q.fh, .int .u64 q.fl, .bool q.ts, .int .u64 q.th, .int .u64 q.tl, .int .i64 q.fp, .int .i64 q.tp] 51 := ((((((((hR.set 0 (.int .i64 q.proto)).set 1 (.bool q.fs)).set 2 (.int .u64 q.fh)).set 3 (.int .u64 q.fl)).set 4 (.bool q.ts)).set 5 (.int .u64 q.th)).set 6 (.int .u64 q.tl)).set 7 (.int .i64 q.fp)).set 8 (.int .i64 q.tp)
  replace hR2 := Lib.hid hR2
  clear hR
  unfold flowV
  go_wp2_with fail
  refine bodyPost_ret (v := .tuple #[flowV q, .int .i64 0]) ?_ rfl ⟨rfl, below_set9 hw (by omega) _ _ _ _ _ _ _ _ _⟩
  obtain ⟨r0, r1, r2, r3, r4, r5, r6, r7, r8⟩ := hR2.out.nineP
  simp [results, Try.results20, go_sem, flowV, r0, r1, r2, r3, r4, r5, r6, r7, r8]

set_option maxHeartbeats 1000000 in
set_option maxRecDepth 100000 in
theorem equal_same (A B : Option Addr) (n ca cb : Nat) (bs : List Nat) (w : World) (h1 : SlB w A n ca bs) (h2 : SlB w B n cb bs) (hn : n ≤ 100000) :
    Calls Try.prog 23 #[.slice A n ca, .slice B n cb] w (GivesV (.bool true) w) := by
  have hl := Lib.hid h1.len
  have k1 := Lib.hid h1.2.2
  have k2 := Lib.hid h2.2.2
  clear h1 h2
  go_enter Try.func23, Try.ntmps23
  go_wp2_with fail
  go_loopw [13] (fun i wr => ∃ k : Nat, k ≤ n ∧ i = .int .i64 k ∧ Below w.heap.size w wr) (fun i _ => n - (intOf i).toNat)
  case atStart => exact ⟨0, Nat.zero_le _, rfl, Below.refl _ _⟩
  case round =>
    obtain ⟨k, hk, rfl, hw⟩ := hrel
    by_cases hlt : k < n
    · obtain ⟨x, hx⟩ : ∃ x, bs[k]? = some x := ⟨bs[k]'(by have := hl.out; omega), List.getElem?_eq_getElem _⟩
      obtain ⟨g1, o1, rfl, hg1, hc1⟩ : ∃ g off, A = some ⟨g, off, none⟩ ∧ g < w.heap.size ∧ ∀ j u, (bV bs)[j]? = some u → w.cell? ⟨g, off + j, none⟩ = some u := by
        rcases k1.out with h | h
        · omega
        · exact h
      obtain ⟨g2, o2, rfl, hg2, hc2⟩ : ∃ g off, B = some ⟨g, off, none⟩ ∧ g < w.heap.size ∧ ∀ j u, (bV bs)[j]? = some u → w.cell? ⟨g, off + j, none⟩ = some u := by
        rcases k2.out with h | h
        · omega
        · exact h
      have c1 := (hw.cell (p := ⟨g1, o1 + k, none⟩) (by exact hg1)).trans (hc1 k _ (bV_get hx))
      have c2 := (hw.cell (p := ⟨g2, o2 + k, none⟩) (by exact hg2)).trans (hc2 k _ (bV_get hx))
      have hg1' : g1 < wr.heap.size := Nat.lt_of_lt_of_le hg1 hw.size
      have hg2' : g2 < wr.heap.size := Nat.lt_of_lt_of_le hg2 hw.size
      clear hc1 hc2 hx
      obtain ⟨y, hy⟩ : ∃ y : Int, y = (x : Int) := ⟨_, rfl⟩
      rw [← hy] at c1 c2
      clear hy
      go_wp2_with fail
      refine wb_begin ([g1, g2]) [] (by kernel_rfl) (fun u0 hb0' hz0' => ?_)
      replace c1 := (hb0'.cell (by exact hg1')).trans c1
      replace c2 := (hb0'.cell (by exact hg2')).trans c2
      replace hw := hw.trans (hb0'.mono hw.size)
      clear hb0' hz0'
      refine wb_pure (i := 0) (d := some 16) (v := ?_) (by simp only [List.getElem?_toArray, List.getElem?_cons_succ, List.getElem?_cons_zero] <;> rfl) (by rfl) (by kernel_rfl) (by kernel_rfl) (by kernel_rfl) (fun _ _ _ h => h) (by rfl) ?_ ?_
      rotate_left
      · ((intro u); go_simp; try with_reducible rfl)
      try simp only [Act.put, List.setIfInBounds_toArray, List.set_cons_zero, List.set_cons_succ]
      refine wb_pure (i := 1) (d := some 17) (v := ?_) (by simp only [List.getElem?_toArray, List.getElem?_cons_succ, List.getElem?_cons_zero] <;> rfl) (by rfl) (by kernel_rfl) (by kernel_rfl) (by kernel_rfl) (fun _ _ _ h => h) (by rfl) ?_ ?_
      rotate_left
      · ((intro u); go_simp; try with_reducible rfl)
      try simp only [Act.put, List.setIfInBounds_toArray, List.set_cons_zero, List.set_cons_succ]
      refine wb_pure (i := 2) (d := some 18) (v := ?_) (by simp only [List.getElem?_toArray, List.getElem?_cons_succ, List.getElem?_cons_zero] <;> rfl) (by rfl) (by kernel_rfl) (by kernel_rfl) (by kernel_rfl) (fun _ _ _ h => h) (by rfl) ?_ ?_
      rotate_left
      · ((intro u); go_simp; try with_reducible rfl)
      try simp only [Act.put, List.setIfInBounds_toArray, List.set_cons_zero, List.set_cons_succ]
      refine wb_take (i := 3) (d := some 19) (v := ?_) (by simp only [List.getElem?_toArray, List.getElem?_cons_succ, List.getElem?_cons_zero] <;> rfl) (by rfl) (by kernel_rfl) (by kernel_rfl) (by kernel_rfl) (fun _ _ _ h => h) (by rfl) (by kernel_rfl) ?_ ?_
      rotate_left
      · ((intro u hu); have k1 := hu.cellAt (p := g1) (by simp) c1; have k2 := hu.cellAt (p := g2) (by simp) c2; go_simp; try with_reducible rfl)
      try simp only [Act.put, List.setIfInBounds_toArray, List.set_cons_zero, List.set_cons_succ]
      refine wb_pure (i := 4) (d := some 20) (v := ?_) (by simp only [List.getElem?_toArray, List.getElem?_cons_succ, List.getElem?_cons_zero] <;> rfl) (by rfl) (by kernel_rfl) (by kernel_rfl) (by kernel_rfl) (fun _ _ _ h => h) (by rfl) ?_ ?_
      rotate_left
      · ((intro u); go_simp; try with_reducible rfl)
      try simp only [Act.put, List.setIfInBounds_toArray, List.set_cons_zero, List.set_cons_succ]
      refine wb_pure (i := 5) (d := some 21) (v := ?_) (by simp only [List.getElem?_toArray, List.getElem?_cons_succ, List.getElem?_cons_zero] <;> rfl) (by rfl) (by kernel_rfl) (by kernel_rfl) (by kernel_rfl) (fun _ _ _ h => h) (by rfl) ?_ ?_
      rotate_left
      · ((intro u); go_simp; try with_reducible rfl)
      try simp only [Act.put, List.setIfInBounds_toArray, List.set_cons_zero, List.set_cons_succ]
      refine wb_pure (i := 6) (d := some 22) (v := ?_) (by simp only [List.getElem?_toArray, List.getElem?_cons_succ, List.getElem?_cons_zero] <;> rfl) (by rfl) (by kernel_rfl) (by kernel_rfl) (by kernel_rfl) (fun _ _ _ h => h) (by rfl) ?_ ?_
      rotate_left
      · ((intro u); go_simp; try with_reducible rfl)
      try simp only [Act.put, List.setIfInBounds_toArray, List.set_cons_zero, List.set_cons_succ]
      refine wb_take (i := 7) (d := some 23) (v := ?_) (by simp only [List.getElem?_toArray, List.getElem?_cons_succ, List.getElem?_cons_zero] <;> rfl) (by rfl) (by kernel_rfl) (by kernel_rfl) (by kernel_rfl) (fun _ _ _ h => h) (by rfl) (by kernel_rfl) ?_ ?_
      rotate_left
      · ((intro u hu); have k1 := hu.cellAt (p := g1) (by simp) c1; have k2 := hu.cellAt (p := g2) (by simp) c2; go_simp; try with_reducible rfl)
      try simp only [Act.put, List.setIfInBounds_toArray, List.set_cons_zero, List.set_cons_succ]
      refine wb_pure (i := 8) (d := some 24) (v := ?_) (by simp only [List.getElem?_toArray, List.getElem?_cons_succ, List.getElem?_cons_zero] <;> rfl) (by rfl) (by kernel_rfl) (by kernel_rfl) (by kernel_rfl) (fun _ _ _ h => h) (by rfl) ?_ ?_
      rotate_left
      · ((intro u); go_simp; try with_reducible rfl)
      try simp only [Act.put, List.setIfInBounds_toArray, List.set_cons_zero, List.set_cons_succ]
      refine wb_done (by kernel_rfl) ?_ _
      skip
      go_wp2_with fail
      go_roundw
      case rel => exact ⟨k + 1, by omega, by go_num, hw⟩
      case measure => simp [intOf]; omega
    · have hkn : k = n := by omega
      replace hkn := Lib.hid hkn
      go_wp2_with fail
      go_ret
      exact ⟨rfl, hw⟩
end Go.Proofs.Ytigbbpgfblnboaa
