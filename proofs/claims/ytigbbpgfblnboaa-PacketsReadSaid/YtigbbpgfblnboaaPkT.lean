/- Packets: the parts of the protocols, as the reference has them. -/
import Derived.Test.YtigbbpgfblnboaaPkS
namespace Go.Proofs.Ytigbbpgfblnboaa
open Go.RowKit
set_option linter.unusedVariables false
set_option linter.unusedSimpArgs false

theorem ok2 {w : World} {s0 s1 : SS} (h0 : s0.ok w) (h1 : s1.ok w) : ∀ s ∈ [s0, s1], s.ok w := by
  intro s hs
  simp only [List.mem_cons, List.not_mem_nil, or_false] at hs
  rcases hs with rfl | rfl
  · exact h0
  · exact h1
theorem ok3 {w : World} {s0 s1 s2 : SS} (h0 : s0.ok w) (h1 : s1.ok w) (h2 : s2.ok w) : ∀ s ∈ [s0, s1, s2], s.ok w := by
  intro s hs
  simp only [List.mem_cons, List.not_mem_nil, or_false] at hs
  rcases hs with rfl | rfl | rfl
  · exact h0
  · exact h1
  · exact h2
theorem ok4 {w : World} {s0 s1 s2 s3 : SS} (h0 : s0.ok w) (h1 : s1.ok w) (h2 : s2.ok w) (h3 : s3.ok w) : ∀ s ∈ [s0, s1, s2, s3], s.ok w := by
  intro s hs
  simp only [List.mem_cons, List.not_mem_nil, or_false] at hs
  rcases hs with rfl | rfl | rfl | rfl
  · exact h0
  · exact h1
  · exact h2
  · exact h3
theorem ok5 {w : World} {s0 s1 s2 s3 s4 : SS} (h0 : s0.ok w) (h1 : s1.ok w) (h2 : s2.ok w) (h3 : s3.ok w) (h4 : s4.ok w) : ∀ s ∈ [s0, s1, s2, s3, s4], s.ok w := by
  intro s hs
  simp only [List.mem_cons, List.not_mem_nil, or_false] at hs
  rcases hs with rfl | rfl | rfl | rfl | rfl
  · exact h0
  · exact h1
  · exact h2
  · exact h3
  · exact h4
theorem ok6 {w : World} {s0 s1 s2 s3 s4 s5 : SS} (h0 : s0.ok w) (h1 : s1.ok w) (h2 : s2.ok w) (h3 : s3.ok w) (h4 : s4.ok w) (h5 : s5.ok w) : ∀ s ∈ [s0, s1, s2, s3, s4, s5], s.ok w := by
  intro s hs
  simp only [List.mem_cons, List.not_mem_nil, or_false] at hs
  rcases hs with rfl | rfl | rfl | rfl | rfl | rfl
  · exact h0
  · exact h1
  · exact h2
  · exact h3
  · exact h4
  · exact h5
theorem big_sl (size : Nat) (z : Int) (w : World) (hs : size ≤ 8) (h0 : 0 ≤ z) (h1 : z < 18446744073709551616) :
    Calls Try.prog 53 #[.int .u64 z, .int .i64 size] w fun e w' => ∃ A c, e = .returned (.slice A size c) ∧ SlB w' A size c (be z.toNat size) ∧ (A = none → c = 0) ∧ Below w.heap.size w w' := by
  refine (big_own size z w hs h0 h1).mono ?_
  rintro e w' ⟨v', rfl, h, hb⟩
  obtain ⟨A, c, rfl, hS, hA⟩ := h.sl
  rw [be_len] at hS ⊢
  exact ⟨A, c, rfl, hS, hA, hb⟩
theorem lit_ex {w : World} {a : Addr} {n c : Nat} {bs : List Nat} (h : SlB w (some a) n c bs) : ∃ A, SlB w A n c bs ∧ (A = none → c = 0) ∧ some a = A := ⟨_, h, (fun e => by cases e), rfl⟩
theorem be_ff : be 65535 2 = [255, 255] := by decide

set_option maxHeartbeats 1000000 in
set_option maxRecDepth 100000 in
theorem part_tcp (q : Pk) (A : Option Addr) (n cap : Nat) (pl : List Nat) (w : World) (hq : PkOk q) (hp : q.proto = 6) (hS : SlB w A n cap pl) (hA : A = none → cap = 0) (hn : n ≤ 1400) :
    Calls Try.prog 49 #[pkV q (.slice A n cap)] w fun e w' => ∃ v, e = .returned (.tuple #[v, .int .i64 16]) ∧ Own w.heap.size w' v (headP q n ++ pl) ∧ Below w.heap.size w w' := by
  have hP := Blk.new w (pkL q (.slice A n cap)) 45
  have hw : Below w.heap.size w (w.alloc (.cells #[.bool q.fs, .int .u64 q.fh, .int .u64 q.fl, .bool q.ts, .int .u64 q.th, .int .u64 q.tl, .int .i64 q.hops, .int .i64 q.proto, .int .i64 q.fp, .int .i64 q.tp, .bool q.syn, .bool q.fin, .bool q.rst, .bool q.has, .int .i64 q.seq, .int .i64 q.ack, .bool q.reply, .int .i64 q.id, .slice A n cap] 45)) := (Below.refl _ _).alloc (Nat.le_refl _) _
  have hl := Lib.hid hS.len
  have HH := Lib.hid (show headP q n = be q.fp.toNat 2 ++ be q.tp.toNat 2 ++ be q.seq.toNat 4 ++ be q.ack.toNat 4 ++ [80, flgN q] ++ be 65535 2 ++ [0, 0, 0, 0] by unfold headP; rw [if_pos hp])
  have HF : Hid (flgN q = (if q.fin then 1 else 0) + (if q.syn then 2 else 0) + (if q.rst then 4 else 0) + (if q.has then 16 else 0)) := Lib.hid rfl
  have hfl := flgN_lt q
  generalize flgN q = N at HF HH hfl
  generalize headP q n = hd at HH ⊢
  replace hA := Lib.hid hA
  have q1 := hq.fp1
  have q2 := hq.tp1
  have q3 := hq.seq1
  have q4 := hq.ack1
  have wfp := wrapU q.fp hq.fp0 (by omega)
  have wtp := wrapU q.tp hq.tp0 (by omega)
  have wseq := wrapU q.seq hq.seq0 (by omega)
  have wack := wrapU q.ack hq.ack0 (by omega)
  replace hq := Lib.hid hq
  replace hS := Lib.hid hS
  obtain ⟨fs, fh, fl, ts, th, tl, hops, proto, fp, tp, syn, fin, rst, has, seq, ack, reply, id⟩ := q
  dsimp only at *
  subst hp
  go_enter Try.func49, Try.ntmps49
  go_wp2_with fail
  refine wb_begin ([w.heap.size]) [] (by kernel_rfl) (fun u0 hb0' hz0' => ?_)
  replace hP := hP.below hb0'
  replace hw := hw.trans (hb0'.mono hw.size)
  have hB1 : w.heap.size + 1 ≤ u0.heap.size := by have := hP.lt; omega
  clear hb0' hz0'
  refine wb_pure (i := 0) (d := some 9) (v := ?_) (by simp only [List.getElem?_toArray, List.getElem?_cons_succ, List.getElem?_cons_zero] <;> rfl) (by rfl) (by kernel_rfl) (by kernel_rfl) (by kernel_rfl) (fun _ _ _ h => h) (by rfl) ?_ ?_
  rotate_left
  · ((intro u); go_simp; try with_reducible rfl)
  try simp only [Act.put, List.setIfInBounds_toArray, List.set_cons_zero, List.set_cons_succ]
  refine wb_take (i := 1) (d := some 10) (v := ?_) (by simp only [List.getElem?_toArray, List.getElem?_cons_succ, List.getElem?_cons_zero] <;> rfl) (by rfl) (by kernel_rfl) (by kernel_rfl) (by kernel_rfl) (fun _ _ _ h => h) (by rfl) (by kernel_rfl) ?_ ?_
  rotate_left
  · ((intro u hu); have k8 := (hP.kb hu (by simp)).cell (i := 8) (v := .int .i64 fp) rfl; have k9 := (hP.kb hu (by simp)).cell (i := 9) (v := .int .i64 tp) rfl; go_simp; try with_reducible rfl)
  try simp only [Act.put, List.setIfInBounds_toArray, List.set_cons_zero, List.set_cons_succ]
  refine wb_pure (i := 2) (d := some 11) (v := ?_) (by simp only [List.getElem?_toArray, List.getElem?_cons_succ, List.getElem?_cons_zero] <;> rfl) (by rfl) (by kernel_rfl) (by kernel_rfl) (by kernel_rfl) (fun _ _ _ h => h) (by rfl) ?_ ?_
  rotate_left
  · ((intro u); go_simp; try with_reducible rfl)
  try simp only [Act.put, List.setIfInBounds_toArray, List.set_cons_zero, List.set_cons_succ]
  refine wb_pure (i := 4) (d := some 13) (v := ?_) (by simp only [List.getElem?_toArray, List.getElem?_cons_succ, List.getElem?_cons_zero] <;> rfl) (by rfl) (by kernel_rfl) (by kernel_rfl) (by kernel_rfl) (fun _ _ _ h => h) (by rfl) ?_ ?_
  rotate_left
  · ((intro u); go_simp; try with_reducible rfl)
  try simp only [Act.put, List.setIfInBounds_toArray, List.set_cons_zero, List.set_cons_succ]
  refine wb_take (i := 5) (d := some 14) (v := ?_) (by simp only [List.getElem?_toArray, List.getElem?_cons_succ, List.getElem?_cons_zero] <;> rfl) (by rfl) (by kernel_rfl) (by kernel_rfl) (by kernel_rfl) (fun _ _ _ h => h) (by rfl) (by kernel_rfl) ?_ ?_
  rotate_left
  · ((intro u hu); have k8 := (hP.kb hu (by simp)).cell (i := 8) (v := .int .i64 fp) rfl; have k9 := (hP.kb hu (by simp)).cell (i := 9) (v := .int .i64 tp) rfl; go_simp; try with_reducible rfl)
  try simp only [Act.put, List.setIfInBounds_toArray, List.set_cons_zero, List.set_cons_succ]
  refine wb_pure (i := 6) (d := some 15) (v := ?_) (by simp only [List.getElem?_toArray, List.getElem?_cons_succ, List.getElem?_cons_zero] <;> rfl) (by rfl) (by kernel_rfl) (by kernel_rfl) (by kernel_rfl) (fun _ _ _ h => h) (by rfl) ?_ ?_
  rotate_left
  · ((intro u); go_simp; try with_reducible rfl)
  try simp only [Act.put, List.setIfInBounds_toArray, List.set_cons_zero, List.set_cons_succ]
  refine wb_one (i := 3) (by simp only [List.getElem?_toArray, List.getElem?_cons_succ, List.getElem?_cons_zero] <;> rfl) (by kernel_rfl) (by rfl) (fun K hK => ?_)
  go_simp
  refine (big_own 2 fp _ (by omega) hq.out.fp0 (by omega)).mono ?_
  rintro e u3 ⟨v3, rfl, o3, hv3⟩
  refine hK.out _ _ (Kb.below hv3 (by intro p hp; rw [List.mem_singleton.1 hp]; exact hP.lt)) ?_
  have hwz3 := hw.size
  replace hP := hP.below hv3
  replace hw := hw.trans (hv3.mono hw.size)
  try (replace o3 := Lib.hid (o3.out.below hv3))
  replace o3 := Lib.hid (o3.mono (B := w.heap.size + 1) (Nat.le_trans hB1 (by omega)))
  replace hB1 := Nat.le_trans hB1 hv3.size
  clear hK K hv3
  try simp only [Act.put, List.setIfInBounds_toArray, List.set_cons_zero, List.set_cons_succ]
  refine wb_one (i := 7) (by simp only [List.getElem?_toArray, List.getElem?_cons_succ, List.getElem?_cons_zero] <;> rfl) (by kernel_rfl) (by rfl) (fun K hK => ?_)
  go_simp
  refine (big_own 2 tp _ (by omega) hq.out.tp0 (by omega)).mono ?_
  rintro e u7 ⟨v7, rfl, o7, hv7⟩
  refine hK.out _ _ (Kb.below hv7 (by intro p hp; rw [List.mem_singleton.1 hp]; exact hP.lt)) ?_
  have hwz7 := hw.size
  replace hP := hP.below hv7
  replace hw := hw.trans (hv7.mono hw.size)
  try (replace o3 := Lib.hid (o3.out.below hv7))
  replace o7 := Lib.hid (o7.mono (B := w.heap.size + 1) (Nat.le_trans hB1 (by omega)))
  replace hB1 := Nat.le_trans hB1 hv7.size
  clear hK K hv7
  obtain ⟨A7, c7', rfl, hS7, hA7⟩ := o7.out.sl
  try simp only [Act.put, List.setIfInBounds_toArray, List.set_cons_zero, List.set_cons_succ]
  refine wb_one (i := 8) (by simp only [List.getElem?_toArray, List.getElem?_cons_succ, List.getElem?_cons_zero] <;> rfl) (by kernel_rfl) (by rfl) (fun K hK => ?_)
  refine wp_append_slB _ _ rfl (w.heap.size + 1) _ (be fp.toNat 2) rfl o3.out A7 _ c7' _ rfl hS7 hA7 (by simp [be_len]) hB1 ?_
  intro v8 u8 o8 hg8
  have hv8 := own_next hg8 o3.out hB1
  refine hK.out _ _ (Kb.below hv8 (by intro p hp; rw [List.mem_singleton.1 hp]; omega)) ?_
  replace hP := hP.upB (Nat.lt_succ_self _) hv8
  replace hw := hw.trans (hv8.mono (by omega))
  replace hB1 := Nat.le_trans hB1 hg8.size
  clear hK K hv8 hg8 hS7 hA7 o3 o7
  try simp only [Act.put, List.setIfInBounds_toArray, List.set_cons_zero, List.set_cons_succ]
  refine wb_pure (i := 9) (d := some 5) (v := ?_) (by simp only [List.getElem?_toArray, List.getElem?_cons_succ, List.getElem?_cons_zero] <;> rfl) (by rfl) (by kernel_rfl) (by kernel_rfl) (by kernel_rfl) (fun _ _ _ h => h) (by rfl) ?_ ?_
  rotate_left
  · ((intro u); go_simp; try with_reducible rfl)
  try simp only [Act.put, List.setIfInBounds_toArray, List.set_cons_zero, List.set_cons_succ]
  refine wb_done (by kernel_rfl) ?_ _
  skip
  obtain ⟨A5, c5, rfl, hS5, hA5⟩ := o8.sl
  obtain ⟨pb, hpb⟩ : ∃ pb, pb = be fp.toNat 2 ++ be tp.toNat 2 := ⟨_, rfl⟩
  have hpbl : (be fp.toNat 2 ++ be tp.toNat 2).length = 4 := by simp [be_len]
  rw [hpbl] at hS5 ⊢
  rw [← hpb] at hpbl hS5 HH
  have HE := Lib.hid (show hd ++ pl = pb ++ (be seq.toNat 4 ++ (be ack.toNat 4 ++ ([80, N, 255, 255, 0, 0, 0, 0] ++ pl))) by rw [HH.out, be_ff]; simp)
  replace hpb := Lib.hid hpb
  replace hpbl := Lib.hid hpbl
  replace hS5 := Lib.hid hS5
  replace hA5 := Lib.hid hA5
  have c7 := hP.cell (i := 7) (v := .int .i64 6) rfl
  obtain ⟨x1, hx1⟩ : ∃ x : Int, (if fin then (1 : Int) else 0) = x := ⟨_, rfl⟩
  obtain ⟨x2, hx2⟩ : ∃ x : Int, (if syn then (2 : Int) else 0) = x := ⟨_, rfl⟩
  obtain ⟨x3, hx3⟩ : ∃ x : Int, (if rst then (4 : Int) else 0) = x := ⟨_, rfl⟩
  obtain ⟨x4, hx4⟩ : ∃ x : Int, (if has then (16 : Int) else 0) = x := ⟨_, rfl⟩
  have hsum : x1 + x2 + x3 + x4 = (N : Int) := by
    rw [HF.out, ← hx1, ← hx2, ← hx3, ← hx4]
    cases fin <;> cases syn <;> cases rst <;> cases has <;> rfl
  have y1 : 0 ≤ x1 ∧ x1 ≤ 1 := by rw [← hx1]; split <;> omega
  have y2 : 0 ≤ x2 ∧ x2 ≤ 2 := by rw [← hx2]; split <;> omega
  have y3 : 0 ≤ x3 ∧ x3 ≤ 4 := by rw [← hx3]; split <;> omega
  have y4 : 0 ≤ x4 ∧ x4 ≤ 16 := by rw [← hx4]; split <;> omega
  have w12 : IntKind.u8.wrap (x1 + x2) = x1 + x2 := by rw [IntKind.wrap_u8]; omega
  have w123 : IntKind.u8.wrap (x1 + x2 + x3) = x1 + x2 + x3 := by rw [IntKind.wrap_u8]; omega
  have w1234 : IntKind.u8.wrap (x1 + x2 + x3 + x4) = (N : Int) := by rw [IntKind.wrap_u8]; omega
  have hb1 := Lib.hid hx1
  have hb2 := Lib.hid hx2
  have hb3 := Lib.hid hx3
  have hb4 := Lib.hid hx4
  clear hx1 hx2 hx3 hx4 hsum y1 y2 y3 y4 HF o8 hfl
  go_wp2_with fail
  refine wb_begin ([w.heap.size]) [] (by kernel_rfl) (fun u0 hb0' hz0' => ?_)
  replace hS5 := Lib.hid (hS5.out.below hb0')
  replace hP := hP.below hb0'
  replace hw := hw.trans (hb0'.mono hw.size)
  clear hb0' hz0'
  refine wb_pure (i := 0) (d := some 22) (v := ?_) (by simp only [List.getElem?_toArray, List.getElem?_cons_succ, List.getElem?_cons_zero] <;> rfl) (by rfl) (by kernel_rfl) (by kernel_rfl) (by kernel_rfl) (fun _ _ _ h => h) (by rfl) ?_ ?_
  rotate_left
  · ((intro u); go_simp; try with_reducible rfl)
  try simp only [Act.put, List.setIfInBounds_toArray, List.set_cons_zero, List.set_cons_succ]
  refine wb_pure (i := 1) (d := some 23) (v := ?_) (by simp only [List.getElem?_toArray, List.getElem?_cons_succ, List.getElem?_cons_zero] <;> rfl) (by rfl) (by kernel_rfl) (by kernel_rfl) (by kernel_rfl) (fun _ _ _ h => h) (by rfl) ?_ ?_
  rotate_left
  · ((intro u); go_simp; try with_reducible rfl)
  try simp only [Act.put, List.setIfInBounds_toArray, List.set_cons_zero, List.set_cons_succ]
  refine wb_take (i := 2) (d := some 24) (v := ?_) (by simp only [List.getElem?_toArray, List.getElem?_cons_succ, List.getElem?_cons_zero] <;> rfl) (by rfl) (by kernel_rfl) (by kernel_rfl) (by kernel_rfl) (fun _ _ _ h => h) (by rfl) (by kernel_rfl) ?_ ?_
  rotate_left
  · ((intro u hu); have k11 := (hP.kb hu (by simp)).cell (i := 11) (v := .bool fin) rfl; have k10 := (hP.kb hu (by simp)).cell (i := 10) (v := .bool syn) rfl; have k12 := (hP.kb hu (by simp)).cell (i := 12) (v := .bool rst) rfl; have k13 := (hP.kb hu (by simp)).cell (i := 13) (v := .bool has) rfl; go_simp; try with_reducible rfl)
  try simp only [Act.put, List.setIfInBounds_toArray, List.set_cons_zero, List.set_cons_succ]
  refine wb_pure (i := 4) (d := some 26) (v := ?_) (by simp only [List.getElem?_toArray, List.getElem?_cons_succ, List.getElem?_cons_zero] <;> rfl) (by rfl) (by kernel_rfl) (by kernel_rfl) (by kernel_rfl) (fun _ _ _ h => h) (by rfl) ?_ ?_
  rotate_left
  · ((intro u); go_simp; try with_reducible rfl)
  try simp only [Act.put, List.setIfInBounds_toArray, List.set_cons_zero, List.set_cons_succ]
  refine wb_pure (i := 5) (d := some 27) (v := ?_) (by simp only [List.getElem?_toArray, List.getElem?_cons_succ, List.getElem?_cons_zero] <;> rfl) (by rfl) (by kernel_rfl) (by kernel_rfl) (by kernel_rfl) (fun _ _ _ h => h) (by rfl) ?_ ?_
  rotate_left
  · ((intro u); go_simp; try with_reducible rfl)
  try simp only [Act.put, List.setIfInBounds_toArray, List.set_cons_zero, List.set_cons_succ]
  refine wb_take (i := 6) (d := some 28) (v := ?_) (by simp only [List.getElem?_toArray, List.getElem?_cons_succ, List.getElem?_cons_zero] <;> rfl) (by rfl) (by kernel_rfl) (by kernel_rfl) (by kernel_rfl) (fun _ _ _ h => h) (by rfl) (by kernel_rfl) ?_ ?_
  rotate_left
  · ((intro u hu); have k11 := (hP.kb hu (by simp)).cell (i := 11) (v := .bool fin) rfl; have k10 := (hP.kb hu (by simp)).cell (i := 10) (v := .bool syn) rfl; have k12 := (hP.kb hu (by simp)).cell (i := 12) (v := .bool rst) rfl; have k13 := (hP.kb hu (by simp)).cell (i := 13) (v := .bool has) rfl; go_simp; try with_reducible rfl)
  try simp only [Act.put, List.setIfInBounds_toArray, List.set_cons_zero, List.set_cons_succ]
  refine wb_pure (i := 9) (d := some 31) (v := ?_) (by simp only [List.getElem?_toArray, List.getElem?_cons_succ, List.getElem?_cons_zero] <;> rfl) (by rfl) (by kernel_rfl) (by kernel_rfl) (by kernel_rfl) (fun _ _ _ h => h) (by rfl) ?_ ?_
  rotate_left
  · ((intro u); go_simp; try with_reducible rfl)
  try simp only [Act.put, List.setIfInBounds_toArray, List.set_cons_zero, List.set_cons_succ]
  refine wb_pure (i := 10) (d := some 32) (v := ?_) (by simp only [List.getElem?_toArray, List.getElem?_cons_succ, List.getElem?_cons_zero] <;> rfl) (by rfl) (by kernel_rfl) (by kernel_rfl) (by kernel_rfl) (fun _ _ _ h => h) (by rfl) ?_ ?_
  rotate_left
  · ((intro u); go_simp; try with_reducible rfl)
  try simp only [Act.put, List.setIfInBounds_toArray, List.set_cons_zero, List.set_cons_succ]
  refine wb_take (i := 11) (d := some 33) (v := ?_) (by simp only [List.getElem?_toArray, List.getElem?_cons_succ, List.getElem?_cons_zero] <;> rfl) (by rfl) (by kernel_rfl) (by kernel_rfl) (by kernel_rfl) (fun _ _ _ h => h) (by rfl) (by kernel_rfl) ?_ ?_
  rotate_left
  · ((intro u hu); have k11 := (hP.kb hu (by simp)).cell (i := 11) (v := .bool fin) rfl; have k10 := (hP.kb hu (by simp)).cell (i := 10) (v := .bool syn) rfl; have k12 := (hP.kb hu (by simp)).cell (i := 12) (v := .bool rst) rfl; have k13 := (hP.kb hu (by simp)).cell (i := 13) (v := .bool has) rfl; go_simp; try with_reducible rfl)
  try simp only [Act.put, List.setIfInBounds_toArray, List.set_cons_zero, List.set_cons_succ]
  refine wb_pure (i := 14) (d := some 36) (v := ?_) (by simp only [List.getElem?_toArray, List.getElem?_cons_succ, List.getElem?_cons_zero] <;> rfl) (by rfl) (by kernel_rfl) (by kernel_rfl) (by kernel_rfl) (fun _ _ _ h => h) (by rfl) ?_ ?_
  rotate_left
  · ((intro u); go_simp; try with_reducible rfl)
  try simp only [Act.put, List.setIfInBounds_toArray, List.set_cons_zero, List.set_cons_succ]
  refine wb_pure (i := 15) (d := some 37) (v := ?_) (by simp only [List.getElem?_toArray, List.getElem?_cons_succ, List.getElem?_cons_zero] <;> rfl) (by rfl) (by kernel_rfl) (by kernel_rfl) (by kernel_rfl) (fun _ _ _ h => h) (by rfl) ?_ ?_
  rotate_left
  · ((intro u); go_simp; try with_reducible rfl)
  try simp only [Act.put, List.setIfInBounds_toArray, List.set_cons_zero, List.set_cons_succ]
  refine wb_take (i := 16) (d := some 38) (v := ?_) (by simp only [List.getElem?_toArray, List.getElem?_cons_succ, List.getElem?_cons_zero] <;> rfl) (by rfl) (by kernel_rfl) (by kernel_rfl) (by kernel_rfl) (fun _ _ _ h => h) (by rfl) (by kernel_rfl) ?_ ?_
  rotate_left
  · ((intro u hu); have k11 := (hP.kb hu (by simp)).cell (i := 11) (v := .bool fin) rfl; have k10 := (hP.kb hu (by simp)).cell (i := 10) (v := .bool syn) rfl; have k12 := (hP.kb hu (by simp)).cell (i := 12) (v := .bool rst) rfl; have k13 := (hP.kb hu (by simp)).cell (i := 13) (v := .bool has) rfl; go_simp; try with_reducible rfl)
  try simp only [Act.put, List.setIfInBounds_toArray, List.set_cons_zero, List.set_cons_succ]
  refine wb_one (i := 3) (by simp only [List.getElem?_toArray, List.getElem?_cons_succ, List.getElem?_cons_zero] <;> rfl) (by kernel_rfl) (by rfl) (fun K hK => ?_)
  go_simp
  refine (bit_any fin 1 _).mono ?_
  rintro e u3 ⟨rfl, rfl⟩
  rw [hb1.out]
  refine hK.out _ _ (Kb.refl _ _) ?_
  clear hK K
  try simp only [Act.put, List.setIfInBounds_toArray, List.set_cons_zero, List.set_cons_succ]
  refine wb_one (i := 7) (by simp only [List.getElem?_toArray, List.getElem?_cons_succ, List.getElem?_cons_zero] <;> rfl) (by kernel_rfl) (by rfl) (fun K hK => ?_)
  go_simp
  refine (bit_any syn 2 _).mono ?_
  rintro e u7 ⟨rfl, rfl⟩
  rw [hb2.out]
  refine hK.out _ _ (Kb.refl _ _) ?_
  clear hK K
  try simp only [Act.put, List.setIfInBounds_toArray, List.set_cons_zero, List.set_cons_succ]
  refine wb_pure (i := 8) (d := some 30) (v := ?_) (by simp only [List.getElem?_toArray, List.getElem?_cons_succ, List.getElem?_cons_zero] <;> rfl) (by rfl) (by kernel_rfl) (by kernel_rfl) (by kernel_rfl) (fun _ _ _ h => h) (by rfl) ?_ ?_
  rotate_left
  · ((intro u); go_simp; try with_reducible rfl)
  try simp only [Act.put, List.setIfInBounds_toArray, List.set_cons_zero, List.set_cons_succ]
  refine wb_one (i := 12) (by simp only [List.getElem?_toArray, List.getElem?_cons_succ, List.getElem?_cons_zero] <;> rfl) (by kernel_rfl) (by rfl) (fun K hK => ?_)
  go_simp
  refine (bit_any rst 4 _).mono ?_
  rintro e u12 ⟨rfl, rfl⟩
  rw [hb3.out]
  refine hK.out _ _ (Kb.refl _ _) ?_
  clear hK K
  try simp only [Act.put, List.setIfInBounds_toArray, List.set_cons_zero, List.set_cons_succ]
  refine wb_pure (i := 13) (d := some 35) (v := ?_) (by simp only [List.getElem?_toArray, List.getElem?_cons_succ, List.getElem?_cons_zero] <;> rfl) (by rfl) (by kernel_rfl) (by kernel_rfl) (by kernel_rfl) (fun _ _ _ h => h) (by rfl) ?_ ?_
  rotate_left
  · ((intro u); go_simp; try with_reducible rfl)
  try simp only [Act.put, List.setIfInBounds_toArray, List.set_cons_zero, List.set_cons_succ]
  refine wb_one (i := 17) (by simp only [List.getElem?_toArray, List.getElem?_cons_succ, List.getElem?_cons_zero] <;> rfl) (by kernel_rfl) (by rfl) (fun K hK => ?_)
  go_simp
  refine (bit_any has 16 _).mono ?_
  rintro e u17 ⟨rfl, rfl⟩
  rw [hb4.out]
  refine hK.out _ _ (Kb.refl _ _) ?_
  clear hK K
  try simp only [Act.put, List.setIfInBounds_toArray, List.set_cons_zero, List.set_cons_succ]
  refine wb_pure (i := 18) (d := some 40) (v := ?_) (by simp only [List.getElem?_toArray, List.getElem?_cons_succ, List.getElem?_cons_zero] <;> rfl) (by rfl) (by kernel_rfl) (by kernel_rfl) (by kernel_rfl) (fun _ _ _ h => h) (by rfl) ?_ ?_
  rotate_left
  · ((intro u); go_simp; try with_reducible rfl)
  try simp only [Act.put, List.setIfInBounds_toArray, List.set_cons_zero, List.set_cons_succ]
  refine wb_pure (i := 19) (d := some 6) (v := ?_) (by simp only [List.getElem?_toArray, List.getElem?_cons_succ, List.getElem?_cons_zero] <;> rfl) (by rfl) (by kernel_rfl) (by kernel_rfl) (by kernel_rfl) (fun _ _ _ h => h) (by rfl) ?_ ?_
  rotate_left
  · ((intro u); go_simp; try with_reducible rfl)
  try simp only [Act.put, List.setIfInBounds_toArray, List.set_cons_zero, List.set_cons_succ]
  refine wb_done (by kernel_rfl) ?_ _
  skip
  go_wp2_with fail
  refine wb_begin ([w.heap.size]) [] (by kernel_rfl) (fun u0 hb0' hz0' => ?_)
  try (replace hS4 := Lib.hid (hS4.out.below hb0'))
  try (replace hS8 := Lib.hid (hS8.out.below hb0'))
  try (replace hS10 := Lib.hid (hS10.out.below hb0'))
  try (replace hS5 := Lib.hid (hS5.out.below hb0'))
  replace hP := hP.below hb0'
  replace hw := hw.trans (hb0'.mono hw.size)
  clear hb0' hz0'
  have hwz := hw.size
  refine wb_pure (i := 0) (d := some 41) (v := ?_) (by simp only [List.getElem?_toArray, List.getElem?_cons_succ, List.getElem?_cons_zero] <;> rfl) (by rfl) (by kernel_rfl) (by kernel_rfl) (by kernel_rfl) (fun _ _ _ h => h) (by rfl) ?_ ?_
  rotate_left
  · ((intro u); go_simp; try with_reducible rfl)
  try simp only [Act.put, List.setIfInBounds_toArray, List.set_cons_zero, List.set_cons_succ]
  refine wb_pure (i := 1) (d := some 42) (v := ?_) (by simp only [List.getElem?_toArray, List.getElem?_cons_succ, List.getElem?_cons_zero] <;> rfl) (by rfl) (by kernel_rfl) (by kernel_rfl) (by kernel_rfl) (fun _ _ _ h => h) (by rfl) ?_ ?_
  rotate_left
  · ((intro u); go_simp; try with_reducible rfl)
  try simp only [Act.put, List.setIfInBounds_toArray, List.set_cons_zero, List.set_cons_succ]
  refine wb_take (i := 2) (d := some 43) (v := ?_) (by simp only [List.getElem?_toArray, List.getElem?_cons_succ, List.getElem?_cons_zero] <;> rfl) (by rfl) (by kernel_rfl) (by kernel_rfl) (by kernel_rfl) (fun _ _ _ h => h) (by rfl) (by kernel_rfl) ?_ ?_
  rotate_left
  · ((intro u hu); have k14 := (hP.kb hu (by simp)).cell (i := 14) (v := .int .i64 seq) rfl; have k15 := (hP.kb hu (by simp)).cell (i := 15) (v := .int .i64 ack) rfl; have k18 := (hP.kb hu (by simp)).cell (i := 18) (v := .slice A n cap) rfl; go_simp; try with_reducible rfl)
  try simp only [Act.put, List.setIfInBounds_toArray, List.set_cons_zero, List.set_cons_succ]
  refine wb_pure (i := 3) (d := some 44) (v := ?_) (by simp only [List.getElem?_toArray, List.getElem?_cons_succ, List.getElem?_cons_zero] <;> rfl) (by rfl) (by kernel_rfl) (by kernel_rfl) (by kernel_rfl) (fun _ _ _ h => h) (by rfl) ?_ ?_
  rotate_left
  · ((intro u); go_simp; try with_reducible rfl)
  try simp only [Act.put, List.setIfInBounds_toArray, List.set_cons_zero, List.set_cons_succ]
  refine wb_pure (i := 5) (d := some 46) (v := ?_) (by simp only [List.getElem?_toArray, List.getElem?_cons_succ, List.getElem?_cons_zero] <;> rfl) (by rfl) (by kernel_rfl) (by kernel_rfl) (by kernel_rfl) (fun _ _ _ h => h) (by rfl) ?_ ?_
  rotate_left
  · ((intro u); go_simp; try with_reducible rfl)
  try simp only [Act.put, List.setIfInBounds_toArray, List.set_cons_zero, List.set_cons_succ]
  refine wb_take (i := 6) (d := some 47) (v := ?_) (by simp only [List.getElem?_toArray, List.getElem?_cons_succ, List.getElem?_cons_zero] <;> rfl) (by rfl) (by kernel_rfl) (by kernel_rfl) (by kernel_rfl) (fun _ _ _ h => h) (by rfl) (by kernel_rfl) ?_ ?_
  rotate_left
  · ((intro u hu); have k14 := (hP.kb hu (by simp)).cell (i := 14) (v := .int .i64 seq) rfl; have k15 := (hP.kb hu (by simp)).cell (i := 15) (v := .int .i64 ack) rfl; have k18 := (hP.kb hu (by simp)).cell (i := 18) (v := .slice A n cap) rfl; go_simp; try with_reducible rfl)
  try simp only [Act.put, List.setIfInBounds_toArray, List.set_cons_zero, List.set_cons_succ]
  refine wb_pure (i := 7) (d := some 48) (v := ?_) (by simp only [List.getElem?_toArray, List.getElem?_cons_succ, List.getElem?_cons_zero] <;> rfl) (by rfl) (by kernel_rfl) (by kernel_rfl) (by kernel_rfl) (fun _ _ _ h => h) (by rfl) ?_ ?_
  rotate_left
  · ((intro u); go_simp; try with_reducible rfl)
  try simp only [Act.put, List.setIfInBounds_toArray, List.set_cons_zero, List.set_cons_succ]
  refine wb_pure (i := 9) (d := some 50) (v := ?_) (by simp only [List.getElem?_toArray, List.getElem?_cons_succ, List.getElem?_cons_zero] <;> rfl) (by rfl) (by kernel_rfl) (by kernel_rfl) (by kernel_rfl) (fun _ _ _ h => h) (by rfl) ?_ ?_
  rotate_left
  · ((intro u); go_simp; try with_reducible rfl)
  try simp only [Act.put, List.setIfInBounds_toArray, List.set_cons_zero, List.set_cons_succ]
  refine wb_pure (i := 11) (d := some 52) (v := ?_) (by simp only [List.getElem?_toArray, List.getElem?_cons_succ, List.getElem?_cons_zero] <;> rfl) (by rfl) (by kernel_rfl) (by kernel_rfl) (by kernel_rfl) (fun _ _ _ h => h) (by rfl) ?_ ?_
  rotate_left
  · ((intro u); go_simp; try with_reducible rfl)
  try simp only [Act.put, List.setIfInBounds_toArray, List.set_cons_zero, List.set_cons_succ]
  refine wb_take (i := 12) (d := some 53) (v := ?_) (by simp only [List.getElem?_toArray, List.getElem?_cons_succ, List.getElem?_cons_zero] <;> rfl) (by rfl) (by kernel_rfl) (by kernel_rfl) (by kernel_rfl) (fun _ _ _ h => h) (by rfl) (by kernel_rfl) ?_ ?_
  rotate_left
  · ((intro u hu); have k14 := (hP.kb hu (by simp)).cell (i := 14) (v := .int .i64 seq) rfl; have k15 := (hP.kb hu (by simp)).cell (i := 15) (v := .int .i64 ack) rfl; have k18 := (hP.kb hu (by simp)).cell (i := 18) (v := .slice A n cap) rfl; go_simp; try with_reducible rfl)
  try simp only [Act.put, List.setIfInBounds_toArray, List.set_cons_zero, List.set_cons_succ]
  refine wb_two (i := 4) (k := 10) (by simp only [List.getElem?_toArray, List.getElem?_cons_succ, List.getElem?_cons_zero] <;> rfl) (by simp only [List.getElem?_toArray, List.getElem?_cons_succ, List.getElem?_cons_zero] <;> rfl) (by kernel_rfl) (by rfl) (by rfl) (fun K hK => ?_) (fun K hK => ?_)
  · go_simp
    refine (big_sl 4 seq _ (by omega) hq.out.seq0 (by omega)).mono ?_
    rintro e u4 ⟨A4, c4, rfl, hS4, hA4, hv4⟩
    refine hK.out _ _ (Kb.below hv4 (by intro p hp; rw [List.mem_singleton.1 hp]; exact hP.lt)) ?_
    replace hP := hP.below hv4
    replace hw := hw.trans (hv4.mono hw.size)
    try (replace hS4 := Lib.hid (hS4.out.below hv4))
    try (replace hS8 := Lib.hid (hS8.out.below hv4))
    try (replace hS10 := Lib.hid (hS10.out.below hv4))
    try (replace hS5 := Lib.hid (hS5.out.below hv4))
    replace hS4 := Lib.hid hS4
    replace hA4 := Lib.hid hA4
    clear hK K hv4
    try simp only [Act.put, List.setIfInBounds_toArray, List.set_cons_zero, List.set_cons_succ]
    refine wb_two (i := 8) (k := 10) (by simp only [List.getElem?_toArray, List.getElem?_cons_succ, List.getElem?_cons_zero] <;> rfl) (by simp only [List.getElem?_toArray, List.getElem?_cons_succ, List.getElem?_cons_zero] <;> rfl) (by kernel_rfl) (by rfl) (by rfl) (fun K hK => ?_) (fun K hK => ?_)
    · go_simp
      refine (big_sl 4 ack _ (by omega) hq.out.ack0 (by omega)).mono ?_
      rintro e u8 ⟨A8, c8, rfl, hS8, hA8, hv8⟩
      refine hK.out _ _ (Kb.below hv8 (by intro p hp; rw [List.mem_singleton.1 hp]; exact hP.lt)) ?_
      replace hP := hP.below hv8
      replace hw := hw.trans (hv8.mono hw.size)
      try (replace hS4 := Lib.hid (hS4.out.below hv8))
      try (replace hS8 := Lib.hid (hS8.out.below hv8))
      try (replace hS10 := Lib.hid (hS10.out.below hv8))
      try (replace hS5 := Lib.hid (hS5.out.below hv8))
      replace hS8 := Lib.hid hS8
      replace hA8 := Lib.hid hA8
      clear hK K hv8
      try simp only [Act.put, List.setIfInBounds_toArray, List.set_cons_zero, List.set_cons_succ]
      refine wb_one (i := 10) (by simp only [List.getElem?_toArray, List.getElem?_cons_succ, List.getElem?_cons_zero] <;> rfl) (by kernel_rfl) (by rfl) (fun K hK => ?_)
      go_simp
      refine hK.out _ _ (Kb.gb (World.grownBy_alloc _ _ none) (by intro p hp; rw [List.mem_singleton.1 hp]; exact ⟨hP.lt, by simp⟩)) ?_
      refine wb_new (cs := bV [80, N, 255, 255, 0, 0, 0, 0]) (t := 5) (fun u10 hv10 hL10 hz10 => ?_)
      obtain ⟨A10, hS10, hA10, hE10⟩ := lit_ex (slB_blk (n := 8) hL10 rfl)
      rw [hE10]
      replace hS10 := Lib.hid hS10
      replace hA10 := Lib.hid hA10
      replace hP := hP.below hv10
      replace hw := hw.trans (hv10.mono hw.size)
      try (replace hS4 := Lib.hid (hS4.out.below hv10))
      try (replace hS8 := Lib.hid (hS8.out.below hv10))
      try (replace hS10 := Lib.hid (hS10.out.below hv10))
      try (replace hS5 := Lib.hid (hS5.out.below hv10))
      clear hK K hz10 hL10 hv10 hE10
      try simp only [Act.put, List.setIfInBounds_toArray, List.set_cons_zero, List.set_cons_succ]
      refine wb_one (i := 13) (by simp only [List.getElem?_toArray, List.getElem?_cons_succ, List.getElem?_cons_zero] <;> rfl) (by kernel_rfl) (by rfl) (fun K hK => ?_)
      go_simp
      refine hK.out _ _ (Kb.gb (World.grownBy_alloc _ _ none) (by intro p hp; rw [List.mem_singleton.1 hp]; exact ⟨hP.lt, by simp⟩)) ?_
      refine wb_new (cs := [.slice A5 4 c5, .slice A4 4 c4, .slice A8 4 c8, .slice A10 8 8, .slice A n cap]) (t := 43) (fun u13 hv13 hL13 hz13 => ?_)
      replace hP := hP.below hv13
      replace hw := hw.trans (hv13.mono hw.size)
      try (replace hS4 := Lib.hid (hS4.out.below hv13))
      try (replace hS8 := Lib.hid (hS8.out.below hv13))
      try (replace hS10 := Lib.hid (hS10.out.below hv13))
      try (replace hS5 := Lib.hid (hS5.out.below hv13))
      clear hK K hz13 hv13
      try simp only [Act.put, List.setIfInBounds_toArray, List.set_cons_zero, List.set_cons_succ]
      refine wb_one (i := 14) (by simp only [List.getElem?_toArray, List.getElem?_cons_succ, List.getElem?_cons_zero] <;> rfl) (by kernel_rfl) (by rfl) (fun K hK => ?_)
      go_simp
      have hok : ∀ s ∈ ([SS.mk A5 4 c5 pb, SS.mk A4 4 c4 ((be seq.toNat 4)), SS.mk A8 4 c8 ((be ack.toNat 4)), SS.mk A10 8 8 ([80, N, 255, 255, 0, 0, 0, 0]), SS.mk A n cap pl] : List SS), s.ok _ := ok5 ⟨hS5.out, hA5.out⟩ ⟨hS4.out, hA4.out⟩ ⟨hS8.out, hA8.out⟩ ⟨hS10.out, hA10.out⟩ ⟨hS.out.below hw, hA.out⟩
      have hfl : flatS [SS.mk A5 4 c5 pb, SS.mk A4 4 c4 ((be seq.toNat 4)), SS.mk A8 4 c8 ((be ack.toNat 4)), SS.mk A10 8 8 ([80, N, 255, 255, 0, 0, 0, 0]), SS.mk A n cap pl] = pb ++ (be seq.toNat 4 ++ (be ack.toNat 4 ++ ([80, N, 255, 255, 0, 0, 0, 0] ++ pl))) := by simp [flatS]
      have hCC := concat_blk _ 5 [SS.mk A5 4 c5 pb, SS.mk A4 4 c4 ((be seq.toNat 4)), SS.mk A8 4 c8 ((be ack.toNat 4)), SS.mk A10 8 8 ([80, N, 255, 255, 0, 0, 0, 0]), SS.mk A n cap pl] 43 _ hL13 rfl hok (by rw [hfl]; simp only [List.length_append, be_len, List.length_cons, List.length_nil, hpbl.out, ← hl.out]; omega) (by rw [hfl]; simp only [List.length_append, be_len, List.length_cons, List.length_nil, hpbl.out, ← hl.out]; omega) (by omega)
      rw [hfl] at hCC
      have hwzC := hw.size
      refine hCC.mono ?_
      rintro e u14 ⟨v14, rfl, o14, hv14⟩
      refine hK.out _ _ (Kb.below hv14 (by intro p hp; rw [List.mem_singleton.1 hp]; exact hP.lt)) ?_
      replace hP := hP.below hv14
      replace hw := hw.trans (hv14.mono hw.size)
      
      replace o14 := Lib.hid (o14.mono (B := w.heap.size) hwzC)
      clear hK K hv14 hok hfl hCC hwzC hL13
      try simp only [Act.put, List.setIfInBounds_toArray, List.set_cons_zero, List.set_cons_succ]
      refine wb_pure (i := 15) (d := some 7) (v := ?_) (by simp only [List.getElem?_toArray, List.getElem?_cons_succ, List.getElem?_cons_zero] <;> rfl) (by rfl) (by kernel_rfl) (by kernel_rfl) (by kernel_rfl) (fun _ _ _ h => h) (by rfl) ?_ ?_
      rotate_left
      · ((intro u); go_simp; try with_reducible rfl)
      try simp only [Act.put, List.setIfInBounds_toArray, List.set_cons_zero, List.set_cons_succ]
      refine wb_done (by kernel_rfl) ?_ _
      go_wp2_with fail
      (try simp only [Exit.inBlock, Exit.then]); refine bodyPost_ret (results_tmp2 rfl _ _ _) rfl ?_
      exact ⟨_, rfl, by rw [HE.out]; exact o14.out, hw⟩
    · go_simp
      refine hK.out _ _ (Kb.gb (World.grownBy_alloc _ _ none) (by intro p hp; rw [List.mem_singleton.1 hp]; exact ⟨hP.lt, by simp⟩)) ?_
      refine wb_new (cs := bV [80, N, 255, 255, 0, 0, 0, 0]) (t := 5) (fun u10 hv10 hL10 hz10 => ?_)
      obtain ⟨A10, hS10, hA10, hE10⟩ := lit_ex (slB_blk (n := 8) hL10 rfl)
      rw [hE10]
      replace hS10 := Lib.hid hS10
      replace hA10 := Lib.hid hA10
      replace hP := hP.below hv10
      replace hw := hw.trans (hv10.mono hw.size)
      try (replace hS4 := Lib.hid (hS4.out.below hv10))
      try (replace hS8 := Lib.hid (hS8.out.below hv10))
      try (replace hS10 := Lib.hid (hS10.out.below hv10))
      try (replace hS5 := Lib.hid (hS5.out.below hv10))
      clear hK K hz10 hL10 hv10 hE10
      try simp only [Act.put, List.setIfInBounds_toArray, List.set_cons_zero, List.set_cons_succ]
      refine wb_one (i := 8) (by simp only [List.getElem?_toArray, List.getElem?_cons_succ, List.getElem?_cons_zero] <;> rfl) (by kernel_rfl) (by rfl) (fun K hK => ?_)
      go_simp
      refine (big_sl 4 ack _ (by omega) hq.out.ack0 (by omega)).mono ?_
      rintro e u8 ⟨A8, c8, rfl, hS8, hA8, hv8⟩
      refine hK.out _ _ (Kb.below hv8 (by intro p hp; rw [List.mem_singleton.1 hp]; exact hP.lt)) ?_
      replace hP := hP.below hv8
      replace hw := hw.trans (hv8.mono hw.size)
      try (replace hS4 := Lib.hid (hS4.out.below hv8))
      try (replace hS8 := Lib.hid (hS8.out.below hv8))
      try (replace hS10 := Lib.hid (hS10.out.below hv8))
      try (replace hS5 := Lib.hid (hS5.out.below hv8))
      replace hS8 := Lib.hid hS8
      replace hA8 := Lib.hid hA8
      clear hK K hv8
      try simp only [Act.put, List.setIfInBounds_toArray, List.set_cons_zero, List.set_cons_succ]
      refine wb_one (i := 13) (by simp only [List.getElem?_toArray, List.getElem?_cons_succ, List.getElem?_cons_zero] <;> rfl) (by kernel_rfl) (by rfl) (fun K hK => ?_)
      go_simp
      refine hK.out _ _ (Kb.gb (World.grownBy_alloc _ _ none) (by intro p hp; rw [List.mem_singleton.1 hp]; exact ⟨hP.lt, by simp⟩)) ?_
      refine wb_new (cs := [.slice A5 4 c5, .slice A4 4 c4, .slice A8 4 c8, .slice A10 8 8, .slice A n cap]) (t := 43) (fun u13 hv13 hL13 hz13 => ?_)
      replace hP := hP.below hv13
      replace hw := hw.trans (hv13.mono hw.size)
      try (replace hS4 := Lib.hid (hS4.out.below hv13))
      try (replace hS8 := Lib.hid (hS8.out.below hv13))
      try (replace hS10 := Lib.hid (hS10.out.below hv13))
      try (replace hS5 := Lib.hid (hS5.out.below hv13))
      clear hK K hz13 hv13
      try simp only [Act.put, List.setIfInBounds_toArray, List.set_cons_zero, List.set_cons_succ]
      refine wb_one (i := 14) (by simp only [List.getElem?_toArray, List.getElem?_cons_succ, List.getElem?_cons_zero] <;> rfl) (by kernel_rfl) (by rfl) (fun K hK => ?_)
      go_simp
      have hok : ∀ s ∈ ([SS.mk A5 4 c5 pb, SS.mk A4 4 c4 ((be seq.toNat 4)), SS.mk A8 4 c8 ((be ack.toNat 4)), SS.mk A10 8 8 ([80, N, 255, 255, 0, 0, 0, 0]), SS.mk A n cap pl] : List SS), s.ok _ := ok5 ⟨hS5.out, hA5.out⟩ ⟨hS4.out, hA4.out⟩ ⟨hS8.out, hA8.out⟩ ⟨hS10.out, hA10.out⟩ ⟨hS.out.below hw, hA.out⟩
      have hfl : flatS [SS.mk A5 4 c5 pb, SS.mk A4 4 c4 ((be seq.toNat 4)), SS.mk A8 4 c8 ((be ack.toNat 4)), SS.mk A10 8 8 ([80, N, 255, 255, 0, 0, 0, 0]), SS.mk A n cap pl] = pb ++ (be seq.toNat 4 ++ (be ack.toNat 4 ++ ([80, N, 255, 255, 0, 0, 0, 0] ++ pl))) := by simp [flatS]
      have hCC := concat_blk _ 5 [SS.mk A5 4 c5 pb, SS.mk A4 4 c4 ((be seq.toNat 4)), SS.mk A8 4 c8 ((be ack.toNat 4)), SS.mk A10 8 8 ([80, N, 255, 255, 0, 0, 0, 0]), SS.mk A n cap pl] 43 _ hL13 rfl hok (by rw [hfl]; simp only [List.length_append, be_len, List.length_cons, List.length_nil, hpbl.out, ← hl.out]; omega) (by rw [hfl]; simp only [List.length_append, be_len, List.length_cons, List.length_nil, hpbl.out, ← hl.out]; omega) (by omega)
      rw [hfl] at hCC
      have hwzC := hw.size
      refine hCC.mono ?_
      rintro e u14 ⟨v14, rfl, o14, hv14⟩
      refine hK.out _ _ (Kb.below hv14 (by intro p hp; rw [List.mem_singleton.1 hp]; exact hP.lt)) ?_
      replace hP := hP.below hv14
      replace hw := hw.trans (hv14.mono hw.size)
      
      replace o14 := Lib.hid (o14.mono (B := w.heap.size) hwzC)
      clear hK K hv14 hok hfl hCC hwzC hL13
      try simp only [Act.put, List.setIfInBounds_toArray, List.set_cons_zero, List.set_cons_succ]
      refine wb_pure (i := 15) (d := some 7) (v := ?_) (by simp only [List.getElem?_toArray, List.getElem?_cons_succ, List.getElem?_cons_zero] <;> rfl) (by rfl) (by kernel_rfl) (by kernel_rfl) (by kernel_rfl) (fun _ _ _ h => h) (by rfl) ?_ ?_
      rotate_left
      · ((intro u); go_simp; try with_reducible rfl)
      try simp only [Act.put, List.setIfInBounds_toArray, List.set_cons_zero, List.set_cons_succ]
      refine wb_done (by kernel_rfl) ?_ _
      go_wp2_with fail
      (try simp only [Exit.inBlock, Exit.then]); refine bodyPost_ret (results_tmp2 rfl _ _ _) rfl ?_
      exact ⟨_, rfl, by rw [HE.out]; exact o14.out, hw⟩
  · go_simp
    refine hK.out _ _ (Kb.gb (World.grownBy_alloc _ _ none) (by intro p hp; rw [List.mem_singleton.1 hp]; exact ⟨hP.lt, by simp⟩)) ?_
    refine wb_new (cs := bV [80, N, 255, 255, 0, 0, 0, 0]) (t := 5) (fun u10 hv10 hL10 hz10 => ?_)
    obtain ⟨A10, hS10, hA10, hE10⟩ := lit_ex (slB_blk (n := 8) hL10 rfl)
    rw [hE10]
    replace hS10 := Lib.hid hS10
    replace hA10 := Lib.hid hA10
    replace hP := hP.below hv10
    replace hw := hw.trans (hv10.mono hw.size)
    try (replace hS4 := Lib.hid (hS4.out.below hv10))
    try (replace hS8 := Lib.hid (hS8.out.below hv10))
    try (replace hS10 := Lib.hid (hS10.out.below hv10))
    try (replace hS5 := Lib.hid (hS5.out.below hv10))
    clear hK K hz10 hL10 hv10 hE10
    try simp only [Act.put, List.setIfInBounds_toArray, List.set_cons_zero, List.set_cons_succ]
    refine wb_one (i := 4) (by simp only [List.getElem?_toArray, List.getElem?_cons_succ, List.getElem?_cons_zero] <;> rfl) (by kernel_rfl) (by rfl) (fun K hK => ?_)
    go_simp
    refine (big_sl 4 seq _ (by omega) hq.out.seq0 (by omega)).mono ?_
    rintro e u4 ⟨A4, c4, rfl, hS4, hA4, hv4⟩
    refine hK.out _ _ (Kb.below hv4 (by intro p hp; rw [List.mem_singleton.1 hp]; exact hP.lt)) ?_
    replace hP := hP.below hv4
    replace hw := hw.trans (hv4.mono hw.size)
    try (replace hS4 := Lib.hid (hS4.out.below hv4))
    try (replace hS8 := Lib.hid (hS8.out.below hv4))
    try (replace hS10 := Lib.hid (hS10.out.below hv4))
    try (replace hS5 := Lib.hid (hS5.out.below hv4))
    replace hS4 := Lib.hid hS4
    replace hA4 := Lib.hid hA4
    clear hK K hv4
    try simp only [Act.put, List.setIfInBounds_toArray, List.set_cons_zero, List.set_cons_succ]
    refine wb_one (i := 8) (by simp only [List.getElem?_toArray, List.getElem?_cons_succ, List.getElem?_cons_zero] <;> rfl) (by kernel_rfl) (by rfl) (fun K hK => ?_)
    go_simp
    refine (big_sl 4 ack _ (by omega) hq.out.ack0 (by omega)).mono ?_
    rintro e u8 ⟨A8, c8, rfl, hS8, hA8, hv8⟩
    refine hK.out _ _ (Kb.below hv8 (by intro p hp; rw [List.mem_singleton.1 hp]; exact hP.lt)) ?_
    replace hP := hP.below hv8
    replace hw := hw.trans (hv8.mono hw.size)
    try (replace hS4 := Lib.hid (hS4.out.below hv8))
    try (replace hS8 := Lib.hid (hS8.out.below hv8))
    try (replace hS10 := Lib.hid (hS10.out.below hv8))
    try (replace hS5 := Lib.hid (hS5.out.below hv8))
    replace hS8 := Lib.hid hS8
    replace hA8 := Lib.hid hA8
    clear hK K hv8
    try simp only [Act.put, List.setIfInBounds_toArray, List.set_cons_zero, List.set_cons_succ]
    refine wb_one (i := 13) (by simp only [List.getElem?_toArray, List.getElem?_cons_succ, List.getElem?_cons_zero] <;> rfl) (by kernel_rfl) (by rfl) (fun K hK => ?_)
    go_simp
    refine hK.out _ _ (Kb.gb (World.grownBy_alloc _ _ none) (by intro p hp; rw [List.mem_singleton.1 hp]; exact ⟨hP.lt, by simp⟩)) ?_
    refine wb_new (cs := [.slice A5 4 c5, .slice A4 4 c4, .slice A8 4 c8, .slice A10 8 8, .slice A n cap]) (t := 43) (fun u13 hv13 hL13 hz13 => ?_)
    replace hP := hP.below hv13
    replace hw := hw.trans (hv13.mono hw.size)
    try (replace hS4 := Lib.hid (hS4.out.below hv13))
    try (replace hS8 := Lib.hid (hS8.out.below hv13))
    try (replace hS10 := Lib.hid (hS10.out.below hv13))
    try (replace hS5 := Lib.hid (hS5.out.below hv13))
    clear hK K hz13 hv13
    try simp only [Act.put, List.setIfInBounds_toArray, List.set_cons_zero, List.set_cons_succ]
    refine wb_one (i := 14) (by simp only [List.getElem?_toArray, List.getElem?_cons_succ, List.getElem?_cons_zero] <;> rfl) (by kernel_rfl) (by rfl) (fun K hK => ?_)
    go_simp
    have hok : ∀ s ∈ ([SS.mk A5 4 c5 pb, SS.mk A4 4 c4 ((be seq.toNat 4)), SS.mk A8 4 c8 ((be ack.toNat 4)), SS.mk A10 8 8 ([80, N, 255, 255, 0, 0, 0, 0]), SS.mk A n cap pl] : List SS), s.ok _ := ok5 ⟨hS5.out, hA5.out⟩ ⟨hS4.out, hA4.out⟩ ⟨hS8.out, hA8.out⟩ ⟨hS10.out, hA10.out⟩ ⟨hS.out.below hw, hA.out⟩
    have hfl : flatS [SS.mk A5 4 c5 pb, SS.mk A4 4 c4 ((be seq.toNat 4)), SS.mk A8 4 c8 ((be ack.toNat 4)), SS.mk A10 8 8 ([80, N, 255, 255, 0, 0, 0, 0]), SS.mk A n cap pl] = pb ++ (be seq.toNat 4 ++ (be ack.toNat 4 ++ ([80, N, 255, 255, 0, 0, 0, 0] ++ pl))) := by simp [flatS]
    have hCC := concat_blk _ 5 [SS.mk A5 4 c5 pb, SS.mk A4 4 c4 ((be seq.toNat 4)), SS.mk A8 4 c8 ((be ack.toNat 4)), SS.mk A10 8 8 ([80, N, 255, 255, 0, 0, 0, 0]), SS.mk A n cap pl] 43 _ hL13 rfl hok (by rw [hfl]; simp only [List.length_append, be_len, List.length_cons, List.length_nil, hpbl.out, ← hl.out]; omega) (by rw [hfl]; simp only [List.length_append, be_len, List.length_cons, List.length_nil, hpbl.out, ← hl.out]; omega) (by omega)
    rw [hfl] at hCC
    have hwzC := hw.size
    refine hCC.mono ?_
    rintro e u14 ⟨v14, rfl, o14, hv14⟩
    refine hK.out _ _ (Kb.below hv14 (by intro p hp; rw [List.mem_singleton.1 hp]; exact hP.lt)) ?_
    replace hP := hP.below hv14
    replace hw := hw.trans (hv14.mono hw.size)
    
    replace o14 := Lib.hid (o14.mono (B := w.heap.size) hwzC)
    clear hK K hv14 hok hfl hCC hwzC hL13
    try simp only [Act.put, List.setIfInBounds_toArray, List.set_cons_zero, List.set_cons_succ]
    refine wb_pure (i := 15) (d := some 7) (v := ?_) (by simp only [List.getElem?_toArray, List.getElem?_cons_succ, List.getElem?_cons_zero] <;> rfl) (by rfl) (by kernel_rfl) (by kernel_rfl) (by kernel_rfl) (fun _ _ _ h => h) (by rfl) ?_ ?_
    rotate_left
    · ((intro u); go_simp; try with_reducible rfl)
    try simp only [Act.put, List.setIfInBounds_toArray, List.set_cons_zero, List.set_cons_succ]
    refine wb_done (by kernel_rfl) ?_ _
    go_wp2_with fail
    (try simp only [Exit.inBlock, Exit.then]); refine bodyPost_ret (results_tmp2 rfl _ _ _) rfl ?_
    exact ⟨_, rfl, by rw [HE.out]; exact o14.out, hw⟩
set_option maxHeartbeats 1000000 in
set_option maxRecDepth 100000 in
theorem part_udp (q : Pk) (A : Option Addr) (n cap : Nat) (pl : List Nat) (w : World) (hq : PkOk q) (hp : q.proto = 17) (hS : SlB w A n cap pl) (hA : A = none → cap = 0) (hn : n ≤ 1400) :
    Calls Try.prog 49 #[pkV q (.slice A n cap)] w fun e w' => ∃ v, e = .returned (.tuple #[v, .int .i64 6]) ∧ Own w.heap.size w' v (headP q n ++ pl) ∧ Below w.heap.size w w' := by
  have hP := Blk.new w (pkL q (.slice A n cap)) 45
  have hw : Below w.heap.size w (w.alloc (.cells #[.bool q.fs, .int .u64 q.fh, .int .u64 q.fl, .bool q.ts, .int .u64 q.th, .int .u64 q.tl, .int .i64 q.hops, .int .i64 q.proto, .int .i64 q.fp, .int .i64 q.tp, .bool q.syn, .bool q.fin, .bool q.rst, .bool q.has, .int .i64 q.seq, .int .i64 q.ack, .bool q.reply, .int .i64 q.id, .slice A n cap] 45)) := (Below.refl _ _).alloc (Nat.le_refl _) _
  have hl := Lib.hid hS.len
  have HH := Lib.hid (show headP q n = be q.fp.toNat 2 ++ be q.tp.toNat 2 ++ be (8 + n) 2 ++ [0, 0] by unfold headP; rw [if_neg (by omega), if_pos hp])
  generalize headP q n = hd at HH ⊢
  replace hA := Lib.hid hA
  have q1 := hq.fp1
  have q2 := hq.tp1
  have q3 := hq.seq1
  have q4 := hq.ack1
  have wfp := wrapU q.fp hq.fp0 (by omega)
  have wtp := wrapU q.tp hq.tp0 (by omega)
  have wseq := wrapU q.seq hq.seq0 (by omega)
  have wack := wrapU q.ack hq.ack0 (by omega)
  replace hq := Lib.hid hq
  replace hS := Lib.hid hS
  obtain ⟨fs, fh, fl, ts, th, tl, hops, proto, fp, tp, syn, fin, rst, has, seq, ack, reply, id⟩ := q
  dsimp only at *
  subst hp
  go_enter Try.func49, Try.ntmps49
  go_wp2_with fail
  refine wb_begin ([w.heap.size]) [] (by kernel_rfl) (fun u0 hb0' hz0' => ?_)
  replace hP := hP.below hb0'
  replace hw := hw.trans (hb0'.mono hw.size)
  have hB1 : w.heap.size + 1 ≤ u0.heap.size := by have := hP.lt; omega
  clear hb0' hz0'
  refine wb_pure (i := 0) (d := some 9) (v := ?_) (by simp only [List.getElem?_toArray, List.getElem?_cons_succ, List.getElem?_cons_zero] <;> rfl) (by rfl) (by kernel_rfl) (by kernel_rfl) (by kernel_rfl) (fun _ _ _ h => h) (by rfl) ?_ ?_
  rotate_left
  · ((intro u); go_simp; try with_reducible rfl)
  try simp only [Act.put, List.setIfInBounds_toArray, List.set_cons_zero, List.set_cons_succ]
  refine wb_take (i := 1) (d := some 10) (v := ?_) (by simp only [List.getElem?_toArray, List.getElem?_cons_succ, List.getElem?_cons_zero] <;> rfl) (by rfl) (by kernel_rfl) (by kernel_rfl) (by kernel_rfl) (fun _ _ _ h => h) (by rfl) (by kernel_rfl) ?_ ?_
  rotate_left
  · ((intro u hu); have k8 := (hP.kb hu (by simp)).cell (i := 8) (v := .int .i64 fp) rfl; have k9 := (hP.kb hu (by simp)).cell (i := 9) (v := .int .i64 tp) rfl; go_simp; try with_reducible rfl)
  try simp only [Act.put, List.setIfInBounds_toArray, List.set_cons_zero, List.set_cons_succ]
  refine wb_pure (i := 2) (d := some 11) (v := ?_) (by simp only [List.getElem?_toArray, List.getElem?_cons_succ, List.getElem?_cons_zero] <;> rfl) (by rfl) (by kernel_rfl) (by kernel_rfl) (by kernel_rfl) (fun _ _ _ h => h) (by rfl) ?_ ?_
  rotate_left
  · ((intro u); go_simp; try with_reducible rfl)
  try simp only [Act.put, List.setIfInBounds_toArray, List.set_cons_zero, List.set_cons_succ]
  refine wb_pure (i := 4) (d := some 13) (v := ?_) (by simp only [List.getElem?_toArray, List.getElem?_cons_succ, List.getElem?_cons_zero] <;> rfl) (by rfl) (by kernel_rfl) (by kernel_rfl) (by kernel_rfl) (fun _ _ _ h => h) (by rfl) ?_ ?_
  rotate_left
  · ((intro u); go_simp; try with_reducible rfl)
  try simp only [Act.put, List.setIfInBounds_toArray, List.set_cons_zero, List.set_cons_succ]
  refine wb_take (i := 5) (d := some 14) (v := ?_) (by simp only [List.getElem?_toArray, List.getElem?_cons_succ, List.getElem?_cons_zero] <;> rfl) (by rfl) (by kernel_rfl) (by kernel_rfl) (by kernel_rfl) (fun _ _ _ h => h) (by rfl) (by kernel_rfl) ?_ ?_
  rotate_left
  · ((intro u hu); have k8 := (hP.kb hu (by simp)).cell (i := 8) (v := .int .i64 fp) rfl; have k9 := (hP.kb hu (by simp)).cell (i := 9) (v := .int .i64 tp) rfl; go_simp; try with_reducible rfl)
  try simp only [Act.put, List.setIfInBounds_toArray, List.set_cons_zero, List.set_cons_succ]
  refine wb_pure (i := 6) (d := some 15) (v := ?_) (by simp only [List.getElem?_toArray, List.getElem?_cons_succ, List.getElem?_cons_zero] <;> rfl) (by rfl) (by kernel_rfl) (by kernel_rfl) (by kernel_rfl) (fun _ _ _ h => h) (by rfl) ?_ ?_
  rotate_left
  · ((intro u); go_simp; try with_reducible rfl)
  try simp only [Act.put, List.setIfInBounds_toArray, List.set_cons_zero, List.set_cons_succ]
  refine wb_one (i := 3) (by simp only [List.getElem?_toArray, List.getElem?_cons_succ, List.getElem?_cons_zero] <;> rfl) (by kernel_rfl) (by rfl) (fun K hK => ?_)
  go_simp
  refine (big_own 2 fp _ (by omega) hq.out.fp0 (by omega)).mono ?_
  rintro e u3 ⟨v3, rfl, o3, hv3⟩
  refine hK.out _ _ (Kb.below hv3 (by intro p hp; rw [List.mem_singleton.1 hp]; exact hP.lt)) ?_
  have hwz3 := hw.size
  replace hP := hP.below hv3
  replace hw := hw.trans (hv3.mono hw.size)
  try (replace o3 := Lib.hid (o3.out.below hv3))
  replace o3 := Lib.hid (o3.mono (B := w.heap.size + 1) (Nat.le_trans hB1 (by omega)))
  replace hB1 := Nat.le_trans hB1 hv3.size
  clear hK K hv3
  try simp only [Act.put, List.setIfInBounds_toArray, List.set_cons_zero, List.set_cons_succ]
  refine wb_one (i := 7) (by simp only [List.getElem?_toArray, List.getElem?_cons_succ, List.getElem?_cons_zero] <;> rfl) (by kernel_rfl) (by rfl) (fun K hK => ?_)
  go_simp
  refine (big_own 2 tp _ (by omega) hq.out.tp0 (by omega)).mono ?_
  rintro e u7 ⟨v7, rfl, o7, hv7⟩
  refine hK.out _ _ (Kb.below hv7 (by intro p hp; rw [List.mem_singleton.1 hp]; exact hP.lt)) ?_
  have hwz7 := hw.size
  replace hP := hP.below hv7
  replace hw := hw.trans (hv7.mono hw.size)
  try (replace o3 := Lib.hid (o3.out.below hv7))
  replace o7 := Lib.hid (o7.mono (B := w.heap.size + 1) (Nat.le_trans hB1 (by omega)))
  replace hB1 := Nat.le_trans hB1 hv7.size
  clear hK K hv7
  obtain ⟨A7, c7', rfl, hS7, hA7⟩ := o7.out.sl
  try simp only [Act.put, List.setIfInBounds_toArray, List.set_cons_zero, List.set_cons_succ]
  refine wb_one (i := 8) (by simp only [List.getElem?_toArray, List.getElem?_cons_succ, List.getElem?_cons_zero] <;> rfl) (by kernel_rfl) (by rfl) (fun K hK => ?_)
  refine wp_append_slB _ _ rfl (w.heap.size + 1) _ (be fp.toNat 2) rfl o3.out A7 _ c7' _ rfl hS7 hA7 (by simp [be_len]) hB1 ?_
  intro v8 u8 o8 hg8
  have hv8 := own_next hg8 o3.out hB1
  refine hK.out _ _ (Kb.below hv8 (by intro p hp; rw [List.mem_singleton.1 hp]; omega)) ?_
  replace hP := hP.upB (Nat.lt_succ_self _) hv8
  replace hw := hw.trans (hv8.mono (by omega))
  replace hB1 := Nat.le_trans hB1 hg8.size
  clear hK K hv8 hg8 hS7 hA7 o3 o7
  try simp only [Act.put, List.setIfInBounds_toArray, List.set_cons_zero, List.set_cons_succ]
  refine wb_pure (i := 9) (d := some 5) (v := ?_) (by simp only [List.getElem?_toArray, List.getElem?_cons_succ, List.getElem?_cons_zero] <;> rfl) (by rfl) (by kernel_rfl) (by kernel_rfl) (by kernel_rfl) (fun _ _ _ h => h) (by rfl) ?_ ?_
  rotate_left
  · ((intro u); go_simp; try with_reducible rfl)
  try simp only [Act.put, List.setIfInBounds_toArray, List.set_cons_zero, List.set_cons_succ]
  refine wb_done (by kernel_rfl) ?_ _
  skip
  obtain ⟨A5, c5, rfl, hS5, hA5⟩ := o8.sl
  obtain ⟨pb, hpb⟩ : ∃ pb, pb = be fp.toNat 2 ++ be tp.toNat 2 := ⟨_, rfl⟩
  have hpbl : (be fp.toNat 2 ++ be tp.toNat 2).length = 4 := by simp [be_len]
  rw [hpbl] at hS5 ⊢
  rw [← hpb] at hpbl hS5 HH
  have HE := Lib.hid (show hd ++ pl = pb ++ (be (8 + (n : Int)).toNat 2 ++ ([0, 0] ++ pl)) by rw [HH.out, show (8 + (n : Int)).toNat = 8 + n by omega]; simp)
  replace hpb := Lib.hid hpb
  replace hpbl := Lib.hid hpbl
  replace hS5 := Lib.hid hS5
  replace hA5 := Lib.hid hA5
  have c7 := hP.cell (i := 7) (v := .int .i64 17) rfl
  have wlen := wrapI (8 + (n : Int)) (by omega) (by omega)
  have wlen2 := wrapU (8 + (n : Int)) (by omega) (by omega)
  clear o8
  go_wp2_with fail
  refine wb_begin ([w.heap.size]) [] (by kernel_rfl) (fun u0 hb0' hz0' => ?_)
  try (replace hS6 := Lib.hid (hS6.out.below hb0'))
  try (replace hS7 := Lib.hid (hS7.out.below hb0'))
  try (replace hS5 := Lib.hid (hS5.out.below hb0'))
  replace hP := hP.below hb0'
  replace hw := hw.trans (hb0'.mono hw.size)
  clear hb0' hz0'
  refine wb_pure (i := 0) (d := some 59) (v := ?_) (by simp only [List.getElem?_toArray, List.getElem?_cons_succ, List.getElem?_cons_zero] <;> rfl) (by rfl) (by kernel_rfl) (by kernel_rfl) (by kernel_rfl) (fun _ _ _ h => h) (by rfl) ?_ ?_
  rotate_left
  · ((intro u); go_simp; try with_reducible rfl)
  try simp only [Act.put, List.setIfInBounds_toArray, List.set_cons_zero, List.set_cons_succ]
  refine wb_pure (i := 1) (d := some 60) (v := ?_) (by simp only [List.getElem?_toArray, List.getElem?_cons_succ, List.getElem?_cons_zero] <;> rfl) (by rfl) (by kernel_rfl) (by kernel_rfl) (by kernel_rfl) (fun _ _ _ h => h) (by rfl) ?_ ?_
  rotate_left
  · ((intro u); go_simp; try with_reducible rfl)
  try simp only [Act.put, List.setIfInBounds_toArray, List.set_cons_zero, List.set_cons_succ]
  refine wb_take (i := 2) (d := some 61) (v := ?_) (by simp only [List.getElem?_toArray, List.getElem?_cons_succ, List.getElem?_cons_zero] <;> rfl) (by rfl) (by kernel_rfl) (by kernel_rfl) (by kernel_rfl) (fun _ _ _ h => h) (by rfl) (by kernel_rfl) ?_ ?_
  rotate_left
  · ((intro u hu); have k18 := (hP.kb hu (by simp)).cell (i := 18) (v := .slice A n cap) rfl; go_simp; try with_reducible rfl)
  try simp only [Act.put, List.setIfInBounds_toArray, List.set_cons_zero, List.set_cons_succ]
  refine wb_pure (i := 8) (d := some 67) (v := ?_) (by simp only [List.getElem?_toArray, List.getElem?_cons_succ, List.getElem?_cons_zero] <;> rfl) (by rfl) (by kernel_rfl) (by kernel_rfl) (by kernel_rfl) (fun _ _ _ h => h) (by rfl) ?_ ?_
  rotate_left
  · ((intro u); go_simp; try with_reducible rfl)
  try simp only [Act.put, List.setIfInBounds_toArray, List.set_cons_zero, List.set_cons_succ]
  refine wb_take (i := 9) (d := some 68) (v := ?_) (by simp only [List.getElem?_toArray, List.getElem?_cons_succ, List.getElem?_cons_zero] <;> rfl) (by rfl) (by kernel_rfl) (by kernel_rfl) (by kernel_rfl) (fun _ _ _ h => h) (by rfl) (by kernel_rfl) ?_ ?_
  rotate_left
  · ((intro u hu); have k18 := (hP.kb hu (by simp)).cell (i := 18) (v := .slice A n cap) rfl; go_simp; try with_reducible rfl)
  try simp only [Act.put, List.setIfInBounds_toArray, List.set_cons_zero, List.set_cons_succ]
  refine wb_two (i := 3) (k := 7) (by simp only [List.getElem?_toArray, List.getElem?_cons_succ, List.getElem?_cons_zero] <;> rfl) (by simp only [List.getElem?_toArray, List.getElem?_cons_succ, List.getElem?_cons_zero] <;> rfl) (by kernel_rfl) (by rfl) (by rfl) (fun K hK => ?_) (fun K hK => ?_)
  · go_simp
    refine hK.out _ _ (Kb.refl _ _) ?_
    clear hK K
    try simp only [Act.put, List.setIfInBounds_toArray, List.set_cons_zero, List.set_cons_succ]
    refine wb_pure (i := 4) (d := some 63) (v := ?_) (by simp only [List.getElem?_toArray, List.getElem?_cons_succ, List.getElem?_cons_zero] <;> rfl) (by rfl) (by kernel_rfl) (by kernel_rfl) (by kernel_rfl) (fun _ _ _ h => h) (by rfl) ?_ ?_
    rotate_left
    · ((intro u); go_simp; try with_reducible rfl)
    try simp only [Act.put, List.setIfInBounds_toArray, List.set_cons_zero, List.set_cons_succ]
    refine wb_pure (i := 5) (d := some 64) (v := ?_) (by simp only [List.getElem?_toArray, List.getElem?_cons_succ, List.getElem?_cons_zero] <;> rfl) (by rfl) (by kernel_rfl) (by kernel_rfl) (by kernel_rfl) (fun _ _ _ h => h) (by rfl) ?_ ?_
    rotate_left
    · ((intro u); go_simp; try with_reducible rfl)
    try simp only [Act.put, List.setIfInBounds_toArray, List.set_cons_zero, List.set_cons_succ]
    refine wb_two (i := 6) (k := 7) (by simp only [List.getElem?_toArray, List.getElem?_cons_succ, List.getElem?_cons_zero] <;> rfl) (by simp only [List.getElem?_toArray, List.getElem?_cons_succ, List.getElem?_cons_zero] <;> rfl) (by kernel_rfl) (by rfl) (by rfl) (fun K hK => ?_) (fun K hK => ?_)
    · go_simp
      refine (big_sl 2 (8 + (n : Int)) _ (by omega) (by omega) (by omega)).mono ?_
      rintro e u6 ⟨A6, c6, rfl, hS6, hA6, hv6⟩
      refine hK.out _ _ (Kb.below hv6 (by intro p hp; rw [List.mem_singleton.1 hp]; exact hP.lt)) ?_
      replace hP := hP.below hv6
      replace hw := hw.trans (hv6.mono hw.size)
      try (replace hS6 := Lib.hid (hS6.out.below hv6))
      try (replace hS7 := Lib.hid (hS7.out.below hv6))
      try (replace hS5 := Lib.hid (hS5.out.below hv6))
      replace hS6 := Lib.hid hS6
      replace hA6 := Lib.hid hA6
      clear hK K hv6
      try simp only [Act.put, List.setIfInBounds_toArray, List.set_cons_zero, List.set_cons_succ]
      refine wb_one (i := 7) (by simp only [List.getElem?_toArray, List.getElem?_cons_succ, List.getElem?_cons_zero] <;> rfl) (by kernel_rfl) (by rfl) (fun K hK => ?_)
      go_simp
      refine hK.out _ _ (Kb.gb (World.grownBy_alloc _ _ none) (by intro p hp; rw [List.mem_singleton.1 hp]; exact ⟨hP.lt, by simp⟩)) ?_
      refine wb_new (cs := bV [0, 0]) (t := 5) (fun u7 hv7 hL7 hz7 => ?_)
      obtain ⟨A7, hS7, hA7, hE7⟩ := lit_ex (slB_blk (n := 2) hL7 rfl)
      rw [hE7]
      replace hS7 := Lib.hid hS7
      replace hA7 := Lib.hid hA7
      replace hP := hP.below hv7
      replace hw := hw.trans (hv7.mono hw.size)
      try (replace hS6 := Lib.hid (hS6.out.below hv7))
      try (replace hS7 := Lib.hid (hS7.out.below hv7))
      try (replace hS5 := Lib.hid (hS5.out.below hv7))
      clear hK K hz7 hL7 hv7 hE7
      try simp only [Act.put, List.setIfInBounds_toArray, List.set_cons_zero, List.set_cons_succ]
      refine wb_one (i := 10) (by simp only [List.getElem?_toArray, List.getElem?_cons_succ, List.getElem?_cons_zero] <;> rfl) (by kernel_rfl) (by rfl) (fun K hK => ?_)
      go_simp
      refine hK.out _ _ (Kb.gb (World.grownBy_alloc _ _ none) (by intro p hp; rw [List.mem_singleton.1 hp]; exact ⟨hP.lt, by simp⟩)) ?_
      refine wb_new (cs := [.slice A5 4 c5, .slice A6 2 c6, .slice A7 2 2, .slice A n cap]) (t := 43) (fun u10 hv10 hL10 hz10 => ?_)
      replace hP := hP.below hv10
      replace hw := hw.trans (hv10.mono hw.size)
      try (replace hS6 := Lib.hid (hS6.out.below hv10))
      try (replace hS7 := Lib.hid (hS7.out.below hv10))
      try (replace hS5 := Lib.hid (hS5.out.below hv10))
      clear hK K hz10 hv10
      try simp only [Act.put, List.setIfInBounds_toArray, List.set_cons_zero, List.set_cons_succ]
      refine wb_one (i := 11) (by simp only [List.getElem?_toArray, List.getElem?_cons_succ, List.getElem?_cons_zero] <;> rfl) (by kernel_rfl) (by rfl) (fun K hK => ?_)
      go_simp
      have hok : ∀ s ∈ ([SS.mk A5 4 c5 pb, SS.mk A6 2 c6 ((be (8 + (n : Int)).toNat 2)), SS.mk A7 2 2 ([0, 0]), SS.mk A n cap pl] : List SS), s.ok _ := ok4 ⟨hS5.out, hA5.out⟩ ⟨hS6.out, hA6.out⟩ ⟨hS7.out, hA7.out⟩ ⟨hS.out.below hw, hA.out⟩
      have hfl : flatS [SS.mk A5 4 c5 pb, SS.mk A6 2 c6 ((be (8 + (n : Int)).toNat 2)), SS.mk A7 2 2 ([0, 0]), SS.mk A n cap pl] = pb ++ (be (8 + (n : Int)).toNat 2 ++ ([0, 0] ++ pl)) := by simp [flatS]
      have hCC := concat_blk _ 4 [SS.mk A5 4 c5 pb, SS.mk A6 2 c6 ((be (8 + (n : Int)).toNat 2)), SS.mk A7 2 2 ([0, 0]), SS.mk A n cap pl] 43 _ hL10 rfl hok (by rw [hfl]; simp only [List.length_append, be_len, List.length_cons, List.length_nil, hpbl.out, ← hl.out]; omega) (by rw [hfl]; simp only [List.length_append, be_len, List.length_cons, List.length_nil, hpbl.out, ← hl.out]; omega) (by omega)
      rw [hfl] at hCC
      have hwzC := hw.size
      refine hCC.mono ?_
      rintro e u11 ⟨v11, rfl, o11, hv11⟩
      refine hK.out _ _ (Kb.below hv11 (by intro p hp; rw [List.mem_singleton.1 hp]; exact hP.lt)) ?_
      replace hP := hP.below hv11
      replace hw := hw.trans (hv11.mono hw.size)
      
      replace o11 := Lib.hid (o11.mono (B := w.heap.size) hwzC)
      clear hK K hv11 hok hfl hCC hwzC hL10
      try simp only [Act.put, List.setIfInBounds_toArray, List.set_cons_zero, List.set_cons_succ]
      refine wb_pure (i := 12) (d := some 2) (v := ?_) (by simp only [List.getElem?_toArray, List.getElem?_cons_succ, List.getElem?_cons_zero] <;> rfl) (by rfl) (by kernel_rfl) (by kernel_rfl) (by kernel_rfl) (fun _ _ _ h => h) (by rfl) ?_ ?_
      rotate_left
      · ((intro u); go_simp; try with_reducible rfl)
      try simp only [Act.put, List.setIfInBounds_toArray, List.set_cons_zero, List.set_cons_succ]
      refine wb_pure (i := 13) (d := some 3) (v := ?_) (by simp only [List.getElem?_toArray, List.getElem?_cons_succ, List.getElem?_cons_zero] <;> rfl) (by rfl) (by kernel_rfl) (by kernel_rfl) (by kernel_rfl) (fun _ _ _ h => h) (by rfl) ?_ ?_
      rotate_left
      · ((intro u); go_simp; try with_reducible rfl)
      try simp only [Act.put, List.setIfInBounds_toArray, List.set_cons_zero, List.set_cons_succ]
      refine wb_done (by kernel_rfl) ?_ _
      go_wp2_with fail
      (try simp only [Exit.inBlock, Exit.then]); refine bodyPost_ret (results_tmp2 rfl _ _ _) rfl ?_
      exact ⟨_, rfl, by rw [HE.out]; exact o11.out, hw⟩
    · go_simp
      refine hK.out _ _ (Kb.gb (World.grownBy_alloc _ _ none) (by intro p hp; rw [List.mem_singleton.1 hp]; exact ⟨hP.lt, by simp⟩)) ?_
      refine wb_new (cs := bV [0, 0]) (t := 5) (fun u7 hv7 hL7 hz7 => ?_)
      obtain ⟨A7, hS7, hA7, hE7⟩ := lit_ex (slB_blk (n := 2) hL7 rfl)
      rw [hE7]
      replace hS7 := Lib.hid hS7
      replace hA7 := Lib.hid hA7
      replace hP := hP.below hv7
      replace hw := hw.trans (hv7.mono hw.size)
      try (replace hS6 := Lib.hid (hS6.out.below hv7))
      try (replace hS7 := Lib.hid (hS7.out.below hv7))
      try (replace hS5 := Lib.hid (hS5.out.below hv7))
      clear hK K hz7 hL7 hv7 hE7
      try simp only [Act.put, List.setIfInBounds_toArray, List.set_cons_zero, List.set_cons_succ]
      refine wb_one (i := 6) (by simp only [List.getElem?_toArray, List.getElem?_cons_succ, List.getElem?_cons_zero] <;> rfl) (by kernel_rfl) (by rfl) (fun K hK => ?_)
      go_simp
      refine (big_sl 2 (8 + (n : Int)) _ (by omega) (by omega) (by omega)).mono ?_
      rintro e u6 ⟨A6, c6, rfl, hS6, hA6, hv6⟩
      refine hK.out _ _ (Kb.below hv6 (by intro p hp; rw [List.mem_singleton.1 hp]; exact hP.lt)) ?_
      replace hP := hP.below hv6
      replace hw := hw.trans (hv6.mono hw.size)
      try (replace hS6 := Lib.hid (hS6.out.below hv6))
      try (replace hS7 := Lib.hid (hS7.out.below hv6))
      try (replace hS5 := Lib.hid (hS5.out.below hv6))
      replace hS6 := Lib.hid hS6
      replace hA6 := Lib.hid hA6
      clear hK K hv6
      try simp only [Act.put, List.setIfInBounds_toArray, List.set_cons_zero, List.set_cons_succ]
      refine wb_one (i := 10) (by simp only [List.getElem?_toArray, List.getElem?_cons_succ, List.getElem?_cons_zero] <;> rfl) (by kernel_rfl) (by rfl) (fun K hK => ?_)
      go_simp
      refine hK.out _ _ (Kb.gb (World.grownBy_alloc _ _ none) (by intro p hp; rw [List.mem_singleton.1 hp]; exact ⟨hP.lt, by simp⟩)) ?_
      refine wb_new (cs := [.slice A5 4 c5, .slice A6 2 c6, .slice A7 2 2, .slice A n cap]) (t := 43) (fun u10 hv10 hL10 hz10 => ?_)
      replace hP := hP.below hv10
      replace hw := hw.trans (hv10.mono hw.size)
      try (replace hS6 := Lib.hid (hS6.out.below hv10))
      try (replace hS7 := Lib.hid (hS7.out.below hv10))
      try (replace hS5 := Lib.hid (hS5.out.below hv10))
      clear hK K hz10 hv10
      try simp only [Act.put, List.setIfInBounds_toArray, List.set_cons_zero, List.set_cons_succ]
      refine wb_one (i := 11) (by simp only [List.getElem?_toArray, List.getElem?_cons_succ, List.getElem?_cons_zero] <;> rfl) (by kernel_rfl) (by rfl) (fun K hK => ?_)
      go_simp
      have hok : ∀ s ∈ ([SS.mk A5 4 c5 pb, SS.mk A6 2 c6 ((be (8 + (n : Int)).toNat 2)), SS.mk A7 2 2 ([0, 0]), SS.mk A n cap pl] : List SS), s.ok _ := ok4 ⟨hS5.out, hA5.out⟩ ⟨hS6.out, hA6.out⟩ ⟨hS7.out, hA7.out⟩ ⟨hS.out.below hw, hA.out⟩
      have hfl : flatS [SS.mk A5 4 c5 pb, SS.mk A6 2 c6 ((be (8 + (n : Int)).toNat 2)), SS.mk A7 2 2 ([0, 0]), SS.mk A n cap pl] = pb ++ (be (8 + (n : Int)).toNat 2 ++ ([0, 0] ++ pl)) := by simp [flatS]
      have hCC := concat_blk _ 4 [SS.mk A5 4 c5 pb, SS.mk A6 2 c6 ((be (8 + (n : Int)).toNat 2)), SS.mk A7 2 2 ([0, 0]), SS.mk A n cap pl] 43 _ hL10 rfl hok (by rw [hfl]; simp only [List.length_append, be_len, List.length_cons, List.length_nil, hpbl.out, ← hl.out]; omega) (by rw [hfl]; simp only [List.length_append, be_len, List.length_cons, List.length_nil, hpbl.out, ← hl.out]; omega) (by omega)
      rw [hfl] at hCC
      have hwzC := hw.size
      refine hCC.mono ?_
      rintro e u11 ⟨v11, rfl, o11, hv11⟩
      refine hK.out _ _ (Kb.below hv11 (by intro p hp; rw [List.mem_singleton.1 hp]; exact hP.lt)) ?_
      replace hP := hP.below hv11
      replace hw := hw.trans (hv11.mono hw.size)
      
      replace o11 := Lib.hid (o11.mono (B := w.heap.size) hwzC)
      clear hK K hv11 hok hfl hCC hwzC hL10
      try simp only [Act.put, List.setIfInBounds_toArray, List.set_cons_zero, List.set_cons_succ]
      refine wb_pure (i := 12) (d := some 2) (v := ?_) (by simp only [List.getElem?_toArray, List.getElem?_cons_succ, List.getElem?_cons_zero] <;> rfl) (by rfl) (by kernel_rfl) (by kernel_rfl) (by kernel_rfl) (fun _ _ _ h => h) (by rfl) ?_ ?_
      rotate_left
      · ((intro u); go_simp; try with_reducible rfl)
      try simp only [Act.put, List.setIfInBounds_toArray, List.set_cons_zero, List.set_cons_succ]
      refine wb_pure (i := 13) (d := some 3) (v := ?_) (by simp only [List.getElem?_toArray, List.getElem?_cons_succ, List.getElem?_cons_zero] <;> rfl) (by rfl) (by kernel_rfl) (by kernel_rfl) (by kernel_rfl) (fun _ _ _ h => h) (by rfl) ?_ ?_
      rotate_left
      · ((intro u); go_simp; try with_reducible rfl)
      try simp only [Act.put, List.setIfInBounds_toArray, List.set_cons_zero, List.set_cons_succ]
      refine wb_done (by kernel_rfl) ?_ _
      go_wp2_with fail
      (try simp only [Exit.inBlock, Exit.then]); refine bodyPost_ret (results_tmp2 rfl _ _ _) rfl ?_
      exact ⟨_, rfl, by rw [HE.out]; exact o11.out, hw⟩
  · go_simp
    refine hK.out _ _ (Kb.gb (World.grownBy_alloc _ _ none) (by intro p hp; rw [List.mem_singleton.1 hp]; exact ⟨hP.lt, by simp⟩)) ?_
    refine wb_new (cs := bV [0, 0]) (t := 5) (fun u7 hv7 hL7 hz7 => ?_)
    obtain ⟨A7, hS7, hA7, hE7⟩ := lit_ex (slB_blk (n := 2) hL7 rfl)
    rw [hE7]
    replace hS7 := Lib.hid hS7
    replace hA7 := Lib.hid hA7
    replace hP := hP.below hv7
    replace hw := hw.trans (hv7.mono hw.size)
    try (replace hS6 := Lib.hid (hS6.out.below hv7))
    try (replace hS7 := Lib.hid (hS7.out.below hv7))
    try (replace hS5 := Lib.hid (hS5.out.below hv7))
    clear hK K hz7 hL7 hv7 hE7
    try simp only [Act.put, List.setIfInBounds_toArray, List.set_cons_zero, List.set_cons_succ]
    refine wb_one (i := 3) (by simp only [List.getElem?_toArray, List.getElem?_cons_succ, List.getElem?_cons_zero] <;> rfl) (by kernel_rfl) (by rfl) (fun K hK => ?_)
    go_simp
    refine hK.out _ _ (Kb.refl _ _) ?_
    clear hK K
    try simp only [Act.put, List.setIfInBounds_toArray, List.set_cons_zero, List.set_cons_succ]
    refine wb_pure (i := 4) (d := some 63) (v := ?_) (by simp only [List.getElem?_toArray, List.getElem?_cons_succ, List.getElem?_cons_zero] <;> rfl) (by rfl) (by kernel_rfl) (by kernel_rfl) (by kernel_rfl) (fun _ _ _ h => h) (by rfl) ?_ ?_
    rotate_left
    · ((intro u); go_simp; try with_reducible rfl)
    try simp only [Act.put, List.setIfInBounds_toArray, List.set_cons_zero, List.set_cons_succ]
    refine wb_pure (i := 5) (d := some 64) (v := ?_) (by simp only [List.getElem?_toArray, List.getElem?_cons_succ, List.getElem?_cons_zero] <;> rfl) (by rfl) (by kernel_rfl) (by kernel_rfl) (by kernel_rfl) (fun _ _ _ h => h) (by rfl) ?_ ?_
    rotate_left
    · ((intro u); go_simp; try with_reducible rfl)
    try simp only [Act.put, List.setIfInBounds_toArray, List.set_cons_zero, List.set_cons_succ]
    refine wb_one (i := 6) (by simp only [List.getElem?_toArray, List.getElem?_cons_succ, List.getElem?_cons_zero] <;> rfl) (by kernel_rfl) (by rfl) (fun K hK => ?_)
    go_simp
    refine (big_sl 2 (8 + (n : Int)) _ (by omega) (by omega) (by omega)).mono ?_
    rintro e u6 ⟨A6, c6, rfl, hS6, hA6, hv6⟩
    refine hK.out _ _ (Kb.below hv6 (by intro p hp; rw [List.mem_singleton.1 hp]; exact hP.lt)) ?_
    replace hP := hP.below hv6
    replace hw := hw.trans (hv6.mono hw.size)
    try (replace hS6 := Lib.hid (hS6.out.below hv6))
    try (replace hS7 := Lib.hid (hS7.out.below hv6))
    try (replace hS5 := Lib.hid (hS5.out.below hv6))
    replace hS6 := Lib.hid hS6
    replace hA6 := Lib.hid hA6
    clear hK K hv6
    try simp only [Act.put, List.setIfInBounds_toArray, List.set_cons_zero, List.set_cons_succ]
    refine wb_one (i := 10) (by simp only [List.getElem?_toArray, List.getElem?_cons_succ, List.getElem?_cons_zero] <;> rfl) (by kernel_rfl) (by rfl) (fun K hK => ?_)
    go_simp
    refine hK.out _ _ (Kb.gb (World.grownBy_alloc _ _ none) (by intro p hp; rw [List.mem_singleton.1 hp]; exact ⟨hP.lt, by simp⟩)) ?_
    refine wb_new (cs := [.slice A5 4 c5, .slice A6 2 c6, .slice A7 2 2, .slice A n cap]) (t := 43) (fun u10 hv10 hL10 hz10 => ?_)
    replace hP := hP.below hv10
    replace hw := hw.trans (hv10.mono hw.size)
    try (replace hS6 := Lib.hid (hS6.out.below hv10))
    try (replace hS7 := Lib.hid (hS7.out.below hv10))
    try (replace hS5 := Lib.hid (hS5.out.below hv10))
    clear hK K hz10 hv10
    try simp only [Act.put, List.setIfInBounds_toArray, List.set_cons_zero, List.set_cons_succ]
    refine wb_one (i := 11) (by simp only [List.getElem?_toArray, List.getElem?_cons_succ, List.getElem?_cons_zero] <;> rfl) (by kernel_rfl) (by rfl) (fun K hK => ?_)
    go_simp
    have hok : ∀ s ∈ ([SS.mk A5 4 c5 pb, SS.mk A6 2 c6 ((be (8 + (n : Int)).toNat 2)), SS.mk A7 2 2 ([0, 0]), SS.mk A n cap pl] : List SS), s.ok _ := ok4 ⟨hS5.out, hA5.out⟩ ⟨hS6.out, hA6.out⟩ ⟨hS7.out, hA7.out⟩ ⟨hS.out.below hw, hA.out⟩
    have hfl : flatS [SS.mk A5 4 c5 pb, SS.mk A6 2 c6 ((be (8 + (n : Int)).toNat 2)), SS.mk A7 2 2 ([0, 0]), SS.mk A n cap pl] = pb ++ (be (8 + (n : Int)).toNat 2 ++ ([0, 0] ++ pl)) := by simp [flatS]
    have hCC := concat_blk _ 4 [SS.mk A5 4 c5 pb, SS.mk A6 2 c6 ((be (8 + (n : Int)).toNat 2)), SS.mk A7 2 2 ([0, 0]), SS.mk A n cap pl] 43 _ hL10 rfl hok (by rw [hfl]; simp only [List.length_append, be_len, List.length_cons, List.length_nil, hpbl.out, ← hl.out]; omega) (by rw [hfl]; simp only [List.length_append, be_len, List.length_cons, List.length_nil, hpbl.out, ← hl.out]; omega) (by omega)
    rw [hfl] at hCC
    have hwzC := hw.size
    refine hCC.mono ?_
    rintro e u11 ⟨v11, rfl, o11, hv11⟩
    refine hK.out _ _ (Kb.below hv11 (by intro p hp; rw [List.mem_singleton.1 hp]; exact hP.lt)) ?_
    replace hP := hP.below hv11
    replace hw := hw.trans (hv11.mono hw.size)
    
    replace o11 := Lib.hid (o11.mono (B := w.heap.size) hwzC)
    clear hK K hv11 hok hfl hCC hwzC hL10
    try simp only [Act.put, List.setIfInBounds_toArray, List.set_cons_zero, List.set_cons_succ]
    refine wb_pure (i := 12) (d := some 2) (v := ?_) (by simp only [List.getElem?_toArray, List.getElem?_cons_succ, List.getElem?_cons_zero] <;> rfl) (by rfl) (by kernel_rfl) (by kernel_rfl) (by kernel_rfl) (fun _ _ _ h => h) (by rfl) ?_ ?_
    rotate_left
    · ((intro u); go_simp; try with_reducible rfl)
    try simp only [Act.put, List.setIfInBounds_toArray, List.set_cons_zero, List.set_cons_succ]
    refine wb_pure (i := 13) (d := some 3) (v := ?_) (by simp only [List.getElem?_toArray, List.getElem?_cons_succ, List.getElem?_cons_zero] <;> rfl) (by rfl) (by kernel_rfl) (by kernel_rfl) (by kernel_rfl) (fun _ _ _ h => h) (by rfl) ?_ ?_
    rotate_left
    · ((intro u); go_simp; try with_reducible rfl)
    try simp only [Act.put, List.setIfInBounds_toArray, List.set_cons_zero, List.set_cons_succ]
    refine wb_done (by kernel_rfl) ?_ _
    go_wp2_with fail
    (try simp only [Exit.inBlock, Exit.then]); refine bodyPost_ret (results_tmp2 rfl _ _ _) rfl ?_
    exact ⟨_, rfl, by rw [HE.out]; exact o11.out, hw⟩

set_option maxHeartbeats 1000000 in
set_option maxRecDepth 100000 in
theorem part_icmp (q : Pk) (A : Option Addr) (n cap : Nat) (pl : List Nat) (w : World) (hq : PkOk q) (hp : q.proto = 1) (hS : SlB w A n cap pl) (hA : A = none → cap = 0) (hn : n ≤ 1400) :
    Calls Try.prog 49 #[pkV q (.slice A n cap)] w fun e w' => ∃ v, e = .returned (.tuple #[v, .int .i64 2]) ∧ Own w.heap.size w' v (headP q n ++ pl) ∧ Below w.heap.size w w' := by
  have hP := Blk.new w (pkL q (.slice A n cap)) 45
  have hw : Below w.heap.size w (w.alloc (.cells #[.bool q.fs, .int .u64 q.fh, .int .u64 q.fl, .bool q.ts, .int .u64 q.th, .int .u64 q.tl, .int .i64 q.hops, .int .i64 q.proto, .int .i64 q.fp, .int .i64 q.tp, .bool q.syn, .bool q.fin, .bool q.rst, .bool q.has, .int .i64 q.seq, .int .i64 q.ack, .bool q.reply, .int .i64 q.id, .slice A n cap] 45)) := (Below.refl _ _).alloc (Nat.le_refl _) _
  have hl := Lib.hid hS.len
  have HH := Lib.hid (show headP q n = [kindN q.fs q.reply, 0, 0, 0] ++ be q.id.toNat 2 ++ be q.seq.toNat 2 by unfold headP; rw [if_neg (by omega), if_neg (by omega)])
  have HKD : Hid (kindN q.fs q.reply = if q.fs then (if q.reply then 129 else 128) else (if q.reply then 0 else 8)) := Lib.hid rfl
  generalize kindN q.fs q.reply = kd at HH HKD
  generalize headP q n = hd at HH ⊢
  replace hA := Lib.hid hA
  have q1 := hq.fp1
  have q2 := hq.tp1
  have q3 := hq.seq1
  have q4 := hq.ack1
  have wfp := wrapU q.fp hq.fp0 (by omega)
  have wtp := wrapU q.tp hq.tp0 (by omega)
  have wseq := wrapU q.seq hq.seq0 (by omega)
  have wack := wrapU q.ack hq.ack0 (by omega)
  have q5 := hq.id1
  have wid := wrapU q.id hq.id0 (by omega)
  replace hq := Lib.hid hq
  replace hS := Lib.hid hS
  obtain ⟨fs, fh, fl, ts, th, tl, hops, proto, fp, tp, syn, fin, rst, has, seq, ack, reply, id⟩ := q
  dsimp only at *
  subst hp
  have HE := Lib.hid (show hd ++ pl = [kd, 0, 0, 0] ++ (be id.toNat 2 ++ (be seq.toNat 2 ++ pl)) by rw [HH.out]; simp)
  go_enter Try.func49, Try.ntmps49
  go_wp2_with fail
  refine wb_begin ([w.heap.size]) [] (by kernel_rfl) (fun u0 hb0' hz0' => ?_)
  replace hP := hP.below hb0'
  replace hw := hw.trans (hb0'.mono hw.size)
  have hB1 : w.heap.size + 1 ≤ u0.heap.size := by have := hP.lt; omega
  clear hb0' hz0'
  refine wb_pure (i := 0) (d := some 9) (v := ?_) (by simp only [List.getElem?_toArray, List.getElem?_cons_succ, List.getElem?_cons_zero] <;> rfl) (by rfl) (by kernel_rfl) (by kernel_rfl) (by kernel_rfl) (fun _ _ _ h => h) (by rfl) ?_ ?_
  rotate_left
  · ((intro u); go_simp; try with_reducible rfl)
  try simp only [Act.put, List.setIfInBounds_toArray, List.set_cons_zero, List.set_cons_succ]
  refine wb_take (i := 1) (d := some 10) (v := ?_) (by simp only [List.getElem?_toArray, List.getElem?_cons_succ, List.getElem?_cons_zero] <;> rfl) (by rfl) (by kernel_rfl) (by kernel_rfl) (by kernel_rfl) (fun _ _ _ h => h) (by rfl) (by kernel_rfl) ?_ ?_
  rotate_left
  · ((intro u hu); have k8 := (hP.kb hu (by simp)).cell (i := 8) (v := .int .i64 fp) rfl; have k9 := (hP.kb hu (by simp)).cell (i := 9) (v := .int .i64 tp) rfl; go_simp; try with_reducible rfl)
  try simp only [Act.put, List.setIfInBounds_toArray, List.set_cons_zero, List.set_cons_succ]
  refine wb_pure (i := 2) (d := some 11) (v := ?_) (by simp only [List.getElem?_toArray, List.getElem?_cons_succ, List.getElem?_cons_zero] <;> rfl) (by rfl) (by kernel_rfl) (by kernel_rfl) (by kernel_rfl) (fun _ _ _ h => h) (by rfl) ?_ ?_
  rotate_left
  · ((intro u); go_simp; try with_reducible rfl)
  try simp only [Act.put, List.setIfInBounds_toArray, List.set_cons_zero, List.set_cons_succ]
  refine wb_pure (i := 4) (d := some 13) (v := ?_) (by simp only [List.getElem?_toArray, List.getElem?_cons_succ, List.getElem?_cons_zero] <;> rfl) (by rfl) (by kernel_rfl) (by kernel_rfl) (by kernel_rfl) (fun _ _ _ h => h) (by rfl) ?_ ?_
  rotate_left
  · ((intro u); go_simp; try with_reducible rfl)
  try simp only [Act.put, List.setIfInBounds_toArray, List.set_cons_zero, List.set_cons_succ]
  refine wb_take (i := 5) (d := some 14) (v := ?_) (by simp only [List.getElem?_toArray, List.getElem?_cons_succ, List.getElem?_cons_zero] <;> rfl) (by rfl) (by kernel_rfl) (by kernel_rfl) (by kernel_rfl) (fun _ _ _ h => h) (by rfl) (by kernel_rfl) ?_ ?_
  rotate_left
  · ((intro u hu); have k8 := (hP.kb hu (by simp)).cell (i := 8) (v := .int .i64 fp) rfl; have k9 := (hP.kb hu (by simp)).cell (i := 9) (v := .int .i64 tp) rfl; go_simp; try with_reducible rfl)
  try simp only [Act.put, List.setIfInBounds_toArray, List.set_cons_zero, List.set_cons_succ]
  refine wb_pure (i := 6) (d := some 15) (v := ?_) (by simp only [List.getElem?_toArray, List.getElem?_cons_succ, List.getElem?_cons_zero] <;> rfl) (by rfl) (by kernel_rfl) (by kernel_rfl) (by kernel_rfl) (fun _ _ _ h => h) (by rfl) ?_ ?_
  rotate_left
  · ((intro u); go_simp; try with_reducible rfl)
  try simp only [Act.put, List.setIfInBounds_toArray, List.set_cons_zero, List.set_cons_succ]
  refine wb_one (i := 3) (by simp only [List.getElem?_toArray, List.getElem?_cons_succ, List.getElem?_cons_zero] <;> rfl) (by kernel_rfl) (by rfl) (fun K hK => ?_)
  go_simp
  refine (big_own 2 fp _ (by omega) hq.out.fp0 (by omega)).mono ?_
  rintro e u3 ⟨v3, rfl, o3, hv3⟩
  refine hK.out _ _ (Kb.below hv3 (by intro p hp; rw [List.mem_singleton.1 hp]; exact hP.lt)) ?_
  have hwz3 := hw.size
  replace hP := hP.below hv3
  replace hw := hw.trans (hv3.mono hw.size)
  try (replace o3 := Lib.hid (o3.out.below hv3))
  replace o3 := Lib.hid (o3.mono (B := w.heap.size + 1) (Nat.le_trans hB1 (by omega)))
  replace hB1 := Nat.le_trans hB1 hv3.size
  clear hK K hv3
  try simp only [Act.put, List.setIfInBounds_toArray, List.set_cons_zero, List.set_cons_succ]
  refine wb_one (i := 7) (by simp only [List.getElem?_toArray, List.getElem?_cons_succ, List.getElem?_cons_zero] <;> rfl) (by kernel_rfl) (by rfl) (fun K hK => ?_)
  go_simp
  refine (big_own 2 tp _ (by omega) hq.out.tp0 (by omega)).mono ?_
  rintro e u7 ⟨v7, rfl, o7, hv7⟩
  refine hK.out _ _ (Kb.below hv7 (by intro p hp; rw [List.mem_singleton.1 hp]; exact hP.lt)) ?_
  have hwz7 := hw.size
  replace hP := hP.below hv7
  replace hw := hw.trans (hv7.mono hw.size)
  try (replace o3 := Lib.hid (o3.out.below hv7))
  replace o7 := Lib.hid (o7.mono (B := w.heap.size + 1) (Nat.le_trans hB1 (by omega)))
  replace hB1 := Nat.le_trans hB1 hv7.size
  clear hK K hv7
  obtain ⟨A7, c7', rfl, hS7, hA7⟩ := o7.out.sl
  try simp only [Act.put, List.setIfInBounds_toArray, List.set_cons_zero, List.set_cons_succ]
  refine wb_one (i := 8) (by simp only [List.getElem?_toArray, List.getElem?_cons_succ, List.getElem?_cons_zero] <;> rfl) (by kernel_rfl) (by rfl) (fun K hK => ?_)
  refine wp_append_slB _ _ rfl (w.heap.size + 1) _ (be fp.toNat 2) rfl o3.out A7 _ c7' _ rfl hS7 hA7 (by simp [be_len]) hB1 ?_
  intro v8 u8 o8 hg8
  have hv8 := own_next hg8 o3.out hB1
  refine hK.out _ _ (Kb.below hv8 (by intro p hp; rw [List.mem_singleton.1 hp]; omega)) ?_
  replace hP := hP.upB (Nat.lt_succ_self _) hv8
  replace hw := hw.trans (hv8.mono (by omega))
  replace hB1 := Nat.le_trans hB1 hg8.size
  clear hK K hv8 hg8 hS7 hA7 o3 o7
  try simp only [Act.put, List.setIfInBounds_toArray, List.set_cons_zero, List.set_cons_succ]
  refine wb_pure (i := 9) (d := some 5) (v := ?_) (by simp only [List.getElem?_toArray, List.getElem?_cons_succ, List.getElem?_cons_zero] <;> rfl) (by rfl) (by kernel_rfl) (by kernel_rfl) (by kernel_rfl) (fun _ _ _ h => h) (by rfl) ?_ ?_
  rotate_left
  · ((intro u); go_simp; try with_reducible rfl)
  try simp only [Act.put, List.setIfInBounds_toArray, List.set_cons_zero, List.set_cons_succ]
  refine wb_done (by kernel_rfl) ?_ _
  skip
  clear o8
  have c7 := hP.cell (i := 7) (v := .int .i64 1) rfl
  have c0 := hP.cell (i := 0) (v := .bool fs) rfl
  have c16 := hP.cell (i := 16) (v := .bool reply) rfl
  replace hP := Lib.hid hP
  replace hw := Lib.hid hw
  clear hB1
  go_upto_if 78 with (refine (bit_any reply 8 _).mono ?_; rintro e u10 ⟨rfl, rfl⟩)
  go_cut [8] (fun s8 wx => s8 = .int .u8 kd ∧ wx = u8)
  case first =>
    cases fs
    · cases reply <;> (
        go_wp2_with fail
        go_meet
        exact ⟨by rw [HKD.out]; rfl, rfl⟩)
    · cases reply <;> (
        go_wp2_with fail
        refine (bit_any _ 1 _).mono ?_
        rintro e u12 ⟨rfl, rfl⟩
        go_wp2_with fail
        go_meet
        exact ⟨by rw [HKD.out]; rfl, rfl⟩)
  case rest =>
    obtain ⟨rfl, rfl⟩ := hcut
    replace hP := hP.out
    replace hw := hw.out
    clear c0 c16 c7
    go_wp2_with fail
    refine wb_begin ([w.heap.size]) [] (by kernel_rfl) (fun u0 hb0' hz0' => ?_)
    try (replace hS1 := Lib.hid (hS1.out.below hb0'))
    try (replace hS5 := Lib.hid (hS5.out.below hb0'))
    try (replace hS9 := Lib.hid (hS9.out.below hb0'))
    replace hP := hP.below hb0'
    replace hw := hw.trans (hb0'.mono hw.size)
    clear hb0' hz0'
    refine wb_pure (i := 0) (d := some 84) (v := ?_) (by simp only [List.getElem?_toArray, List.getElem?_cons_succ, List.getElem?_cons_zero] <;> rfl) (by rfl) (by kernel_rfl) (by kernel_rfl) (by kernel_rfl) (fun _ _ _ h => h) (by rfl) ?_ ?_
    rotate_left
    · ((intro u); go_simp; try with_reducible rfl)
    try simp only [Act.put, List.setIfInBounds_toArray, List.set_cons_zero, List.set_cons_succ]
    refine wb_pure (i := 2) (d := some 86) (v := ?_) (by simp only [List.getElem?_toArray, List.getElem?_cons_succ, List.getElem?_cons_zero] <;> rfl) (by rfl) (by kernel_rfl) (by kernel_rfl) (by kernel_rfl) (fun _ _ _ h => h) (by rfl) ?_ ?_
    rotate_left
    · ((intro u); go_simp; try with_reducible rfl)
    try simp only [Act.put, List.setIfInBounds_toArray, List.set_cons_zero, List.set_cons_succ]
    refine wb_take (i := 3) (d := some 87) (v := ?_) (by simp only [List.getElem?_toArray, List.getElem?_cons_succ, List.getElem?_cons_zero] <;> rfl) (by rfl) (by kernel_rfl) (by kernel_rfl) (by kernel_rfl) (fun _ _ _ h => h) (by rfl) (by kernel_rfl) ?_ ?_
    rotate_left
    · ((intro u hu); have k14 := (hP.kb hu (by simp)).cell (i := 14) (v := .int .i64 seq) rfl; have k17 := (hP.kb hu (by simp)).cell (i := 17) (v := .int .i64 id) rfl; have k18 := (hP.kb hu (by simp)).cell (i := 18) (v := .slice A n cap) rfl; go_simp; try with_reducible rfl)
    try simp only [Act.put, List.setIfInBounds_toArray, List.set_cons_zero, List.set_cons_succ]
    refine wb_pure (i := 4) (d := some 88) (v := ?_) (by simp only [List.getElem?_toArray, List.getElem?_cons_succ, List.getElem?_cons_zero] <;> rfl) (by rfl) (by kernel_rfl) (by kernel_rfl) (by kernel_rfl) (fun _ _ _ h => h) (by rfl) ?_ ?_
    rotate_left
    · ((intro u); go_simp; try with_reducible rfl)
    try simp only [Act.put, List.setIfInBounds_toArray, List.set_cons_zero, List.set_cons_succ]
    refine wb_pure (i := 6) (d := some 90) (v := ?_) (by simp only [List.getElem?_toArray, List.getElem?_cons_succ, List.getElem?_cons_zero] <;> rfl) (by rfl) (by kernel_rfl) (by kernel_rfl) (by kernel_rfl) (fun _ _ _ h => h) (by rfl) ?_ ?_
    rotate_left
    · ((intro u); go_simp; try with_reducible rfl)
    try simp only [Act.put, List.setIfInBounds_toArray, List.set_cons_zero, List.set_cons_succ]
    refine wb_take (i := 7) (d := some 91) (v := ?_) (by simp only [List.getElem?_toArray, List.getElem?_cons_succ, List.getElem?_cons_zero] <;> rfl) (by rfl) (by kernel_rfl) (by kernel_rfl) (by kernel_rfl) (fun _ _ _ h => h) (by rfl) (by kernel_rfl) ?_ ?_
    rotate_left
    · ((intro u hu); have k14 := (hP.kb hu (by simp)).cell (i := 14) (v := .int .i64 seq) rfl; have k17 := (hP.kb hu (by simp)).cell (i := 17) (v := .int .i64 id) rfl; have k18 := (hP.kb hu (by simp)).cell (i := 18) (v := .slice A n cap) rfl; go_simp; try with_reducible rfl)
    try simp only [Act.put, List.setIfInBounds_toArray, List.set_cons_zero, List.set_cons_succ]
    refine wb_pure (i := 8) (d := some 92) (v := ?_) (by simp only [List.getElem?_toArray, List.getElem?_cons_succ, List.getElem?_cons_zero] <;> rfl) (by rfl) (by kernel_rfl) (by kernel_rfl) (by kernel_rfl) (fun _ _ _ h => h) (by rfl) ?_ ?_
    rotate_left
    · ((intro u); go_simp; try with_reducible rfl)
    try simp only [Act.put, List.setIfInBounds_toArray, List.set_cons_zero, List.set_cons_succ]
    refine wb_pure (i := 10) (d := some 94) (v := ?_) (by simp only [List.getElem?_toArray, List.getElem?_cons_succ, List.getElem?_cons_zero] <;> rfl) (by rfl) (by kernel_rfl) (by kernel_rfl) (by kernel_rfl) (fun _ _ _ h => h) (by rfl) ?_ ?_
    rotate_left
    · ((intro u); go_simp; try with_reducible rfl)
    try simp only [Act.put, List.setIfInBounds_toArray, List.set_cons_zero, List.set_cons_succ]
    refine wb_take (i := 11) (d := some 95) (v := ?_) (by simp only [List.getElem?_toArray, List.getElem?_cons_succ, List.getElem?_cons_zero] <;> rfl) (by rfl) (by kernel_rfl) (by kernel_rfl) (by kernel_rfl) (fun _ _ _ h => h) (by rfl) (by kernel_rfl) ?_ ?_
    rotate_left
    · ((intro u hu); have k14 := (hP.kb hu (by simp)).cell (i := 14) (v := .int .i64 seq) rfl; have k17 := (hP.kb hu (by simp)).cell (i := 17) (v := .int .i64 id) rfl; have k18 := (hP.kb hu (by simp)).cell (i := 18) (v := .slice A n cap) rfl; go_simp; try with_reducible rfl)
    try simp only [Act.put, List.setIfInBounds_toArray, List.set_cons_zero, List.set_cons_succ]
    refine wb_two (i := 1) (k := 5) (by simp only [List.getElem?_toArray, List.getElem?_cons_succ, List.getElem?_cons_zero] <;> rfl) (by simp only [List.getElem?_toArray, List.getElem?_cons_succ, List.getElem?_cons_zero] <;> rfl) (by kernel_rfl) (by rfl) (by rfl) (fun K hK => ?_) (fun K hK => ?_)
    · go_simp
      refine hK.out _ _ (Kb.gb (World.grownBy_alloc _ _ none) (by intro p hp; rw [List.mem_singleton.1 hp]; exact ⟨hP.lt, by simp⟩)) ?_
      refine wb_new (cs := bV [kd, 0, 0, 0]) (t := 5) (fun u1 hv1 hL1 hz1 => ?_)
      obtain ⟨A1, hS1, hA1, hE1⟩ := lit_ex (slB_blk (n := 4) hL1 rfl)
      rw [hE1]
      replace hS1 := Lib.hid hS1
      replace hA1 := Lib.hid hA1
      replace hP := hP.below hv1
      replace hw := hw.trans (hv1.mono hw.size)
      try (replace hS1 := Lib.hid (hS1.out.below hv1))
      try (replace hS5 := Lib.hid (hS5.out.below hv1))
      try (replace hS9 := Lib.hid (hS9.out.below hv1))
      clear hK K hz1 hL1 hv1 hE1
      try simp only [Act.put, List.setIfInBounds_toArray, List.set_cons_zero, List.set_cons_succ]
      refine wb_one (i := 5) (by simp only [List.getElem?_toArray, List.getElem?_cons_succ, List.getElem?_cons_zero] <;> rfl) (by kernel_rfl) (by rfl) (fun K hK => ?_)
      go_simp
      refine (big_sl 2 id _ (by omega) hq.out.id0 (by omega)).mono ?_
      rintro e u5 ⟨A5, c5, rfl, hS5, hA5, hv5⟩
      refine hK.out _ _ (Kb.below hv5 (by intro p hp; rw [List.mem_singleton.1 hp]; exact hP.lt)) ?_
      replace hP := hP.below hv5
      replace hw := hw.trans (hv5.mono hw.size)
      try (replace hS1 := Lib.hid (hS1.out.below hv5))
      try (replace hS5 := Lib.hid (hS5.out.below hv5))
      try (replace hS9 := Lib.hid (hS9.out.below hv5))
      replace hS5 := Lib.hid hS5
      replace hA5 := Lib.hid hA5
      clear hK K hv5
      try simp only [Act.put, List.setIfInBounds_toArray, List.set_cons_zero, List.set_cons_succ]
      refine wb_one (i := 9) (by simp only [List.getElem?_toArray, List.getElem?_cons_succ, List.getElem?_cons_zero] <;> rfl) (by kernel_rfl) (by rfl) (fun K hK => ?_)
      go_simp
      refine (big_sl 2 seq _ (by omega) hq.out.seq0 (by omega)).mono ?_
      rintro e u9 ⟨A9, c9, rfl, hS9, hA9, hv9⟩
      refine hK.out _ _ (Kb.below hv9 (by intro p hp; rw [List.mem_singleton.1 hp]; exact hP.lt)) ?_
      replace hP := hP.below hv9
      replace hw := hw.trans (hv9.mono hw.size)
      try (replace hS1 := Lib.hid (hS1.out.below hv9))
      try (replace hS5 := Lib.hid (hS5.out.below hv9))
      try (replace hS9 := Lib.hid (hS9.out.below hv9))
      replace hS9 := Lib.hid hS9
      replace hA9 := Lib.hid hA9
      clear hK K hv9
      try simp only [Act.put, List.setIfInBounds_toArray, List.set_cons_zero, List.set_cons_succ]
      refine wb_one (i := 12) (by simp only [List.getElem?_toArray, List.getElem?_cons_succ, List.getElem?_cons_zero] <;> rfl) (by kernel_rfl) (by rfl) (fun K hK => ?_)
      go_simp
      refine hK.out _ _ (Kb.gb (World.grownBy_alloc _ _ none) (by intro p hp; rw [List.mem_singleton.1 hp]; exact ⟨hP.lt, by simp⟩)) ?_
      refine wb_new (cs := [.slice A1 4 4, .slice A5 2 c5, .slice A9 2 c9, .slice A n cap]) (t := 43) (fun u12 hv12 hL12 hz12 => ?_)
      replace hP := hP.below hv12
      replace hw := hw.trans (hv12.mono hw.size)
      try (replace hS1 := Lib.hid (hS1.out.below hv12))
      try (replace hS5 := Lib.hid (hS5.out.below hv12))
      try (replace hS9 := Lib.hid (hS9.out.below hv12))
      clear hK K hz12 hv12
      try simp only [Act.put, List.setIfInBounds_toArray, List.set_cons_zero, List.set_cons_succ]
      refine wb_one (i := 13) (by simp only [List.getElem?_toArray, List.getElem?_cons_succ, List.getElem?_cons_zero] <;> rfl) (by kernel_rfl) (by rfl) (fun K hK => ?_)
      go_simp
      have hok : ∀ s ∈ ([SS.mk A1 4 4 ([kd, 0, 0, 0]), SS.mk A5 2 c5 ((be id.toNat 2)), SS.mk A9 2 c9 ((be seq.toNat 2)), SS.mk A n cap pl] : List SS), s.ok _ := ok4 ⟨hS1.out, hA1.out⟩ ⟨hS5.out, hA5.out⟩ ⟨hS9.out, hA9.out⟩ ⟨hS.out.below hw, hA.out⟩
      have hfl : flatS [SS.mk A1 4 4 ([kd, 0, 0, 0]), SS.mk A5 2 c5 ((be id.toNat 2)), SS.mk A9 2 c9 ((be seq.toNat 2)), SS.mk A n cap pl] = [kd, 0, 0, 0] ++ (be id.toNat 2 ++ (be seq.toNat 2 ++ pl)) := by simp [flatS]
      have hCC := concat_blk _ 4 [SS.mk A1 4 4 ([kd, 0, 0, 0]), SS.mk A5 2 c5 ((be id.toNat 2)), SS.mk A9 2 c9 ((be seq.toNat 2)), SS.mk A n cap pl] 43 _ hL12 rfl hok (by rw [hfl]; simp only [List.length_append, be_len, List.length_cons, List.length_nil, ← hl.out]; omega) (by rw [hfl]; simp only [List.length_append, be_len, List.length_cons, List.length_nil, ← hl.out]; omega) (by omega)
      rw [hfl] at hCC
      have hwzC := hw.size
      refine hCC.mono ?_
      rintro e u13 ⟨v13, rfl, o13, hv13⟩
      refine hK.out _ _ (Kb.below hv13 (by intro p hp; rw [List.mem_singleton.1 hp]; exact hP.lt)) ?_
      replace hP := hP.below hv13
      replace hw := hw.trans (hv13.mono hw.size)
      
      replace o13 := Lib.hid (o13.mono (B := w.heap.size) hwzC)
      clear hK K hv13 hok hfl hCC hwzC hL12
      try simp only [Act.put, List.setIfInBounds_toArray, List.set_cons_zero, List.set_cons_succ]
      refine wb_pure (i := 14) (d := some 2) (v := ?_) (by simp only [List.getElem?_toArray, List.getElem?_cons_succ, List.getElem?_cons_zero] <;> rfl) (by rfl) (by kernel_rfl) (by kernel_rfl) (by kernel_rfl) (fun _ _ _ h => h) (by rfl) ?_ ?_
      rotate_left
      · ((intro u); go_simp; try with_reducible rfl)
      try simp only [Act.put, List.setIfInBounds_toArray, List.set_cons_zero, List.set_cons_succ]
      refine wb_pure (i := 15) (d := some 3) (v := ?_) (by simp only [List.getElem?_toArray, List.getElem?_cons_succ, List.getElem?_cons_zero] <;> rfl) (by rfl) (by kernel_rfl) (by kernel_rfl) (by kernel_rfl) (fun _ _ _ h => h) (by rfl) ?_ ?_
      rotate_left
      · ((intro u); go_simp; try with_reducible rfl)
      try simp only [Act.put, List.setIfInBounds_toArray, List.set_cons_zero, List.set_cons_succ]
      refine wb_done (by kernel_rfl) ?_ _
      go_wp2_with fail
      (try simp only [Exit.inBlock, Exit.then]); refine bodyPost_ret (results_tmp2 rfl _ _ _) rfl ?_
      exact ⟨_, rfl, by rw [HE.out]; exact o13.out, hw⟩
    · go_simp
      refine (big_sl 2 id _ (by omega) hq.out.id0 (by omega)).mono ?_
      rintro e u5 ⟨A5, c5, rfl, hS5, hA5, hv5⟩
      refine hK.out _ _ (Kb.below hv5 (by intro p hp; rw [List.mem_singleton.1 hp]; exact hP.lt)) ?_
      replace hP := hP.below hv5
      replace hw := hw.trans (hv5.mono hw.size)
      try (replace hS1 := Lib.hid (hS1.out.below hv5))
      try (replace hS5 := Lib.hid (hS5.out.below hv5))
      try (replace hS9 := Lib.hid (hS9.out.below hv5))
      replace hS5 := Lib.hid hS5
      replace hA5 := Lib.hid hA5
      clear hK K hv5
      try simp only [Act.put, List.setIfInBounds_toArray, List.set_cons_zero, List.set_cons_succ]
      refine wb_two (i := 1) (k := 9) (by simp only [List.getElem?_toArray, List.getElem?_cons_succ, List.getElem?_cons_zero] <;> rfl) (by simp only [List.getElem?_toArray, List.getElem?_cons_succ, List.getElem?_cons_zero] <;> rfl) (by kernel_rfl) (by rfl) (by rfl) (fun K hK => ?_) (fun K hK => ?_)
      · go_simp
        refine hK.out _ _ (Kb.gb (World.grownBy_alloc _ _ none) (by intro p hp; rw [List.mem_singleton.1 hp]; exact ⟨hP.lt, by simp⟩)) ?_
        refine wb_new (cs := bV [kd, 0, 0, 0]) (t := 5) (fun u1 hv1 hL1 hz1 => ?_)
        obtain ⟨A1, hS1, hA1, hE1⟩ := lit_ex (slB_blk (n := 4) hL1 rfl)
        rw [hE1]
        replace hS1 := Lib.hid hS1
        replace hA1 := Lib.hid hA1
        replace hP := hP.below hv1
        replace hw := hw.trans (hv1.mono hw.size)
        try (replace hS1 := Lib.hid (hS1.out.below hv1))
        try (replace hS5 := Lib.hid (hS5.out.below hv1))
        try (replace hS9 := Lib.hid (hS9.out.below hv1))
        clear hK K hz1 hL1 hv1 hE1
        try simp only [Act.put, List.setIfInBounds_toArray, List.set_cons_zero, List.set_cons_succ]
        refine wb_one (i := 9) (by simp only [List.getElem?_toArray, List.getElem?_cons_succ, List.getElem?_cons_zero] <;> rfl) (by kernel_rfl) (by rfl) (fun K hK => ?_)
        go_simp
        refine (big_sl 2 seq _ (by omega) hq.out.seq0 (by omega)).mono ?_
        rintro e u9 ⟨A9, c9, rfl, hS9, hA9, hv9⟩
        refine hK.out _ _ (Kb.below hv9 (by intro p hp; rw [List.mem_singleton.1 hp]; exact hP.lt)) ?_
        replace hP := hP.below hv9
        replace hw := hw.trans (hv9.mono hw.size)
        try (replace hS1 := Lib.hid (hS1.out.below hv9))
        try (replace hS5 := Lib.hid (hS5.out.below hv9))
        try (replace hS9 := Lib.hid (hS9.out.below hv9))
        replace hS9 := Lib.hid hS9
        replace hA9 := Lib.hid hA9
        clear hK K hv9
        try simp only [Act.put, List.setIfInBounds_toArray, List.set_cons_zero, List.set_cons_succ]
        refine wb_one (i := 12) (by simp only [List.getElem?_toArray, List.getElem?_cons_succ, List.getElem?_cons_zero] <;> rfl) (by kernel_rfl) (by rfl) (fun K hK => ?_)
        go_simp
        refine hK.out _ _ (Kb.gb (World.grownBy_alloc _ _ none) (by intro p hp; rw [List.mem_singleton.1 hp]; exact ⟨hP.lt, by simp⟩)) ?_
        refine wb_new (cs := [.slice A1 4 4, .slice A5 2 c5, .slice A9 2 c9, .slice A n cap]) (t := 43) (fun u12 hv12 hL12 hz12 => ?_)
        replace hP := hP.below hv12
        replace hw := hw.trans (hv12.mono hw.size)
        try (replace hS1 := Lib.hid (hS1.out.below hv12))
        try (replace hS5 := Lib.hid (hS5.out.below hv12))
        try (replace hS9 := Lib.hid (hS9.out.below hv12))
        clear hK K hz12 hv12
        try simp only [Act.put, List.setIfInBounds_toArray, List.set_cons_zero, List.set_cons_succ]
        refine wb_one (i := 13) (by simp only [List.getElem?_toArray, List.getElem?_cons_succ, List.getElem?_cons_zero] <;> rfl) (by kernel_rfl) (by rfl) (fun K hK => ?_)
        go_simp
        have hok : ∀ s ∈ ([SS.mk A1 4 4 ([kd, 0, 0, 0]), SS.mk A5 2 c5 ((be id.toNat 2)), SS.mk A9 2 c9 ((be seq.toNat 2)), SS.mk A n cap pl] : List SS), s.ok _ := ok4 ⟨hS1.out, hA1.out⟩ ⟨hS5.out, hA5.out⟩ ⟨hS9.out, hA9.out⟩ ⟨hS.out.below hw, hA.out⟩
        have hfl : flatS [SS.mk A1 4 4 ([kd, 0, 0, 0]), SS.mk A5 2 c5 ((be id.toNat 2)), SS.mk A9 2 c9 ((be seq.toNat 2)), SS.mk A n cap pl] = [kd, 0, 0, 0] ++ (be id.toNat 2 ++ (be seq.toNat 2 ++ pl)) := by simp [flatS]
        have hCC := concat_blk _ 4 [SS.mk A1 4 4 ([kd, 0, 0, 0]), SS.mk A5 2 c5 ((be id.toNat 2)), SS.mk A9 2 c9 ((be seq.toNat 2)), SS.mk A n cap pl] 43 _ hL12 rfl hok (by rw [hfl]; simp only [List.length_append, be_len, List.length_cons, List.length_nil, ← hl.out]; omega) (by rw [hfl]; simp only [List.length_append, be_len, List.length_cons, List.length_nil, ← hl.out]; omega) (by omega)
        rw [hfl] at hCC
        have hwzC := hw.size
        refine hCC.mono ?_
        rintro e u13 ⟨v13, rfl, o13, hv13⟩
        refine hK.out _ _ (Kb.below hv13 (by intro p hp; rw [List.mem_singleton.1 hp]; exact hP.lt)) ?_
        replace hP := hP.below hv13
        replace hw := hw.trans (hv13.mono hw.size)
        
        replace o13 := Lib.hid (o13.mono (B := w.heap.size) hwzC)
        clear hK K hv13 hok hfl hCC hwzC hL12
        try simp only [Act.put, List.setIfInBounds_toArray, List.set_cons_zero, List.set_cons_succ]
        refine wb_pure (i := 14) (d := some 2) (v := ?_) (by simp only [List.getElem?_toArray, List.getElem?_cons_succ, List.getElem?_cons_zero] <;> rfl) (by rfl) (by kernel_rfl) (by kernel_rfl) (by kernel_rfl) (fun _ _ _ h => h) (by rfl) ?_ ?_
        rotate_left
        · ((intro u); go_simp; try with_reducible rfl)
        try simp only [Act.put, List.setIfInBounds_toArray, List.set_cons_zero, List.set_cons_succ]
        refine wb_pure (i := 15) (d := some 3) (v := ?_) (by simp only [List.getElem?_toArray, List.getElem?_cons_succ, List.getElem?_cons_zero] <;> rfl) (by rfl) (by kernel_rfl) (by kernel_rfl) (by kernel_rfl) (fun _ _ _ h => h) (by rfl) ?_ ?_
        rotate_left
        · ((intro u); go_simp; try with_reducible rfl)
        try simp only [Act.put, List.setIfInBounds_toArray, List.set_cons_zero, List.set_cons_succ]
        refine wb_done (by kernel_rfl) ?_ _
        go_wp2_with fail
        (try simp only [Exit.inBlock, Exit.then]); refine bodyPost_ret (results_tmp2 rfl _ _ _) rfl ?_
        exact ⟨_, rfl, by rw [HE.out]; exact o13.out, hw⟩
      · go_simp
        refine (big_sl 2 seq _ (by omega) hq.out.seq0 (by omega)).mono ?_
        rintro e u9 ⟨A9, c9, rfl, hS9, hA9, hv9⟩
        refine hK.out _ _ (Kb.below hv9 (by intro p hp; rw [List.mem_singleton.1 hp]; exact hP.lt)) ?_
        replace hP := hP.below hv9
        replace hw := hw.trans (hv9.mono hw.size)
        try (replace hS1 := Lib.hid (hS1.out.below hv9))
        try (replace hS5 := Lib.hid (hS5.out.below hv9))
        try (replace hS9 := Lib.hid (hS9.out.below hv9))
        replace hS9 := Lib.hid hS9
        replace hA9 := Lib.hid hA9
        clear hK K hv9
        try simp only [Act.put, List.setIfInBounds_toArray, List.set_cons_zero, List.set_cons_succ]
        refine wb_one (i := 1) (by simp only [List.getElem?_toArray, List.getElem?_cons_succ, List.getElem?_cons_zero] <;> rfl) (by kernel_rfl) (by rfl) (fun K hK => ?_)
        go_simp
        refine hK.out _ _ (Kb.gb (World.grownBy_alloc _ _ none) (by intro p hp; rw [List.mem_singleton.1 hp]; exact ⟨hP.lt, by simp⟩)) ?_
        refine wb_new (cs := bV [kd, 0, 0, 0]) (t := 5) (fun u1 hv1 hL1 hz1 => ?_)
        obtain ⟨A1, hS1, hA1, hE1⟩ := lit_ex (slB_blk (n := 4) hL1 rfl)
        rw [hE1]
        replace hS1 := Lib.hid hS1
        replace hA1 := Lib.hid hA1
        replace hP := hP.below hv1
        replace hw := hw.trans (hv1.mono hw.size)
        try (replace hS1 := Lib.hid (hS1.out.below hv1))
        try (replace hS5 := Lib.hid (hS5.out.below hv1))
        try (replace hS9 := Lib.hid (hS9.out.below hv1))
        clear hK K hz1 hL1 hv1 hE1
        try simp only [Act.put, List.setIfInBounds_toArray, List.set_cons_zero, List.set_cons_succ]
        refine wb_one (i := 12) (by simp only [List.getElem?_toArray, List.getElem?_cons_succ, List.getElem?_cons_zero] <;> rfl) (by kernel_rfl) (by rfl) (fun K hK => ?_)
        go_simp
        refine hK.out _ _ (Kb.gb (World.grownBy_alloc _ _ none) (by intro p hp; rw [List.mem_singleton.1 hp]; exact ⟨hP.lt, by simp⟩)) ?_
        refine wb_new (cs := [.slice A1 4 4, .slice A5 2 c5, .slice A9 2 c9, .slice A n cap]) (t := 43) (fun u12 hv12 hL12 hz12 => ?_)
        replace hP := hP.below hv12
        replace hw := hw.trans (hv12.mono hw.size)
        try (replace hS1 := Lib.hid (hS1.out.below hv12))
        try (replace hS5 := Lib.hid (hS5.out.below hv12))
        try (replace hS9 := Lib.hid (hS9.out.below hv12))
        clear hK K hz12 hv12
        try simp only [Act.put, List.setIfInBounds_toArray, List.set_cons_zero, List.set_cons_succ]
        refine wb_one (i := 13) (by simp only [List.getElem?_toArray, List.getElem?_cons_succ, List.getElem?_cons_zero] <;> rfl) (by kernel_rfl) (by rfl) (fun K hK => ?_)
        go_simp
        have hok : ∀ s ∈ ([SS.mk A1 4 4 ([kd, 0, 0, 0]), SS.mk A5 2 c5 ((be id.toNat 2)), SS.mk A9 2 c9 ((be seq.toNat 2)), SS.mk A n cap pl] : List SS), s.ok _ := ok4 ⟨hS1.out, hA1.out⟩ ⟨hS5.out, hA5.out⟩ ⟨hS9.out, hA9.out⟩ ⟨hS.out.below hw, hA.out⟩
        have hfl : flatS [SS.mk A1 4 4 ([kd, 0, 0, 0]), SS.mk A5 2 c5 ((be id.toNat 2)), SS.mk A9 2 c9 ((be seq.toNat 2)), SS.mk A n cap pl] = [kd, 0, 0, 0] ++ (be id.toNat 2 ++ (be seq.toNat 2 ++ pl)) := by simp [flatS]
        have hCC := concat_blk _ 4 [SS.mk A1 4 4 ([kd, 0, 0, 0]), SS.mk A5 2 c5 ((be id.toNat 2)), SS.mk A9 2 c9 ((be seq.toNat 2)), SS.mk A n cap pl] 43 _ hL12 rfl hok (by rw [hfl]; simp only [List.length_append, be_len, List.length_cons, List.length_nil, ← hl.out]; omega) (by rw [hfl]; simp only [List.length_append, be_len, List.length_cons, List.length_nil, ← hl.out]; omega) (by omega)
        rw [hfl] at hCC
        have hwzC := hw.size
        refine hCC.mono ?_
        rintro e u13 ⟨v13, rfl, o13, hv13⟩
        refine hK.out _ _ (Kb.below hv13 (by intro p hp; rw [List.mem_singleton.1 hp]; exact hP.lt)) ?_
        replace hP := hP.below hv13
        replace hw := hw.trans (hv13.mono hw.size)
        
        replace o13 := Lib.hid (o13.mono (B := w.heap.size) hwzC)
        clear hK K hv13 hok hfl hCC hwzC hL12
        try simp only [Act.put, List.setIfInBounds_toArray, List.set_cons_zero, List.set_cons_succ]
        refine wb_pure (i := 14) (d := some 2) (v := ?_) (by simp only [List.getElem?_toArray, List.getElem?_cons_succ, List.getElem?_cons_zero] <;> rfl) (by rfl) (by kernel_rfl) (by kernel_rfl) (by kernel_rfl) (fun _ _ _ h => h) (by rfl) ?_ ?_
        rotate_left
        · ((intro u); go_simp; try with_reducible rfl)
        try simp only [Act.put, List.setIfInBounds_toArray, List.set_cons_zero, List.set_cons_succ]
        refine wb_pure (i := 15) (d := some 3) (v := ?_) (by simp only [List.getElem?_toArray, List.getElem?_cons_succ, List.getElem?_cons_zero] <;> rfl) (by rfl) (by kernel_rfl) (by kernel_rfl) (by kernel_rfl) (fun _ _ _ h => h) (by rfl) ?_ ?_
        rotate_left
        · ((intro u); go_simp; try with_reducible rfl)
        try simp only [Act.put, List.setIfInBounds_toArray, List.set_cons_zero, List.set_cons_succ]
        refine wb_done (by kernel_rfl) ?_ _
        go_wp2_with fail
        (try simp only [Exit.inBlock, Exit.then]); refine bodyPost_ret (results_tmp2 rfl _ _ _) rfl ?_
        exact ⟨_, rfl, by rw [HE.out]; exact o13.out, hw⟩

end Go.Proofs.Ytigbbpgfblnboaa
