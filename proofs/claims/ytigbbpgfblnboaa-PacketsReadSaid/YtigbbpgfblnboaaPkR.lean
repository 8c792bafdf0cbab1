/- Packets: Write, FlowOf, FlowFrom. -/
import Derived.Test.YtigbbpgfblnboaaPkQ
import Derived.Test.YtigbbpgfblnboaaPkI
namespace Go.Proofs.Ytigbbpgfblnboaa
open Go.RowKit
set_option linter.unusedVariables false
set_option linter.unusedSimpArgs false

/-- The flow of a packet. -/
def flowV (q : Pk) : Value := .agg #[.int .i64 q.proto, .bool q.fs, .int .u64 q.fh, .int .u64 q.fl, .bool q.ts, .int .u64 q.th, .int .u64 q.tl, .int .i64 q.fp, .int .i64 q.tp]
theorem inB_iff {x lo hi : Int} (h : ¬ inB x lo hi = false) : lo ≤ x ∧ x ≤ hi := by unfold inB at h; simpa using h
theorem pkF_zero {q : Pk} {n : Nat} (h : pkF q n = 0) (hf : Wd q.fh q.fl) (ht : Wd q.th q.tl) : PkOk q ∧ n ≤ 1400 := by
  unfold pkF at h
  split at h
  · rename_i h0; exact absurd h h0
  split at h
  · rename_i h0; exact absurd h h0
  split at h
  · cases h
  split at h
  · cases h
  split at h
  · cases h
  split at h
  · cases h
  split at h
  · cases h
  split at h
  · cases h
  rename_i a1 a2 a3 a4 a5 a6 a7 a8
  have hh := inB_iff a4
  have hp : q.proto = 1 ∨ q.proto = 6 ∨ q.proto = 17 := Classical.not_not.1 a5
  have hn : numB q = true := by simpa using a6
  unfold numB at hn
  simp only [Bool.and_eq_true] at hn
  obtain ⟨n1, n2, n3, n4, n5⟩ := hn
  have k1 := inB_iff (by rw [n1]; simp : ¬ inB q.fp 0 65535 = false)
  have k2 := inB_iff (by rw [n2]; simp : ¬ inB q.tp 0 65535 = false)
  have k3 := inB_iff (by rw [n3]; simp : ¬ inB q.seq 0 (if q.proto = 1 then 65535 else 4294967295) = false)
  have k4 := inB_iff (by rw [n4]; simp : ¬ inB q.ack 0 4294967295 = false)
  have k5 := inB_iff (by rw [n5]; simp : ¬ inB q.id 0 65535 = false)
  refine ⟨⟨hf, ht, hh.1, hh.2, hp, k1.1, k1.2, k2.1, k2.2, k3.1, ?_, ?_, k4.1, k4.2, k5.1, k5.2, Classical.not_not.1 a3⟩, by omega⟩
  · have := k3.2; split at this <;> omega
  · intro e; have := k3.2; rw [if_pos e] at this; exact this

theorem atP_fits (q : Pk) (n : Nat) : atP q + 2 ≤ (headP q n).length ∧ (headP q n).length ≤ 20 := by
  unfold atP headP; split
  · simp [be_len]
  · split <;> simp [be_len]
theorem partL_len (q : Pk) (pl : List Nat) : (partL q pl).length = (headP q pl.length).length + pl.length := by
  unfold partL
  have h := atP_fits q pl.length
  rw [splice_len (by rw [be_len, List.length_append]; omega), List.length_append]
/-- The bytes of a packet. -/
def bytesL (q : Pk) (pl : List Nat) : List Nat := headL q ((partL q pl).length : Int) ++ partL q pl

theorem headL_len (q : Pk) (n : Nat) : (headL q n).length ≤ 100 := by
  unfold headL
  have h1 := adB_len q.fs q.fh q.fl
  have h2 := adB_len q.ts q.th q.tl
  split
  · simp [be_len]; omega
  · rw [splice_len (by simp [be_len]; omega)]
    simp [be_len]; omega
/-- append of a slice to one's own row. -/
theorem append_slB' {w : World} {ops : Array Oper} {rest : List Oper} {o : Oper} {a : Act} {Q : Exit → Act → World → Prop} (hgd : o.guard = none) (s x : Operand)
    (ho : o.op = .call { callee := .builtin .append, args := #[s, x], argTypes := #[43, 43] })
    (B : Nat) (v : Value) (xs : List Nat) (hs : a.eval s = v) (hown : Own B w v xs)
    (A : Option Addr) (m c : Nat) (gs : List Nat) (hx : a.eval x = .slice A m c) (hS : SlB w A m c gs) (hA : A = none → c = 0) (hb : xs.length + m ≤ 1000000) (hbase : B ≤ w.heap.size)
    (h : ∀ v' w', Own B w' v' (xs ++ gs) → Below B w w' → wpList Try.prog ops Q rest (a.put o.dst v') w') : wpList Try.prog ops Q (o :: rest) a w :=
  wpList_plain hgd fun K hK => wp_append_slB s x ho B v xs hs hown A m c gs hx hS hA hb hbase (fun v' w' h1 h2 => hK _ _ (h v' w' h1 (own_next h2 hown hbase)))

set_option maxHeartbeats 1000000 in
set_option maxRecDepth 100000 in
theorem write_bad (q : Pk) (A : Option Addr) (n cap : Nat) (w : World) (h : pkF q n ≠ 0) :
    Calls Try.prog 19 #[pkV q (.slice A n cap)] w (GivesV (.tuple #[.slice none 0 0, .int .i64 (pkF q n)]) w) := by
  have hP := Blk.new w (pkL q (.slice A n cap)) 45
  have hw : Below w.heap.size w (w.alloc (.cells #[.bool q.fs, .int .u64 q.fh, .int .u64 q.fl, .bool q.ts, .int .u64 q.th, .int .u64 q.tl, .int .i64 q.hops, .int .i64 q.proto, .int .i64 q.fp, .int .i64 q.tp, .bool q.syn, .bool q.fin, .bool q.rst, .bool q.has, .int .i64 q.seq, .int .i64 q.ack, .bool q.reply, .int .i64 q.id, .slice A n cap] 45)) := (Below.refl _ _).alloc (Nat.le_refl _) _
  have L := ldPk_run hP
  have HC := Lib.hid (checkPacket_any q A n cap)
  generalize pkF q n = N at HC h ⊢
  have e0 : (N != 0) = true := by simp [h]
  replace h := Lib.hid h
  clear hP
  go_enter Try.func19, Try.ntmps19
  go_wp2_with fail
  refine (HC.out _).mono ?_
  rintro e u1 ⟨rfl, hv1⟩
  replace hw := hw.trans (hv1.mono hw.size)
  clear hv1 HC L
  go_wp2_with fail
  (try simp only [Exit.inBlock, Exit.then]); refine bodyPost_ret (results_tmp2 rfl _ _ _) rfl ?_
  exact ⟨rfl, hw⟩

set_option maxHeartbeats 1000000 in
set_option maxRecDepth 100000 in
theorem write_ok (q : Pk) (A : Option Addr) (n cap : Nat) (pl : List Nat) (w : World) (h : pkF q n = 0) (hf : Wd q.fh q.fl) (ht : Wd q.th q.tl) (hS : SlB w A n cap pl) (hA : A = none → cap = 0) (hb : Byt pl) :
    Calls Try.prog 19 #[pkV q (.slice A n cap)] w fun e w' => ∃ v, e = .returned (.tuple #[v, .int .i64 0]) ∧ Own w.heap.size w' v (bytesL q pl) ∧ Below w.heap.size w w' := by
  obtain ⟨hq, hn⟩ := pkF_zero h hf ht
  have hP := Blk.new w (pkL q (.slice A n cap)) 45
  have hw : Below w.heap.size w (w.alloc (.cells #[.bool q.fs, .int .u64 q.fh, .int .u64 q.fl, .bool q.ts, .int .u64 q.th, .int .u64 q.tl, .int .i64 q.hops, .int .i64 q.proto, .int .i64 q.fp, .int .i64 q.tp, .bool q.syn, .bool q.fin, .bool q.rst, .bool q.has, .int .i64 q.seq, .int .i64 q.ack, .bool q.reply, .int .i64 q.id, .slice A n cap] 45)) := (Below.refl _ _).alloc (Nat.le_refl _) _
  have L := ldPk_run hP
  have HC := Lib.hid (checkPacket_any q A n cap)
  rw [h] at HC
  have hl := hS.len
  have hpl := Lib.hid (show (partL q pl).length = (headP q pl.length).length + pl.length ∧ (headP q pl.length).length ≤ 20 from ⟨partL_len q pl, (atP_fits q pl.length).2⟩)
  have HB := Lib.hid (show bytesL q pl = headL q ((partL q pl).length : Int) ++ partL q pl from rfl)
  have HPA := Lib.hid (fun w' h1 h2 => partOf_any q w.heap.size A n cap pl w' h1 hq h2 hA hn hb)
  generalize bytesL q pl = bl at HB ⊢
  generalize partL q pl = pt at HPA HB hpl
  replace hq := Lib.hid hq
  replace hS := Lib.hid hS
  replace hl := Lib.hid hl
  clear h hf ht hb hA
  go_enter Try.func19, Try.ntmps19
  go_wp2_with fail
  refine (HC.out _).mono ?_
  rintro e u1 ⟨rfl, hv1⟩
  replace hP := hP.below hv1
  replace hw := hw.trans (hv1.mono hw.size)
  clear hv1 HC L
  go_wp2_with fail
  refine (HPA.out _ hP (hS.out.below hw)).mono ?_
  rintro e u2 ⟨v2, rfl, o2, hv2⟩
  replace hP := hP.below hv2
  have hwz := hw.size
  replace hw := hw.trans (hv2.mono hw.size)
  obtain ⟨A2, c2, rfl, hS2, hA2⟩ := o2.sl
  obtain ⟨m, hm⟩ : ∃ m, m = pt.length := ⟨_, rfl⟩
  rw [← hm] at hS2 hpl HB ⊢
  have hm1 : m ≤ 1420 := by have := hpl.out; have := hl.out; omega
  have HH := Lib.hid (headOf_any q _ w.heap.size (m : Int) u2 hP hq.out (by omega) (by omega))
  replace hS2 := Lib.hid hS2
  replace hA2 := Lib.hid hA2
  replace hm := Lib.hid hm
  replace hm1 := Lib.hid hm1
  clear hv2 o2 HPA
  go_wp2_with fail
  refine HH.out.mono ?_
  rintro e u3 ⟨v3, rfl, o3, hv3⟩
  have hz2 := hw.size
  replace hw := hw.trans (hv3.mono hw.size)
  have hS3 := Lib.hid (hS2.out.below hv3)
  replace o3 := o3.mono (B := w.heap.size) hz2
  have hhl : (headL q (m : Int)).length ≤ 100 := headL_len q m
  generalize headL q (m : Int) = hd at o3 HB hhl
  replace hhl := Lib.hid hhl
  clear hv3 HH hS2
  go_wp2_with (at_builtin; refine append_slB' rfl _ _ rfl w.heap.size _ _ rfl o3 A2 m c2 pt rfl hS3.out hA2.out (by have := hhl.out; have := hm1.out; omega) hw.size ?_)
  intro v4 u4 o4 hv4
  replace hw := hw.trans hv4
  clear hv4 o3 hS3
  go_wp2_with fail
  (try simp only [Exit.inBlock, Exit.then]); refine bodyPost_ret (results_tmp2 rfl _ _ _) rfl ?_
  exact ⟨_, rfl, by rw [HB.out]; exact o4, hw⟩

set_option maxHeartbeats 1000000 in
set_option maxRecDepth 100000 in
theorem flowOf_any (q : Pk) (v : Value) (w : World) :
    Calls Try.prog 43 #[pkV q v] w (GivesV (flowV q) w) := by
  have hP := Blk.new w (pkL q v) 45
  have hw : Below w.heap.size w (w.alloc (.cells #[.bool q.fs, .int .u64 q.fh, .int .u64 q.fl, .bool q.ts, .int .u64 q.th, .int .u64 q.tl, .int .i64 q.hops, .int .i64 q.proto, .int .i64 q.fp, .int .i64 q.tp, .bool q.syn, .bool q.fin, .bool q.rst, .bool q.has, .int .i64 q.seq, .int .i64 q.ack, .bool q.reply, .int .i64 q.id, v] 45)) := (Below.refl _ _).alloc (Nat.le_refl _) _
  have hw2 := Lib.hid (hw.alloc hw.size (.cells #[.int .i64 q.proto, .bool q.fs, .int .u64 q.fh, .int .u64 q.fl, .bool q.ts, .int .u64 q.th, .int .u64 q.tl, .int .i64 q.fp, .int .i64 q.tp] 51))
  obtain ⟨c0, c1, c2, c3, c4, c5, c6, c7, c8, c9, c10, c11, c12, c13, c14, c15, c16, c17, c18⟩ := hP.pk
  clear hP hw
  obtain ⟨fs, fh, fl, ts, th, tl, hops, proto, fp, tp, syn, fin, rst, has, seq, ack, reply, id⟩ := q
  dsimp only [flowV] at *
  go_enter Try.func43, Try.ntmps43
  go_wp2_with fail
  refine bodyPost_ret (v := .agg #[.int .i64 proto, .bool fs, .int .u64 fh, .int .u64 fl, .bool ts, .int .u64 th, .int .u64 tl, .int .i64 fp, .int .i64 tp]) ?_ rfl ⟨rfl, hw2.out⟩
  simp [results, Try.results43, go_sem]

set_option maxHeartbeats 1000000 in
set_option maxRecDepth 100000 in
theorem flowFrom_any (q : Pk) (v : Value) (w : World) :
    Calls Try.prog 25 #[pkV q v] w (GivesV (flowV q) w) := by
  have hP := Blk.new w (pkL q v) 45
  have hw : Below w.heap.size w (w.alloc (.cells #[.bool q.fs, .int .u64 q.fh, .int .u64 q.fl, .bool q.ts, .int .u64 q.th, .int .u64 q.tl, .int .i64 q.hops, .int .i64 q.proto, .int .i64 q.fp, .int .i64 q.tp, .bool q.syn, .bool q.fin, .bool q.rst, .bool q.has, .int .i64 q.seq, .int .i64 q.ack, .bool q.reply, .int .i64 q.id, v] 45)) := (Below.refl _ _).alloc (Nat.le_refl _) _
  have hw2 := Lib.hid (hw.alloc hw.size (.cells #[.int .i64 q.proto, .bool q.fs, .int .u64 q.fh, .int .u64 q.fl, .bool q.ts, .int .u64 q.th, .int .u64 q.tl, .int .i64 q.fp, .int .i64 q.tp] 51))
  obtain ⟨c0, c1, c2, c3, c4, c5, c6, c7, c8, c9, c10, c11, c12, c13, c14, c15, c16, c17, c18⟩ := hP.pk
  clear hP hw
  obtain ⟨fs, fh, fl, ts, th, tl, hops, proto, fp, tp, syn, fin, rst, has, seq, ack, reply, id⟩ := q
  dsimp only [flowV] at *
  go_enter Try.func25, Try.ntmps25
  go_wp2_with fail
  refine bodyPost_ret (v := .agg #[.int .i64 proto, .bool fs, .int .u64 fh, .int .u64 fl, .bool ts, .int .u64 th, .int .u64 tl, .int .i64 fp, .int .i64 tp]) ?_ rfl ⟨rfl, hw2.out⟩
  simp [results, Try.results25, go_sem]

end Go.Proofs.Ytigbbpgfblnboaa
