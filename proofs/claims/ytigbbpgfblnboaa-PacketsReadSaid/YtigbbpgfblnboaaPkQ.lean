/- Packets: layouts, the part, the bytes ahead of it, Write. -/
import Derived.Test.YtigbbpgfblnboaaPkP
namespace Go.Proofs.Ytigbbpgfblnboaa
open Go.RowKit
set_option linter.unusedVariables false
set_option linter.unusedSimpArgs false

set_option maxHeartbeats 1000000 in
theorem layout_six (w : World) : Calls Try.prog 68 #[.int .i64 6] w (GivesV (.agg #[.int .i64 20, .int .i64 16, .func (.func 90) #[] #[], .func (.func 91) #[] #[]]) w) := by
  go_enter Try.func68, Try.ntmps68
  go_wp2_with fail
  refine bodyPost_ret (v := .agg #[.int .i64 20, .int .i64 16, .func (.func 90) #[] #[], .func (.func 91) #[] #[]]) ?_ rfl ⟨rfl, (Below.refl _ _).alloc (Nat.le_refl _) _⟩
  simp [results, Try.results68, go_sem]
set_option maxHeartbeats 1000000 in
theorem layout_17 (w : World) : Calls Try.prog 68 #[.int .i64 17] w (GivesV (.agg #[.int .i64 8, .int .i64 6, .func (.func 92) #[] #[], .func (.func 93) #[] #[]]) w) := by
  go_enter Try.func68, Try.ntmps68
  go_wp2_with fail
  refine bodyPost_ret (v := .agg #[.int .i64 8, .int .i64 6, .func (.func 92) #[] #[], .func (.func 93) #[] #[]]) ?_ rfl ⟨rfl, (Below.refl _ _).alloc (Nat.le_refl _) _⟩
  simp [results, Try.results68, go_sem]
set_option maxHeartbeats 1000000 in
theorem layout_1 (w : World) : Calls Try.prog 68 #[.int .i64 1] w (GivesV (.agg #[.int .i64 8, .int .i64 2, .func (.func 94) #[] #[], .func (.func 95) #[] #[]]) w) := by
  go_enter Try.func68, Try.ntmps68
  go_wp2_with fail
  refine bodyPost_ret (v := .agg #[.int .i64 8, .int .i64 2, .func (.func 94) #[] #[], .func (.func 95) #[] #[]]) ?_ rfl ⟨rfl, (Below.refl _ _).alloc (Nat.le_refl _) _⟩
  simp [results, Try.results68, go_sem]

/-- The bytes of a part ahead of n bytes of payload, with 0 for the sum. -/
def headP (q : Pk) (n : Nat) : List Nat :=
  if q.proto = 6 then be q.fp.toNat 2 ++ be q.tp.toNat 2 ++ be q.seq.toNat 4 ++ be q.ack.toNat 4 ++ [80, flgN q] ++ be 65535 2 ++ [0, 0, 0, 0]
  else if q.proto = 17 then be q.fp.toNat 2 ++ be q.tp.toNat 2 ++ be (8 + n) 2 ++ [0, 0]
  else [kindN q.fs q.reply, 0, 0, 0] ++ be q.id.toNat 2 ++ be q.seq.toNat 2
/-- Where the sum is. -/
def atP (q : Pk) : Nat := if q.proto = 6 then 16 else if q.proto = 17 then 6 else 2
/-- The part of a packet. -/
def partL (q : Pk) (pl : List Nat) : List Nat := splice (headP q pl.length ++ pl) (atP q) (be (sumF q (headP q pl.length ++ pl)).toNat 2)
theorem flgN_lt (q : Pk) : flgN q < 256 := by unfold flgN; (repeat' split) <;> omega
theorem headP_byt (q : Pk) (n : Nat) : Byt (headP q n) := by
  have hf := flgN_lt q
  unfold headP
  split
  · refine Byt.app (Byt.app (Byt.app (Byt.app (Byt.app (Byt.app (be_lt _ _) (be_lt _ _)) (be_lt _ _)) (be_lt _ _)) ?_) (be_lt _ _)) ?_
    · intro b hb; simp at hb; omega
    · intro b hb; simp at hb; omega
  · split
    · refine Byt.app (Byt.app (Byt.app (be_lt _ _) (be_lt _ _)) (be_lt _ _)) ?_
      intro b hb; simp at hb; omega
    · refine Byt.app (Byt.app ?_ (be_lt _ _)) (be_lt _ _)
      intro b hb
      have hk : kindN q.fs q.reply < 256 := by unfold kindN; (repeat' split) <;> omega
      simp at hb; omega
theorem partOf_any (q : Pk) (pb : Nat) (A : Option Addr) (n cap : Nat) (pl : List Nat) (w : World) (hP : Blk w pb (pkL q (.slice A n cap)) 45) (hq : PkOk q) (hS : SlB w A n cap pl) (hA : A = none → cap = 0) (hn : n ≤ 1400) (hb : Byt pl) :
    Calls Try.prog 41 #[.pointer (some ⟨pb, 0, none⟩)] w (GivesB (partL q pl) w) := by
  have hl := hS.len
  have hbt := headP_byt q n
  have hr : 0 ≤ q.fp ∧ q.fp ≤ 65535 ∧ 0 ≤ q.tp ∧ q.tp ≤ 65535 := ⟨hq.fp0, hq.fp1, hq.tp0, hq.tp1⟩
  unfold partL
  rw [← hl]
  rcases hq.proto with h | h | h
  · have e1 : headP q n = [kindN q.fs q.reply, 0, 0, 0] ++ be q.id.toNat 2 ++ be q.seq.toNat 2 := by unfold headP; rw [if_neg (by omega), if_neg (by omega)]
    have e2 : atP q = 2 := by unfold atP; rw [if_neg (by omega), if_neg (by omega)]
    rw [e2]
    rw [e1] at hbt ⊢
    exact partOf_lay q pb A n cap pl _ 94 95 8 2 w hP hq hS hA hn hb (fun w' => by rw [h]; exact layout_1 w') (fun w' hp => writeIcmp_any q _ pb _ w' hp hq.seq0 (hq.seqI h) hq.id0 hq.id1) cf74 (by simp [be_len]) hbt (by omega) (by omega)
  · have e1 : headP q n = be q.fp.toNat 2 ++ be q.tp.toNat 2 ++ be q.seq.toNat 4 ++ be q.ack.toNat 4 ++ [80, flgN q] ++ be 65535 2 ++ [0, 0, 0, 0] := by unfold headP; rw [if_pos h]
    have e2 : atP q = 16 := by unfold atP; rw [if_pos h]
    rw [e2]
    rw [e1] at hbt ⊢
    exact partOf_lay q pb A n cap pl _ 90 91 20 16 w hP hq hS hA hn hb (fun w' => by rw [h]; exact layout_six w') (fun w' hp => writeTcp_any q _ pb _ w' hp hr hq.seq0 hq.seq1 hq.ack0 hq.ack1) cf70 (by simp [be_len]) hbt (by omega) (by omega)
  · have e1 : headP q n = be q.fp.toNat 2 ++ be q.tp.toNat 2 ++ be (8 + n) 2 ++ [0, 0] := by unfold headP; rw [if_neg (by omega), if_pos h]
    have e2 : atP q = 6 := by unfold atP; rw [if_neg (by omega), if_pos h]
    rw [e2]
    rw [e1] at hbt ⊢
    exact partOf_lay q pb A n cap pl _ 92 93 8 6 w hP hq hS hA hn hb (fun w' => by rw [h]; exact layout_17 w') (fun w' hp => by
      have hu := writeUdp_any q _ pb ((8 : Nat) + (n : Int)) w' hp hr (by omega) (by omega)
      rw [show ((8 : Nat) + (n : Int)).toNat = 8 + n by omega] at hu
      exact hu) cf72 (by simp [be_len]) hbt (by omega) (by omega)

/-- The bytes of a packet ahead of a part of len bytes. -/
def headL (q : Pk) (len : Int) : List Nat :=
  if q.fs then [96, 0, 0, 0] ++ be len.toNat 2 ++ [(codeN q.proto q.fs).toNat, q.hops.toNat] ++ adB q.fs q.fh q.fl ++ adB q.ts q.th q.tl
  else splice ([69, 0] ++ be (20 + len).toNat 2 ++ [0, 0, 0, 0, q.hops.toNat, (codeN q.proto q.fs).toNat, 0, 0] ++ adB q.fs q.fh q.fl ++ adB q.ts q.th q.tl) 10
    (be (sumR ([69, 0] ++ be (20 + len).toNat 2 ++ [0, 0, 0, 0, q.hops.toNat, (codeN q.proto q.fs).toNat, 0, 0] ++ adB q.fs q.fh q.fl ++ adB q.ts q.th q.tl)).toNat 2)
theorem slB_blk {w : World} {p n : Nat} {bs : List Nat} (h : Blk w p (bV bs) 5) (hn : n = bs.length) : SlB w (some ⟨p, 0, none⟩) n n bs := by
  subst hn
  refine ⟨(bV_len bs).symm, Nat.le_refl _, .inr ⟨p, 0, rfl, h.lt, fun j u hu => ?_⟩⟩
  rw [Nat.zero_add]
  exact h.cell hu
theorem wrap8 (x : Nat) (h : x < 256) : IntKind.u8.wrap (x : Int) = x := by rw [IntKind.wrap_u8]; omega

set_option maxHeartbeats 1000000 in
set_option maxRecDepth 100000 in
theorem headOf_any (q : Pk) (v : Value) (pb : Nat) (len : Int) (w : World) (hP : Blk w pb (pkL q v) 45) (hq : PkOk q) (hl0 : 0 ≤ len) (hl1 : len ≤ 60000) :
    Calls Try.prog 42 #[.pointer (some ⟨pb, 0, none⟩), .int .i64 len] w (GivesB (headL q len) w) := by
  have hpb := hP.lt
  have hw := Below.refl w.heap.size w
  have hr := Lib.hid (And.intro hq.f hq.t)
  obtain ⟨hc0, hc1⟩ := codeN_in (s := q.fs) hq.proto
  obtain ⟨c, hc⟩ := Int.eq_ofNat_of_zero_le hc0
  obtain ⟨hp, hhp⟩ := Int.eq_ofNat_of_zero_le hq.hops0
  have hp256 : hp < 256 := by have := hq.hops1; omega
  have hc256 : c < 256 := by omega
  have HL := Lib.hid (show headL q len = if q.fs then [96, 0, 0, 0] ++ be len.toNat 2 ++ [c, hp] ++ adB q.fs q.fh q.fl ++ adB q.ts q.th q.tl
    else splice ([69, 0] ++ be (20 + len).toNat 2 ++ [0, 0, 0, 0, hp, c, 0, 0] ++ adB q.fs q.fh q.fl ++ adB q.ts q.th q.tl) 10
      (be (sumR ([69, 0] ++ be (20 + len).toNat 2 ++ [0, 0, 0, 0, hp, c, 0, 0] ++ adB q.fs q.fh q.fl ++ adB q.ts q.th q.tl)).toNat 2) by unfold headL; rw [hc, hhp]; simp only [Int.toNat_natCast])
  generalize headL q len = LL at HL ⊢
  have hcd := Lib.hid hc
  clear hq hc0 hc1
  obtain ⟨fs, fh, fl, ts, th, tl, hops, proto, fp, tp, syn, fin, rst, has, seq, ack, reply, id⟩ := q
  dsimp only at *
  subst hhp
  have wc := wrap8 c hc256
  have wh := wrap8 hp hp256
  have mc : (c : Int) % 256 = c := by omega
  have mh : (hp : Int) % 256 = hp := by omega
  have wlen := wrapU len hl0 (by omega)
  have wlen2 := wrapU (20 + len) (by omega) (by omega)
  clear hc
  replace hp256 := Lib.hid hp256
  replace hc256 := Lib.hid hc256
  go_enter Try.func42, Try.ntmps42
  go_wp2_with fail
  refine wb_begin ([pb]) [] (by kernel_rfl) (fun u0 hb0' hz0' => ?_)
  replace hP := hP.below hb0'
  replace hw := hw.trans (hb0'.mono hw.size)
  clear hb0' hz0'
  refine wb_pure (i := 0) (d := some 8) (v := ?_) (by simp only [List.getElem?_toArray, List.getElem?_cons_succ, List.getElem?_cons_zero] <;> rfl) (by rfl) (by kernel_rfl) (by kernel_rfl) (by kernel_rfl) (fun _ _ _ h => h) (by rfl) ?_ ?_
  rotate_left
  · ((intro u); go_simp; try with_reducible rfl)
  try simp only [Act.put, List.setIfInBounds_toArray, List.set_cons_zero, List.set_cons_succ]
  refine wb_pure (i := 1) (d := some 9) (v := ?_) (by simp only [List.getElem?_toArray, List.getElem?_cons_succ, List.getElem?_cons_zero] <;> rfl) (by rfl) (by kernel_rfl) (by kernel_rfl) (by kernel_rfl) (fun _ _ _ h => h) (by rfl) ?_ ?_
  rotate_left
  · ((intro u); go_simp; try with_reducible rfl)
  try simp only [Act.put, List.setIfInBounds_toArray, List.set_cons_zero, List.set_cons_succ]
  refine wb_pure (i := 2) (d := some 10) (v := ?_) (by simp only [List.getElem?_toArray, List.getElem?_cons_succ, List.getElem?_cons_zero] <;> rfl) (by rfl) (by kernel_rfl) (by kernel_rfl) (by kernel_rfl) (fun _ _ _ h => h) (by rfl) ?_ ?_
  rotate_left
  · ((intro u); go_simp; try with_reducible rfl)
  try simp only [Act.put, List.setIfInBounds_toArray, List.set_cons_zero, List.set_cons_succ]
  refine wb_take (i := 3) (d := some 11) (v := ?_) (by simp only [List.getElem?_toArray, List.getElem?_cons_succ, List.getElem?_cons_zero] <;> rfl) (by rfl) (by kernel_rfl) (by kernel_rfl) (by kernel_rfl) (fun _ _ _ h => h) (by rfl) (by kernel_rfl) ?_ ?_
  rotate_left
  · ((intro u hu); have k7 := (hP.kb hu (by simp)).cell (i := 7) (v := .int .i64 proto) rfl; have k0 := (hP.kb hu (by simp)).cell (i := 0) (v := .bool fs) rfl; go_simp; try with_reducible rfl)
  try simp only [Act.put, List.setIfInBounds_toArray, List.set_cons_zero, List.set_cons_succ]
  refine wb_pure (i := 4) (d := some 12) (v := ?_) (by simp only [List.getElem?_toArray, List.getElem?_cons_succ, List.getElem?_cons_zero] <;> rfl) (by rfl) (by kernel_rfl) (by kernel_rfl) (by kernel_rfl) (fun _ _ _ h => h) (by rfl) ?_ ?_
  rotate_left
  · ((intro u); go_simp; try with_reducible rfl)
  try simp only [Act.put, List.setIfInBounds_toArray, List.set_cons_zero, List.set_cons_succ]
  refine wb_pure (i := 5) (d := some 13) (v := ?_) (by simp only [List.getElem?_toArray, List.getElem?_cons_succ, List.getElem?_cons_zero] <;> rfl) (by rfl) (by kernel_rfl) (by kernel_rfl) (by kernel_rfl) (fun _ _ _ h => h) (by rfl) ?_ ?_
  rotate_left
  · ((intro u); go_simp; try with_reducible rfl)
  try simp only [Act.put, List.setIfInBounds_toArray, List.set_cons_zero, List.set_cons_succ]
  refine wb_pure (i := 6) (d := some 14) (v := ?_) (by simp only [List.getElem?_toArray, List.getElem?_cons_succ, List.getElem?_cons_zero] <;> rfl) (by rfl) (by kernel_rfl) (by kernel_rfl) (by kernel_rfl) (fun _ _ _ h => h) (by rfl) ?_ ?_
  rotate_left
  · ((intro u); go_simp; try with_reducible rfl)
  try simp only [Act.put, List.setIfInBounds_toArray, List.set_cons_zero, List.set_cons_succ]
  refine wb_pure (i := 7) (d := some 15) (v := ?_) (by simp only [List.getElem?_toArray, List.getElem?_cons_succ, List.getElem?_cons_zero] <;> rfl) (by rfl) (by kernel_rfl) (by kernel_rfl) (by kernel_rfl) (fun _ _ _ h => h) (by rfl) ?_ ?_
  rotate_left
  · ((intro u); go_simp; try with_reducible rfl)
  try simp only [Act.put, List.setIfInBounds_toArray, List.set_cons_zero, List.set_cons_succ]
  refine wb_take (i := 8) (d := some 16) (v := ?_) (by simp only [List.getElem?_toArray, List.getElem?_cons_succ, List.getElem?_cons_zero] <;> rfl) (by rfl) (by kernel_rfl) (by kernel_rfl) (by kernel_rfl) (fun _ _ _ h => h) (by rfl) (by kernel_rfl) ?_ ?_
  rotate_left
  · ((intro u hu); have k7 := (hP.kb hu (by simp)).cell (i := 7) (v := .int .i64 proto) rfl; have k0 := (hP.kb hu (by simp)).cell (i := 0) (v := .bool fs) rfl; go_simp; try with_reducible rfl)
  try simp only [Act.put, List.setIfInBounds_toArray, List.set_cons_zero, List.set_cons_succ]
  refine wb_one (i := 9) (by simp only [List.getElem?_toArray, List.getElem?_cons_succ, List.getElem?_cons_zero] <;> rfl) (by kernel_rfl) (by rfl) (fun K hK => ?_)
  go_simp
  refine (proto_any proto fs _).mono ?_
  rintro e u9 ⟨rfl, rfl⟩
  rw [hcd.out]
  refine hK.out _ _ (Kb.refl _ _) ?_
  clear hK K
  try simp only [Act.put, List.setIfInBounds_toArray, List.set_cons_zero, List.set_cons_succ]
  refine wb_pure (i := 10) (d := some 18) (v := ?_) (by simp only [List.getElem?_toArray, List.getElem?_cons_succ, List.getElem?_cons_zero] <;> rfl) (by rfl) (by kernel_rfl) (by kernel_rfl) (by kernel_rfl) (fun _ _ _ h => h) (by rfl) ?_ ?_
  rotate_left
  · ((intro u); go_simp; try with_reducible rfl)
  try simp only [Act.put, List.setIfInBounds_toArray, List.set_cons_zero, List.set_cons_succ]
  refine wb_pure (i := 11) (d := some 5) (v := ?_) (by simp only [List.getElem?_toArray, List.getElem?_cons_succ, List.getElem?_cons_zero] <;> rfl) (by rfl) (by kernel_rfl) (by kernel_rfl) (by kernel_rfl) (fun _ _ _ h => h) (by rfl) ?_ ?_
  rotate_left
  · ((intro u); go_simp; try with_reducible rfl)
  try simp only [Act.put, List.setIfInBounds_toArray, List.set_cons_zero, List.set_cons_succ]
  refine wb_done (by kernel_rfl) ?_ _
  skip
  have c0 := hP.cell (i := 0) (v := .bool fs) rfl
  cases fs
  case true =>
    replace HL := Lib.hid (HL.out.trans (if_pos rfl))
    have o24 : Hid (Own w.heap.size (u0.alloc (.cells #[.int .u8 96, .int .u8 0, .int .u8 0, .int .u8 0] 5)) (.slice (some ⟨u0.heap.size, 0, none⟩) 4 4) [96, 0, 0, 0]) := Lib.hid (own_blk (Blk.new u0 (bV [96, 0, 0, 0]) 5) hw.size rfl (by omega))
    replace hw := hw.alloc hw.size (.cells #[.int .u8 96, .int .u8 0, .int .u8 0, .int .u8 0] 5)
    replace hP := hP.alloc (.cells #[.int .u8 96, .int .u8 0, .int .u8 0, .int .u8 0] 5)
    go_wp2_with fail
    refine (number_own w.heap.size 2 _ _ len _ o24.out hw.size (by simp) (by omega) hl0 (by omega)).mono ?_
    rintro e u27 ⟨v27, rfl, o27, hv27, hf27⟩
    replace hP := hP.upB hpb hv27
    replace hw := hw.trans hv27
    replace o27 := Lib.hid o27
    clear hv27 hf27 o24 c0
    go_wp2_with fail
    refine wb_begin ([pb]) [] (by kernel_rfl) (fun u0 hb0' hz0' => ?_)
    replace o27 := Lib.hid (o27.out.below hb0')
    replace hP := hP.below hb0'
    replace hw := hw.trans (hb0'.mono hw.size)
    clear hb0' hz0'
    refine wb_pure (i := 0) (d := some 28) (v := ?_) (by simp only [List.getElem?_toArray, List.getElem?_cons_succ, List.getElem?_cons_zero] <;> rfl) (by rfl) (by kernel_rfl) (by kernel_rfl) (by kernel_rfl) (fun _ _ _ h => h) (by rfl) ?_ ?_
    rotate_left
    · ((intro u); go_simp; try with_reducible rfl)
    try simp only [Act.put, List.setIfInBounds_toArray, List.set_cons_zero, List.set_cons_succ]
    refine wb_pure (i := 1) (d := some 29) (v := ?_) (by simp only [List.getElem?_toArray, List.getElem?_cons_succ, List.getElem?_cons_zero] <;> rfl) (by rfl) (by kernel_rfl) (by kernel_rfl) (by kernel_rfl) (fun _ _ _ h => h) (by rfl) ?_ ?_
    rotate_left
    · ((intro u); go_simp; try with_reducible rfl)
    try simp only [Act.put, List.setIfInBounds_toArray, List.set_cons_zero, List.set_cons_succ]
    refine wb_pure (i := 2) (d := some 30) (v := ?_) (by simp only [List.getElem?_toArray, List.getElem?_cons_succ, List.getElem?_cons_zero] <;> rfl) (by rfl) (by kernel_rfl) (by kernel_rfl) (by kernel_rfl) (fun _ _ _ h => h) (by rfl) ?_ ?_
    rotate_left
    · ((intro u); go_simp; try with_reducible rfl)
    try simp only [Act.put, List.setIfInBounds_toArray, List.set_cons_zero, List.set_cons_succ]
    refine wb_pure (i := 3) (d := some 31) (v := ?_) (by simp only [List.getElem?_toArray, List.getElem?_cons_succ, List.getElem?_cons_zero] <;> rfl) (by rfl) (by kernel_rfl) (by kernel_rfl) (by kernel_rfl) (fun _ _ _ h => h) (by rfl) ?_ ?_
    rotate_left
    · ((intro u); go_simp; try with_reducible rfl)
    try simp only [Act.put, List.setIfInBounds_toArray, List.set_cons_zero, List.set_cons_succ]
    refine wb_pure (i := 4) (d := some 32) (v := ?_) (by simp only [List.getElem?_toArray, List.getElem?_cons_succ, List.getElem?_cons_zero] <;> rfl) (by rfl) (by kernel_rfl) (by kernel_rfl) (by kernel_rfl) (fun _ _ _ h => h) (by rfl) ?_ ?_
    rotate_left
    · ((intro u); go_simp; try with_reducible rfl)
    try simp only [Act.put, List.setIfInBounds_toArray, List.set_cons_zero, List.set_cons_succ]
    refine wb_take (i := 5) (d := some 33) (v := ?_) (by simp only [List.getElem?_toArray, List.getElem?_cons_succ, List.getElem?_cons_zero] <;> rfl) (by rfl) (by kernel_rfl) (by kernel_rfl) (by kernel_rfl) (fun _ _ _ h => h) (by rfl) (by kernel_rfl) ?_ ?_
    rotate_left
    · ((intro u hu); have k0 := (hP.kb hu (by simp)).cell (i := 0) (v := .bool true) rfl; have k1 := (hP.kb hu (by simp)).cell (i := 1) (v := .int .u64 fh) rfl; have k2 := (hP.kb hu (by simp)).cell (i := 2) (v := .int .u64 fl) rfl; have k3 := (hP.kb hu (by simp)).cell (i := 3) (v := .bool ts) rfl; have k4 := (hP.kb hu (by simp)).cell (i := 4) (v := .int .u64 th) rfl; have k5 := (hP.kb hu (by simp)).cell (i := 5) (v := .int .u64 tl) rfl; have k6 := (hP.kb hu (by simp)).cell (i := 6) (v := .int .i64 hp) rfl; go_simp; try with_reducible rfl)
    try simp only [Act.put, List.setIfInBounds_toArray, List.set_cons_zero, List.set_cons_succ]
    refine wb_pure (i := 6) (d := some 34) (v := ?_) (by simp only [List.getElem?_toArray, List.getElem?_cons_succ, List.getElem?_cons_zero] <;> rfl) (by rfl) (by kernel_rfl) (by kernel_rfl) (by kernel_rfl) (fun _ _ _ h => h) (by rfl) ?_ ?_
    rotate_left
    · ((intro u); go_simp; try with_reducible rfl)
    try simp only [Act.put, List.setIfInBounds_toArray, List.set_cons_zero, List.set_cons_succ]
    refine wb_pure (i := 9) (d := some 37) (v := ?_) (by simp only [List.getElem?_toArray, List.getElem?_cons_succ, List.getElem?_cons_zero] <;> rfl) (by rfl) (by kernel_rfl) (by kernel_rfl) (by kernel_rfl) (fun _ _ _ h => h) (by rfl) ?_ ?_
    rotate_left
    · ((intro u); go_simp; try with_reducible rfl)
    try simp only [Act.put, List.setIfInBounds_toArray, List.set_cons_zero, List.set_cons_succ]
    refine wb_pure (i := 10) (d := some 38) (v := ?_) (by simp only [List.getElem?_toArray, List.getElem?_cons_succ, List.getElem?_cons_zero] <;> rfl) (by rfl) (by kernel_rfl) (by kernel_rfl) (by kernel_rfl) (fun _ _ _ h => h) (by rfl) ?_ ?_
    rotate_left
    · ((intro u); go_simp; try with_reducible rfl)
    try simp only [Act.put, List.setIfInBounds_toArray, List.set_cons_zero, List.set_cons_succ]
    refine wb_pure (i := 11) (d := some 39) (v := ?_) (by simp only [List.getElem?_toArray, List.getElem?_cons_succ, List.getElem?_cons_zero] <;> rfl) (by rfl) (by kernel_rfl) (by kernel_rfl) (by kernel_rfl) (fun _ _ _ h => h) (by rfl) ?_ ?_
    rotate_left
    · ((intro u); go_simp; try with_reducible rfl)
    try simp only [Act.put, List.setIfInBounds_toArray, List.set_cons_zero, List.set_cons_succ]
    refine wb_take (i := 12) (d := some 40) (v := ?_) (by simp only [List.getElem?_toArray, List.getElem?_cons_succ, List.getElem?_cons_zero] <;> rfl) (by rfl) (by kernel_rfl) (by kernel_rfl) (by kernel_rfl) (fun _ _ _ h => h) (by rfl) (by kernel_rfl) ?_ ?_
    rotate_left
    · ((intro u hu); have k0 := (hP.kb hu (by simp)).cell (i := 0) (v := .bool true) rfl; have k1 := (hP.kb hu (by simp)).cell (i := 1) (v := .int .u64 fh) rfl; have k2 := (hP.kb hu (by simp)).cell (i := 2) (v := .int .u64 fl) rfl; have k3 := (hP.kb hu (by simp)).cell (i := 3) (v := .bool ts) rfl; have k4 := (hP.kb hu (by simp)).cell (i := 4) (v := .int .u64 th) rfl; have k5 := (hP.kb hu (by simp)).cell (i := 5) (v := .int .u64 tl) rfl; have k6 := (hP.kb hu (by simp)).cell (i := 6) (v := .int .i64 hp) rfl; go_simp; try with_reducible rfl)
    try simp only [Act.put, List.setIfInBounds_toArray, List.set_cons_zero, List.set_cons_succ]
    refine wb_pure (i := 14) (d := some 42) (v := ?_) (by simp only [List.getElem?_toArray, List.getElem?_cons_succ, List.getElem?_cons_zero] <;> rfl) (by rfl) (by kernel_rfl) (by kernel_rfl) (by kernel_rfl) (fun _ _ _ h => h) (by rfl) ?_ ?_
    rotate_left
    · ((intro u); go_simp; try with_reducible rfl)
    try simp only [Act.put, List.setIfInBounds_toArray, List.set_cons_zero, List.set_cons_succ]
    refine wb_pure (i := 15) (d := some 43) (v := ?_) (by simp only [List.getElem?_toArray, List.getElem?_cons_succ, List.getElem?_cons_zero] <;> rfl) (by rfl) (by kernel_rfl) (by kernel_rfl) (by kernel_rfl) (fun _ _ _ h => h) (by rfl) ?_ ?_
    rotate_left
    · ((intro u); go_simp; try with_reducible rfl)
    try simp only [Act.put, List.setIfInBounds_toArray, List.set_cons_zero, List.set_cons_succ]
    refine wb_pure (i := 16) (d := some 44) (v := ?_) (by simp only [List.getElem?_toArray, List.getElem?_cons_succ, List.getElem?_cons_zero] <;> rfl) (by rfl) (by kernel_rfl) (by kernel_rfl) (by kernel_rfl) (fun _ _ _ h => h) (by rfl) ?_ ?_
    rotate_left
    · ((intro u); go_simp; try with_reducible rfl)
    try simp only [Act.put, List.setIfInBounds_toArray, List.set_cons_zero, List.set_cons_succ]
    refine wb_take (i := 17) (d := some 45) (v := ?_) (by simp only [List.getElem?_toArray, List.getElem?_cons_succ, List.getElem?_cons_zero] <;> rfl) (by rfl) (by kernel_rfl) (by kernel_rfl) (by kernel_rfl) (fun _ _ _ h => h) (by rfl) (by kernel_rfl) ?_ ?_
    rotate_left
    · ((intro u hu); have k0 := (hP.kb hu (by simp)).cell (i := 0) (v := .bool true) rfl; have k1 := (hP.kb hu (by simp)).cell (i := 1) (v := .int .u64 fh) rfl; have k2 := (hP.kb hu (by simp)).cell (i := 2) (v := .int .u64 fl) rfl; have k3 := (hP.kb hu (by simp)).cell (i := 3) (v := .bool ts) rfl; have k4 := (hP.kb hu (by simp)).cell (i := 4) (v := .int .u64 th) rfl; have k5 := (hP.kb hu (by simp)).cell (i := 5) (v := .int .u64 tl) rfl; have k6 := (hP.kb hu (by simp)).cell (i := 6) (v := .int .i64 hp) rfl; go_simp; try with_reducible rfl)
    try simp only [Act.put, List.setIfInBounds_toArray, List.set_cons_zero, List.set_cons_succ]
    refine wb_one (i := 7) (by simp only [List.getElem?_toArray, List.getElem?_cons_succ, List.getElem?_cons_zero] <;> rfl) (by kernel_rfl) (by rfl) (fun K hK => ?_)
    go_simp
    refine hK.out _ _ (Kb.gb (World.grownBy_alloc _ _ none) (by intro p hp; rw [List.mem_singleton.1 hp]; exact ⟨hP.lt, by simp⟩)) ?_
    refine wb_new (cs := bV [c, hp]) (t := 5) (fun u7 hv7 hL7 hz7 => ?_)
    have hS7 := slB_blk (n := 2) hL7 rfl
    replace o27 := Lib.hid (o27.out.below hv7)
    replace hP := hP.below hv7
    replace hw := hw.trans (hv7.mono hw.size)
    clear hK K hz7 hL7 hv7
    try simp only [Act.put, List.setIfInBounds_toArray, List.set_cons_zero, List.set_cons_succ]
    refine wb_one (i := 8) (by simp only [List.getElem?_toArray, List.getElem?_cons_succ, List.getElem?_cons_zero] <;> rfl) (by kernel_rfl) (by rfl) (fun K hK => ?_)
    refine wp_append_slB _ _ rfl w.heap.size _ _ rfl o27.out _ 2 2 [c, hp] rfl hS7 (fun h => by cases h) (by simp [be_len]) hw.size ?_
    intro v8 u8 o8 hg8
    have hv8 := own_next hg8 o27.out hw.size
    refine hK.out _ _ (Kb.below hv8 (by intro p hp; rw [List.mem_singleton.1 hp]; exact hpb)) ?_
    replace hP := hP.upB hpb hv8
    replace hw := hw.trans hv8
    clear hK K hv8 hg8 o27 hS7
    try simp only [Act.put, List.setIfInBounds_toArray, List.set_cons_zero, List.set_cons_succ]
    refine wb_one (i := 13) (by simp only [List.getElem?_toArray, List.getElem?_cons_succ, List.getElem?_cons_zero] <;> rfl) (by kernel_rfl) (by rfl) (fun K hK => ?_)
    go_simp
    refine (addrBytesP_any w.heap.size _ _ true fh fl _ hr.out.1 o8 hw.size (by simp [be_len])).mono ?_
    rintro e u13 ⟨v13, rfl, o13, hv13, hf13⟩
    refine hK.out _ _ (Kb.below hv13 (by intro p hp; rw [List.mem_singleton.1 hp]; exact hpb)) ?_
    replace hP := hP.upB hpb hv13
    replace hw := hw.trans hv13
    clear hK K hv13 hf13
    try simp only [Act.put, List.setIfInBounds_toArray, List.set_cons_zero, List.set_cons_succ]
    refine wb_one (i := 18) (by simp only [List.getElem?_toArray, List.getElem?_cons_succ, List.getElem?_cons_zero] <;> rfl) (by kernel_rfl) (by rfl) (fun K hK => ?_)
    go_simp
    refine (addrBytesP_any w.heap.size _ _ ts th tl _ hr.out.2 o13 hw.size (by have := adB_len true fh fl; simp [be_len]; omega)).mono ?_
    rintro e u18 ⟨v18, rfl, o18, hv18, hf18⟩
    refine hK.out _ _ (Kb.below hv18 (by intro p hp; rw [List.mem_singleton.1 hp]; exact hpb)) ?_
    replace hP := hP.upB hpb hv18
    replace hw := hw.trans hv18
    clear hK K hv18 hf18
    try simp only [Act.put, List.setIfInBounds_toArray, List.set_cons_zero, List.set_cons_succ]
    refine wb_pure (i := 19) (d := some 4) (v := ?_) (by simp only [List.getElem?_toArray, List.getElem?_cons_succ, List.getElem?_cons_zero] <;> rfl) (by rfl) (by kernel_rfl) (by kernel_rfl) (by kernel_rfl) (fun _ _ _ h => h) (by rfl) ?_ ?_
    rotate_left
    · ((intro u); go_simp; try with_reducible rfl)
    try simp only [Act.put, List.setIfInBounds_toArray, List.set_cons_zero, List.set_cons_succ]
    refine wb_done (by kernel_rfl) ?_ _
    go_wp2_with fail
    go_ret
    exact ⟨_, rfl, by rw [HL.out]; exact o18, hw⟩
  case false =>
    replace HL := Lib.hid (HL.out.trans (if_neg (by simp)))
    have o24 : Hid (Own w.heap.size (u0.alloc (.cells #[.int .u8 69, .int .u8 0] 5)) (.slice (some ⟨u0.heap.size, 0, none⟩) 2 2) [69, 0]) := Lib.hid (own_blk (Blk.new u0 (bV [69, 0]) 5) hw.size rfl (by omega))
    replace hw := hw.alloc hw.size (.cells #[.int .u8 69, .int .u8 0] 5)
    replace hP := hP.alloc (.cells #[.int .u8 69, .int .u8 0] 5)
    go_wp2_with fail
    refine (number_own w.heap.size 2 _ _ (20 + len) _ o24.out hw.size (by simp) (by omega) (by omega) (by omega)).mono ?_
    rintro e u27 ⟨v27, rfl, o27, hv27, hf27⟩
    replace hP := hP.upB hpb hv27
    replace hw := hw.trans hv27
    have c6 := hP.cell (i := 6) (v := .int .i64 hp) rfl
    clear hv27 hf27 o24 c0
    go_wp2_with (at_builtin; refine append_own_lit rfl _ _ rfl w.heap.size _ _ rfl o27 [0, 0, 0, 0, hp, c, 0, 0] _ _ rfl (by first | rfl | (simp [bV]; done)) rfl (by simp [be_len]) hw.size ?_)
    intro v60 x60 o60 hv60 hf60
    replace hP := hP.upB hpb hv60
    replace hw := hw.trans hv60
    replace o60 := Lib.hid o60
    clear hv60 hf60 o27 c6
    go_wp2_with fail
    refine wb_begin ([pb]) [] (by kernel_rfl) (fun u0 hb0' hz0' => ?_)
    replace o60 := Lib.hid (o60.out.below hb0')
    replace hP := hP.below hb0'
    replace hw := hw.trans (hb0'.mono hw.size)
    clear hb0' hz0'
    refine wb_pure (i := 0) (d := some 61) (v := ?_) (by simp only [List.getElem?_toArray, List.getElem?_cons_succ, List.getElem?_cons_zero] <;> rfl) (by rfl) (by kernel_rfl) (by kernel_rfl) (by kernel_rfl) (fun _ _ _ h => h) (by rfl) ?_ ?_
    rotate_left
    · ((intro u); go_simp; try with_reducible rfl)
    try simp only [Act.put, List.setIfInBounds_toArray, List.set_cons_zero, List.set_cons_succ]
    refine wb_pure (i := 1) (d := some 62) (v := ?_) (by simp only [List.getElem?_toArray, List.getElem?_cons_succ, List.getElem?_cons_zero] <;> rfl) (by rfl) (by kernel_rfl) (by kernel_rfl) (by kernel_rfl) (fun _ _ _ h => h) (by rfl) ?_ ?_
    rotate_left
    · ((intro u); go_simp; try with_reducible rfl)
    try simp only [Act.put, List.setIfInBounds_toArray, List.set_cons_zero, List.set_cons_succ]
    refine wb_pure (i := 2) (d := some 63) (v := ?_) (by simp only [List.getElem?_toArray, List.getElem?_cons_succ, List.getElem?_cons_zero] <;> rfl) (by rfl) (by kernel_rfl) (by kernel_rfl) (by kernel_rfl) (fun _ _ _ h => h) (by rfl) ?_ ?_
    rotate_left
    · ((intro u); go_simp; try with_reducible rfl)
    try simp only [Act.put, List.setIfInBounds_toArray, List.set_cons_zero, List.set_cons_succ]
    refine wb_pure (i := 3) (d := some 64) (v := ?_) (by simp only [List.getElem?_toArray, List.getElem?_cons_succ, List.getElem?_cons_zero] <;> rfl) (by rfl) (by kernel_rfl) (by kernel_rfl) (by kernel_rfl) (fun _ _ _ h => h) (by rfl) ?_ ?_
    rotate_left
    · ((intro u); go_simp; try with_reducible rfl)
    try simp only [Act.put, List.setIfInBounds_toArray, List.set_cons_zero, List.set_cons_succ]
    refine wb_take (i := 4) (d := some 65) (v := ?_) (by simp only [List.getElem?_toArray, List.getElem?_cons_succ, List.getElem?_cons_zero] <;> rfl) (by rfl) (by kernel_rfl) (by kernel_rfl) (by kernel_rfl) (fun _ _ _ h => h) (by rfl) (by kernel_rfl) ?_ ?_
    rotate_left
    · ((intro u hu); have k0 := (hP.kb hu (by simp)).cell (i := 0) (v := .bool false) rfl; have k1 := (hP.kb hu (by simp)).cell (i := 1) (v := .int .u64 fh) rfl; have k2 := (hP.kb hu (by simp)).cell (i := 2) (v := .int .u64 fl) rfl; have k3 := (hP.kb hu (by simp)).cell (i := 3) (v := .bool ts) rfl; have k4 := (hP.kb hu (by simp)).cell (i := 4) (v := .int .u64 th) rfl; have k5 := (hP.kb hu (by simp)).cell (i := 5) (v := .int .u64 tl) rfl; go_simp; try with_reducible rfl)
    try simp only [Act.put, List.setIfInBounds_toArray, List.set_cons_zero, List.set_cons_succ]
    refine wb_pure (i := 6) (d := some 67) (v := ?_) (by simp only [List.getElem?_toArray, List.getElem?_cons_succ, List.getElem?_cons_zero] <;> rfl) (by rfl) (by kernel_rfl) (by kernel_rfl) (by kernel_rfl) (fun _ _ _ h => h) (by rfl) ?_ ?_
    rotate_left
    · ((intro u); go_simp; try with_reducible rfl)
    try simp only [Act.put, List.setIfInBounds_toArray, List.set_cons_zero, List.set_cons_succ]
    refine wb_pure (i := 7) (d := some 68) (v := ?_) (by simp only [List.getElem?_toArray, List.getElem?_cons_succ, List.getElem?_cons_zero] <;> rfl) (by rfl) (by kernel_rfl) (by kernel_rfl) (by kernel_rfl) (fun _ _ _ h => h) (by rfl) ?_ ?_
    rotate_left
    · ((intro u); go_simp; try with_reducible rfl)
    try simp only [Act.put, List.setIfInBounds_toArray, List.set_cons_zero, List.set_cons_succ]
    refine wb_pure (i := 8) (d := some 69) (v := ?_) (by simp only [List.getElem?_toArray, List.getElem?_cons_succ, List.getElem?_cons_zero] <;> rfl) (by rfl) (by kernel_rfl) (by kernel_rfl) (by kernel_rfl) (fun _ _ _ h => h) (by rfl) ?_ ?_
    rotate_left
    · ((intro u); go_simp; try with_reducible rfl)
    try simp only [Act.put, List.setIfInBounds_toArray, List.set_cons_zero, List.set_cons_succ]
    refine wb_take (i := 9) (d := some 70) (v := ?_) (by simp only [List.getElem?_toArray, List.getElem?_cons_succ, List.getElem?_cons_zero] <;> rfl) (by rfl) (by kernel_rfl) (by kernel_rfl) (by kernel_rfl) (fun _ _ _ h => h) (by rfl) (by kernel_rfl) ?_ ?_
    rotate_left
    · ((intro u hu); have k0 := (hP.kb hu (by simp)).cell (i := 0) (v := .bool false) rfl; have k1 := (hP.kb hu (by simp)).cell (i := 1) (v := .int .u64 fh) rfl; have k2 := (hP.kb hu (by simp)).cell (i := 2) (v := .int .u64 fl) rfl; have k3 := (hP.kb hu (by simp)).cell (i := 3) (v := .bool ts) rfl; have k4 := (hP.kb hu (by simp)).cell (i := 4) (v := .int .u64 th) rfl; have k5 := (hP.kb hu (by simp)).cell (i := 5) (v := .int .u64 tl) rfl; go_simp; try with_reducible rfl)
    try simp only [Act.put, List.setIfInBounds_toArray, List.set_cons_zero, List.set_cons_succ]
    refine wb_one (i := 5) (by simp only [List.getElem?_toArray, List.getElem?_cons_succ, List.getElem?_cons_zero] <;> rfl) (by kernel_rfl) (by rfl) (fun K hK => ?_)
    go_simp
    refine (addrBytesP_any w.heap.size _ _ false fh fl _ hr.out.1 o60.out hw.size (by simp [be_len])).mono ?_
    rintro e u5 ⟨v5, rfl, o5, hv5, hf5⟩
    refine hK.out _ _ (Kb.below hv5 (by intro p hp; rw [List.mem_singleton.1 hp]; exact hpb)) ?_
    replace hP := hP.upB hpb hv5
    replace hw := hw.trans hv5
    clear hK K hv5 hf5
    try simp only [Act.put, List.setIfInBounds_toArray, List.set_cons_zero, List.set_cons_succ]
    refine wb_one (i := 10) (by simp only [List.getElem?_toArray, List.getElem?_cons_succ, List.getElem?_cons_zero] <;> rfl) (by kernel_rfl) (by rfl) (fun K hK => ?_)
    go_simp
    refine (addrBytesP_any w.heap.size _ _ ts th tl _ hr.out.2 o5 hw.size (by have := adB_len false fh fl; simp [be_len]; omega)).mono ?_
    rintro e u10 ⟨v10, rfl, o10, hv10, hf10⟩
    refine hK.out _ _ (Kb.below hv10 (by intro p hp; rw [List.mem_singleton.1 hp]; exact hpb)) ?_
    replace hP := hP.upB hpb hv10
    replace hw := hw.trans hv10
    clear hK K hv10 hf10
    try simp only [Act.put, List.setIfInBounds_toArray, List.set_cons_zero, List.set_cons_succ]
    refine wb_pure (i := 11) (d := some 7) (v := ?_) (by simp only [List.getElem?_toArray, List.getElem?_cons_succ, List.getElem?_cons_zero] <;> rfl) (by rfl) (by kernel_rfl) (by kernel_rfl) (by kernel_rfl) (fun _ _ _ h => h) (by rfl) ?_ ?_
    rotate_left
    · ((intro u); go_simp; try with_reducible rfl)
    try simp only [Act.put, List.setIfInBounds_toArray, List.set_cons_zero, List.set_cons_succ]
    refine wb_done (by kernel_rfl) ?_ _
    skip
    have hxb : Byt ([69, 0] ++ be (20 + len).toNat 2 ++ [0, 0, 0, 0, hp, c, 0, 0] ++ adB false fh fl ++ adB ts th tl) := by
      refine Byt.app (Byt.app (Byt.app (Byt.app ?_ (be_lt _ _)) ?_) (adB_byt _ _ _)) (adB_byt _ _ _)
      · intro b hb; simp at hb; omega
      · intro b hb; simp at hb; have := hp256.out; have := hc256.out; omega
    have hxl : 12 ≤ ([69, 0] ++ be (20 + len).toNat 2 ++ [0, 0, 0, 0, hp, c, 0, 0] ++ adB false fh fl ++ adB ts th tl).length ∧ ([69, 0] ++ be (20 + len).toNat 2 ++ [0, 0, 0, 0, hp, c, 0, 0] ++ adB false fh fl ++ adB ts th tl).length ≤ 100 := by
      have h1 := adB_len false fh fl
      have h2 := adB_len ts th tl
      simp [be_len]; omega
    replace o10 : Own w.heap.size u10 v10 ([69, 0] ++ be (20 + len).toNat 2 ++ [0, 0, 0, 0, hp, c, 0, 0] ++ adB false fh fl ++ adB ts th tl) := o10
    generalize [69, 0] ++ be (20 + len).toNat 2 ++ [0, 0, 0, 0, hp, c, 0, 0] ++ adB false fh fl ++ adB ts th tl = xs at HL o10 hxb hxl
    obtain ⟨g, cp, rfl, hS⟩ := o10.form (by omega)
    obtain ⟨hxl1, hxl2⟩ := hxl
    replace o10 := Lib.hid o10
    replace hS := Lib.hid hS
    replace hxb := Lib.hid hxb
    replace hxl1 := Lib.hid hxl1
    replace hxl2 := Lib.hid hxl2
    clear o5 o60
    go_wp2_with fail
    refine (sum_any _ _ cp xs _ hS.out (by have := hxl2.out; omega) hxb.out).mono ?_
    rintro e u74 ⟨rfl, hv74⟩
    replace hP := hP.below hv74
    replace hw := hw.trans (hv74.mono hw.size)
    replace o10 := Lib.hid (o10.out.below hv74)
    have hsr := sumR_in xs
    generalize sumR xs = sr at HL hsr ⊢
    clear hv74 hS
    go_wp2_with fail
    refine (putSum_any w.heap.size g cp xs.length 10 xs sr _ o10.out (by have := hxl1.out; omega) hsr.1 hsr.2 hw.size).mono ?_
    rintro e u75 ⟨rfl, o75, hv75⟩
    replace hw := hw.trans hv75
    clear hv75
    go_wp2_with fail
    go_ret
    exact ⟨_, rfl, by rw [HL.out]; exact o75, hw⟩
end Go.Proofs.Ytigbbpgfblnboaa
