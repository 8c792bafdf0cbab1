/- Packets that are read: copies, protocols, addresses. -/
import Derived.Test.YtijlahgmnpnmfaaGreatDoorKmPcP
import Derived.Test.YtijlahgmnpnmfaaGreatDoorKmPcD
import Derived.Test.YtijlahgmnpnmfaaGreatDoorKmPdB
namespace Go.Proofs.YtijlahgmnpnmfaaGreatDoor
open Go.RowKit
set_option linter.unusedVariables false
set_option linter.unusedSimpArgs false

set_option maxHeartbeats 1000000 in
theorem layout_six (w : World) : Calls Tryz.prog 34 #[.int .i64 6] w (GivesV (.agg #[.int .i64 20, .int .i64 16, .func (.func 58) #[] #[], .func (.func 59) #[] #[]]) w) := by
  go_enter Tryz.func34, Tryz.ntmps34
  go_wp2_with fail
  refine bodyPost_ret (v := .agg #[.int .i64 20, .int .i64 16, .func (.func 58) #[] #[], .func (.func 59) #[] #[]]) ?_ rfl ⟨rfl, (Below.refl _ _).alloc (Nat.le_refl _) _⟩
  simp [results, Tryz.results34, go_sem]
set_option maxHeartbeats 1000000 in
theorem layout_17 (w : World) : Calls Tryz.prog 34 #[.int .i64 17] w (GivesV (.agg #[.int .i64 8, .int .i64 6, .func (.func 60) #[] #[], .func (.func 61) #[] #[]]) w) := by
  go_enter Tryz.func34, Tryz.ntmps34
  go_wp2_with fail
  refine bodyPost_ret (v := .agg #[.int .i64 8, .int .i64 6, .func (.func 60) #[] #[], .func (.func 61) #[] #[]]) ?_ rfl ⟨rfl, (Below.refl _ _).alloc (Nat.le_refl _) _⟩
  simp [results, Tryz.results34, go_sem]
set_option maxHeartbeats 1000000 in
theorem layout_1 (w : World) : Calls Tryz.prog 34 #[.int .i64 1] w (GivesV (.agg #[.int .i64 8, .int .i64 2, .func (.func 62) #[] #[], .func (.func 63) #[] #[]]) w) := by
  go_enter Tryz.func34, Tryz.ntmps34
  go_wp2_with fail
  refine bodyPost_ret (v := .agg #[.int .i64 8, .int .i64 2, .func (.func 62) #[] #[], .func (.func 63) #[] #[]]) ?_ rfl ⟨rfl, (Below.refl _ _).alloc (Nat.le_refl _) _⟩
  simp [results, Tryz.results34, go_sem]

/-- The bytes of a part ahead of n bytes of payload, with 0 for the sum. -/
def headP (q : Pk) (n : Nat) : List Nat :=
  if q.proto = 6 then be q.fp.toNat 2 ++ be q.tp.toNat 2 ++ be q.seq.toNat 4 ++ be q.ack.toNat 4 ++ [80, flgN q] ++ be 65535 2 ++ [0, 0, 0, 0]
  else if q.proto = 17 then be q.fp.toNat 2 ++ be q.tp.toNat 2 ++ be (8 + n) 2 ++ [0, 0]
  else [kindN q.fs q.reply, 0, 0, 0] ++ be q.id.toNat 2 ++ be q.seq.toNat 2
/-- Where the sum is. -/
def atP (q : Pk) : Nat := if q.proto = 6 then 16 else if q.proto = 17 then 6 else 2
/-- The part of a packet. -/
def partL (q : Pk) (pl : List Nat) : List Nat := splice (headP q pl.length ++ pl) (atP q) (be (sumF q (headP q pl.length ++ pl)).toNat 2)
theorem flgN_lt (q : Pk) : flgN q < 256 := by unfold flgN; (repeat' split) <;> omega
theorem headP_byt (q : Pk) (n : Nat) : Byt (headP q n) := by
  have hf := flgN_lt q
  unfold headP
  split
  · refine Byt.app (Byt.app (Byt.app (Byt.app (Byt.app (Byt.app (be_lt _ _) (be_lt _ _)) (be_lt _ _)) (be_lt _ _)) ?_) (be_lt _ _)) ?_
    · intro b hb; simp at hb; omega
    · intro b hb; simp at hb; omega
  · split
    · refine Byt.app (Byt.app (Byt.app (be_lt _ _) (be_lt _ _)) (be_lt _ _)) ?_
      intro b hb; simp at hb; omega
    · refine Byt.app (Byt.app ?_ (be_lt _ _)) (be_lt _ _)
      intro b hb
      have hk : kindN q.fs q.reply < 256 := by unfold kindN; (repeat' split) <;> omega
      simp at hb; omega
theorem partOf_any (q : Pk) (pb : Nat) (A : Option Addr) (n cap : Nat) (pl : List Nat) (w : World) (hP : Blk w pb (pkL q (.slice A n cap)) 31) (hq : PkOk q) (hS : SlB w A n cap pl) (hA : A = none → cap = 0) (hn : n ≤ 1400) (hb : Byt pl) :
    Calls Tryz.prog 17 #[.pointer (some ⟨pb, 0, none⟩)] w (GivesB (partL q pl) w) := by
  have hl := hS.len
  have hbt := headP_byt q n
  have hr : 0 ≤ q.fp ∧ q.fp ≤ 65535 ∧ 0 ≤ q.tp ∧ q.tp ≤ 65535 := ⟨hq.fp0, hq.fp1, hq.tp0, hq.tp1⟩
  unfold partL
  rw [← hl]
  rcases hq.proto with h | h | h
  · have e1 : headP q n = [kindN q.fs q.reply, 0, 0, 0] ++ be q.id.toNat 2 ++ be q.seq.toNat 2 := by unfold headP; rw [if_neg (by omega), if_neg (by omega)]
    have e2 : atP q = 2 := by unfold atP; rw [if_neg (by omega), if_neg (by omega)]
    rw [e2]
    rw [e1] at hbt ⊢
    exact partOf_lay q pb A n cap pl _ 62 63 8 2 w hP hq hS hA hn hb (fun w' => by rw [h]; exact layout_1 w') (fun w' hp => writeIcmp_any q _ pb _ w' hp hq.seq0 (hq.seqI h) hq.id0 hq.id1) cf74 (by simp [be_len]) hbt (by omega) (by omega)
  · have e1 : headP q n = be q.fp.toNat 2 ++ be q.tp.toNat 2 ++ be q.seq.toNat 4 ++ be q.ack.toNat 4 ++ [80, flgN q] ++ be 65535 2 ++ [0, 0, 0, 0] := by unfold headP; rw [if_pos h]
    have e2 : atP q = 16 := by unfold atP; rw [if_pos h]
    rw [e2]
    rw [e1] at hbt ⊢
    exact partOf_lay q pb A n cap pl _ 58 59 20 16 w hP hq hS hA hn hb (fun w' => by rw [h]; exact layout_six w') (fun w' hp => writeTcp_any q _ pb _ w' hp hr hq.seq0 hq.seq1 hq.ack0 hq.ack1) cf70 (by simp [be_len]) hbt (by omega) (by omega)
  · have e1 : headP q n = be q.fp.toNat 2 ++ be q.tp.toNat 2 ++ be (8 + n) 2 ++ [0, 0] := by unfold headP; rw [if_neg (by omega), if_pos h]
    have e2 : atP q = 6 := by unfold atP; rw [if_neg (by omega), if_pos h]
    rw [e2]
    rw [e1] at hbt ⊢
    exact partOf_lay q pb A n cap pl _ 60 61 8 6 w hP hq hS hA hn hb (fun w' => by rw [h]; exact layout_17 w') (fun w' hp => by
      have hu := writeUdp_any q _ pb ((8 : Nat) + (n : Int)) w' hp hr (by omega) (by omega)
      rw [show ((8 : Nat) + (n : Int)).toNat = 8 + n by omega] at hu
      exact hu) cf72 (by simp [be_len]) hbt (by omega) (by omega)

/-- The bytes of a packet ahead of a part of len bytes. -/
def headL (q : Pk) (len : Int) : List Nat :=
  if q.fs then [96, 0, 0, 0] ++ be len.toNat 2 ++ [(codeN q.proto q.fs).toNat, q.hops.toNat] ++ adBy q.fs q.fh q.fl ++ adBy q.ts q.th q.tl
  else splice ([69, 0] ++ be (20 + len).toNat 2 ++ [0, 0, 0, 0, q.hops.toNat, (codeN q.proto q.fs).toNat, 0, 0] ++ adBy q.fs q.fh q.fl ++ adBy q.ts q.th q.tl) 10
    (be (sumR ([69, 0] ++ be (20 + len).toNat 2 ++ [0, 0, 0, 0, q.hops.toNat, (codeN q.proto q.fs).toNat, 0, 0] ++ adBy q.fs q.fh q.fl ++ adBy q.ts q.th q.tl)).toNat 2)
theorem slB_blk {w : World} {p n : Nat} {bs : List Nat} (h : Blk w p (bV bs) 5) (hn : n = bs.length) : SlB w (some ⟨p, 0, none⟩) n n bs := by
  subst hn
  refine ⟨(bV_len bs).symm, Nat.le_refl _, .inr ⟨p, 0, rfl, h.lt, fun j u hu => ?_⟩⟩
  rw [Nat.zero_add]
  exact h.cell hu
theorem wrap8 (x : Nat) (h : x < 256) : IntKind.u8.wrap (x : Int) = x := by rw [IntKind.wrap_u8]; omega

set_option maxHeartbeats 1000000 in
set_option maxRecDepth 100000 in
theorem headOf_any (q : Pk) (v : Value) (pb : Nat) (len : Int) (w : World) (hP : Blk w pb (pkL q v) 31) (hq : PkOk q) (hl0 : 0 ≤ len) (hl1 : len ≤ 60000) :
    Calls Tryz.prog 18 #[.pointer (some ⟨pb, 0, none⟩), .int .i64 len] w (GivesB (headL q len) w) := by
  have hpb := hP.lt
  have hw := Below.refl w.heap.size w
  have hr := Lib.hid (And.intro hq.f hq.t)
  obtain ⟨hc0, hc1⟩ := codeN_in (s := q.fs) hq.proto
  obtain ⟨c, hc⟩ := Int.eq_ofNat_of_zero_le hc0
  obtain ⟨hp, hhp⟩ := Int.eq_ofNat_of_zero_le hq.hops0
  have hp256 : hp < 256 := by have := hq.hops1; omega
  have hc256 : c < 256 := by omega
  have HL := Lib.hid (show headL q len = if q.fs then [96, 0, 0, 0] ++ be len.toNat 2 ++ [c, hp] ++ adBy q.fs q.fh q.fl ++ adBy q.ts q.th q.tl
    else splice ([69, 0] ++ be (20 + len).toNat 2 ++ [0, 0, 0, 0, hp, c, 0, 0] ++ adBy q.fs q.fh q.fl ++ adBy q.ts q.th q.tl) 10
      (be (sumR ([69, 0] ++ be (20 + len).toNat 2 ++ [0, 0, 0, 0, hp, c, 0, 0] ++ adBy q.fs q.fh q.fl ++ adBy q.ts q.th q.tl)).toNat 2) by unfold headL; rw [hc, hhp]; simp only [Int.toNat_natCast])
  generalize headL q len = LL at HL ⊢
  have hcd := Lib.hid hc
  clear hq hc0 hc1
  obtain ⟨fs, fh, fl, ts, th, tl, hops, proto, fp, tp, syn, fin, rst, has, seq, ack, reply, id⟩ := q
  dsimp only at *
  subst hhp
  have wc := wrap8 c hc256
  have wh := wrap8 hp hp256
  have mc : (c : Int) % 256 = c := by omega
  have mh : (hp : Int) % 256 = hp := by omega
  have wlen := wrapU len hl0 (by omega)
  have wlen2 := wrapU (20 + len) (by omega) (by omega)
  clear hc
  replace hp256 := Lib.hid hp256
  replace hc256 := Lib.hid hc256
  go_enter Tryz.func18, Tryz.ntmps18
  go_wp2_with fail
  refine wb_begin ([pb]) [] (by kernel_rfl) (fun u0 hb0' hz0' => ?_)
  replace hP := hP.below hb0'
  replace hw := hw.trans (hb0'.mono hw.size)
  clear hb0' hz0'
  refine wb_pure (i := 0) (d := some 8) (v := ?_) (by simp only [List.getElem?_toArray, List.getElem?_cons_succ, List.getElem?_cons_zero] <;> rfl) (by rfl) (by kernel_rfl) (by kernel_rfl) (by kernel_rfl) (fun _ _ _ h => h) (by rfl) ?_ ?_
  rotate_left
  · ((intro u); go_simp; try with_reducible rfl)
  try simp only [Act.put, List.setIfInBounds_toArray, List.set_cons_zero, List.set_cons_succ]
  refine wb_pure (i := 1) (d := some 9) (v := ?_) (by simp only [List.getElem?_toArray, List.getElem?_cons_succ, List.getElem?_cons_zero] <;> rfl) (by rfl) (by kernel_rfl) (by kernel_rfl) (by kernel_rfl) (fun _ _ _ h => h) (by rfl) ?_ ?_
  rotate_left
  · ((intro u); go_simp; try with_reducible rfl)
  try simp only [Act.put, List.setIfInBounds_toArray, List.set_cons_zero, List.set_cons_succ]
  refine wb_pure (i := 2) (d := some 10) (v := ?_) (by simp only [List.getElem?_toArray, List.getElem?_cons_succ, List.getElem?_cons_zero] <;> rfl) (by rfl) (by kernel_rfl) (by kernel_rfl) (by kernel_rfl) (fun _ _ _ h => h) (by rfl) ?_ ?_
  rotate_left
  · ((intro u); go_simp; try with_reducible rfl)
  try simp only [Act.put, List.setIfInBounds_toArray, List.set_cons_zero, List.set_cons_succ]
  refine wb_take (i := 3) (d := some 11) (v := ?_) (by simp only [List.getElem?_toArray, List.getElem?_cons_succ, List.getElem?_cons_zero] <;> rfl) (by rfl) (by kernel_rfl) (by kernel_rfl) (by kernel_rfl) (fun _ _ _ h => h) (by rfl) (by kernel_rfl) ?_ ?_
  rotate_left
  · ((intro u hu); have k7 := (hP.kb hu (by simp)).cell (i := 7) (v := .int .i64 proto) rfl; have k0 := (hP.kb hu (by simp)).cell (i := 0) (v := .bool fs) rfl; go_simp; try with_reducible rfl)
  try simp only [Act.put, List.setIfInBounds_toArray, List.set_cons_zero, List.set_cons_succ]
  refine wb_pure (i := 4) (d := some 12) (v := ?_) (by simp only [List.getElem?_toArray, List.getElem?_cons_succ, List.getElem?_cons_zero] <;> rfl) (by rfl) (by kernel_rfl) (by kernel_rfl) (by kernel_rfl) (fun _ _ _ h => h) (by rfl) ?_ ?_
  rotate_left
  · ((intro u); go_simp; try with_reducible rfl)
  try simp only [Act.put, List.setIfInBounds_toArray, List.set_cons_zero, List.set_cons_succ]
  refine wb_pure (i := 5) (d := some 13) (v := ?_) (by simp only [List.getElem?_toArray, List.getElem?_cons_succ, List.getElem?_cons_zero] <;> rfl) (by rfl) (by kernel_rfl) (by kernel_rfl) (by kernel_rfl) (fun _ _ _ h => h) (by rfl) ?_ ?_
  rotate_left
  · ((intro u); go_simp; try with_reducible rfl)
  try simp only [Act.put, List.setIfInBounds_toArray, List.set_cons_zero, List.set_cons_succ]
  refine wb_pure (i := 6) (d := some 14) (v := ?_) (by simp only [List.getElem?_toArray, List.getElem?_cons_succ, List.getElem?_cons_zero] <;> rfl) (by rfl) (by kernel_rfl) (by kernel_rfl) (by kernel_rfl) (fun _ _ _ h => h) (by rfl) ?_ ?_
  rotate_left
  · ((intro u); go_simp; try with_reducible rfl)
  try simp only [Act.put, List.setIfInBounds_toArray, List.set_cons_zero, List.set_cons_succ]
  refine wb_pure (i := 7) (d := some 15) (v := ?_) (by simp only [List.getElem?_toArray, List.getElem?_cons_succ, List.getElem?_cons_zero] <;> rfl) (by rfl) (by kernel_rfl) (by kernel_rfl) (by kernel_rfl) (fun _ _ _ h => h) (by rfl) ?_ ?_
  rotate_left
  · ((intro u); go_simp; try with_reducible rfl)
  try simp only [Act.put, List.setIfInBounds_toArray, List.set_cons_zero, List.set_cons_succ]
  refine wb_take (i := 8) (d := some 16) (v := ?_) (by simp only [List.getElem?_toArray, List.getElem?_cons_succ, List.getElem?_cons_zero] <;> rfl) (by rfl) (by kernel_rfl) (by kernel_rfl) (by kernel_rfl) (fun _ _ _ h => h) (by rfl) (by kernel_rfl) ?_ ?_
  rotate_left
  · ((intro u hu); have k7 := (hP.kb hu (by simp)).cell (i := 7) (v := .int .i64 proto) rfl; have k0 := (hP.kb hu (by simp)).cell (i := 0) (v := .bool fs) rfl; go_simp; try with_reducible rfl)
  try simp only [Act.put, List.setIfInBounds_toArray, List.set_cons_zero, List.set_cons_succ]
  refine wb_one (i := 9) (by simp only [List.getElem?_toArray, List.getElem?_cons_succ, List.getElem?_cons_zero] <;> rfl) (by kernel_rfl) (by rfl) (fun K hK => ?_)
  go_simp
  refine (proto_any proto fs _).mono ?_
  rintro e u9 ⟨rfl, rfl⟩
  rw [hcd.out]
  refine hK.out _ _ (Kb.refl _ _) ?_
  clear hK K
  try simp only [Act.put, List.setIfInBounds_toArray, List.set_cons_zero, List.set_cons_succ]
  refine wb_pure (i := 10) (d := some 18) (v := ?_) (by simp only [List.getElem?_toArray, List.getElem?_cons_succ, List.getElem?_cons_zero] <;> rfl) (by rfl) (by kernel_rfl) (by kernel_rfl) (by kernel_rfl) (fun _ _ _ h => h) (by rfl) ?_ ?_
  rotate_left
  · ((intro u); go_simp; try with_reducible rfl)
  try simp only [Act.put, List.setIfInBounds_toArray, List.set_cons_zero, List.set_cons_succ]
  refine wb_pure (i := 11) (d := some 5) (v := ?_) (by simp only [List.getElem?_toArray, List.getElem?_cons_succ, List.getElem?_cons_zero] <;> rfl) (by rfl) (by kernel_rfl) (by kernel_rfl) (by kernel_rfl) (fun _ _ _ h => h) (by rfl) ?_ ?_
  rotate_left
  · ((intro u); go_simp; try with_reducible rfl)
  try simp only [Act.put, List.setIfInBounds_toArray, List.set_cons_zero, List.set_cons_succ]
  refine wb_done (by kernel_rfl) ?_ _
  skip
  have c0 := hP.cell (i := 0) (v := .bool fs) rfl
  cases fs
  case true =>
    replace HL := Lib.hid (HL.out.trans (if_pos rfl))
    have o24 : Hid (Own w.heap.size (u0.alloc (.cells #[.int .u8 96, .int .u8 0, .int .u8 0, .int .u8 0] 5)) (.slice (some ⟨u0.heap.size, 0, none⟩) 4 4) [96, 0, 0, 0]) := Lib.hid (own_blk (Blk.new u0 (bV [96, 0, 0, 0]) 5) hw.size rfl (by omega))
    replace hw := hw.alloc hw.size (.cells #[.int .u8 96, .int .u8 0, .int .u8 0, .int .u8 0] 5)
    replace hP := hP.alloc (.cells #[.int .u8 96, .int .u8 0, .int .u8 0, .int .u8 0] 5)
    go_wp2_with fail
    refine (number_own w.heap.size 2 _ _ len _ o24.out hw.size (by simp) (by omega) hl0 (by omega)).mono ?_
    rintro e u27 ⟨v27, rfl, o27, hv27, hf27⟩
    replace hP := hP.upB hpb hv27
    replace hw := hw.trans hv27
    replace o27 := Lib.hid o27
    clear hv27 hf27 o24 c0
    go_wp2_with fail
    refine wb_begin ([pb]) [] (by kernel_rfl) (fun u0 hb0' hz0' => ?_)
    replace o27 := Lib.hid (o27.out.below hb0')
    replace hP := hP.below hb0'
    replace hw := hw.trans (hb0'.mono hw.size)
    clear hb0' hz0'
    refine wb_pure (i := 0) (d := some 28) (v := ?_) (by simp only [List.getElem?_toArray, List.getElem?_cons_succ, List.getElem?_cons_zero] <;> rfl) (by rfl) (by kernel_rfl) (by kernel_rfl) (by kernel_rfl) (fun _ _ _ h => h) (by rfl) ?_ ?_
    rotate_left
    · ((intro u); go_simp; try with_reducible rfl)
    try simp only [Act.put, List.setIfInBounds_toArray, List.set_cons_zero, List.set_cons_succ]
    refine wb_pure (i := 1) (d := some 29) (v := ?_) (by simp only [List.getElem?_toArray, List.getElem?_cons_succ, List.getElem?_cons_zero] <;> rfl) (by rfl) (by kernel_rfl) (by kernel_rfl) (by kernel_rfl) (fun _ _ _ h => h) (by rfl) ?_ ?_
    rotate_left
    · ((intro u); go_simp; try with_reducible rfl)
    try simp only [Act.put, List.setIfInBounds_toArray, List.set_cons_zero, List.set_cons_succ]
    refine wb_pure (i := 2) (d := some 30) (v := ?_) (by simp only [List.getElem?_toArray, List.getElem?_cons_succ, List.getElem?_cons_zero] <;> rfl) (by rfl) (by kernel_rfl) (by kernel_rfl) (by kernel_rfl) (fun _ _ _ h => h) (by rfl) ?_ ?_
    rotate_left
    · ((intro u); go_simp; try with_reducible rfl)
    try simp only [Act.put, List.setIfInBounds_toArray, List.set_cons_zero, List.set_cons_succ]
    refine wb_pure (i := 3) (d := some 31) (v := ?_) (by simp only [List.getElem?_toArray, List.getElem?_cons_succ, List.getElem?_cons_zero] <;> rfl) (by rfl) (by kernel_rfl) (by kernel_rfl) (by kernel_rfl) (fun _ _ _ h => h) (by rfl) ?_ ?_
    rotate_left
    · ((intro u); go_simp; try with_reducible rfl)
    try simp only [Act.put, List.setIfInBounds_toArray, List.set_cons_zero, List.set_cons_succ]
    refine wb_pure (i := 4) (d := some 32) (v := ?_) (by simp only [List.getElem?_toArray, List.getElem?_cons_succ, List.getElem?_cons_zero] <;> rfl) (by rfl) (by kernel_rfl) (by kernel_rfl) (by kernel_rfl) (fun _ _ _ h => h) (by rfl) ?_ ?_
    rotate_left
    · ((intro u); go_simp; try with_reducible rfl)
    try simp only [Act.put, List.setIfInBounds_toArray, List.set_cons_zero, List.set_cons_succ]
    refine wb_take (i := 5) (d := some 33) (v := ?_) (by simp only [List.getElem?_toArray, List.getElem?_cons_succ, List.getElem?_cons_zero] <;> rfl) (by rfl) (by kernel_rfl) (by kernel_rfl) (by kernel_rfl) (fun _ _ _ h => h) (by rfl) (by kernel_rfl) ?_ ?_
    rotate_left
    · ((intro u hu); have k0 := (hP.kb hu (by simp)).cell (i := 0) (v := .bool true) rfl; have k1 := (hP.kb hu (by simp)).cell (i := 1) (v := .int .u64 fh) rfl; have k2 := (hP.kb hu (by simp)).cell (i := 2) (v := .int .u64 fl) rfl; have k3 := (hP.kb hu (by simp)).cell (i := 3) (v := .bool ts) rfl; have k4 := (hP.kb hu (by simp)).cell (i := 4) (v := .int .u64 th) rfl; have k5 := (hP.kb hu (by simp)).cell (i := 5) (v := .int .u64 tl) rfl; have k6 := (hP.kb hu (by simp)).cell (i := 6) (v := .int .i64 hp) rfl; go_simp; try with_reducible rfl)
    try simp only [Act.put, List.setIfInBounds_toArray, List.set_cons_zero, List.set_cons_succ]
    refine wb_pure (i := 6) (d := some 34) (v := ?_) (by simp only [List.getElem?_toArray, List.getElem?_cons_succ, List.getElem?_cons_zero] <;> rfl) (by rfl) (by kernel_rfl) (by kernel_rfl) (by kernel_rfl) (fun _ _ _ h => h) (by rfl) ?_ ?_
    rotate_left
    · ((intro u); go_simp; try with_reducible rfl)
    try simp only [Act.put, List.setIfInBounds_toArray, List.set_cons_zero, List.set_cons_succ]
    refine wb_pure (i := 9) (d := some 37) (v := ?_) (by simp only [List.getElem?_toArray, List.getElem?_cons_succ, List.getElem?_cons_zero] <;> rfl) (by rfl) (by kernel_rfl) (by kernel_rfl) (by kernel_rfl) (fun _ _ _ h => h) (by rfl) ?_ ?_
    rotate_left
    · ((intro u); go_simp; try with_reducible rfl)
    try simp only [Act.put, List.setIfInBounds_toArray, List.set_cons_zero, List.set_cons_succ]
    refine wb_pure (i := 10) (d := some 38) (v := ?_) (by simp only [List.getElem?_toArray, List.getElem?_cons_succ, List.getElem?_cons_zero] <;> rfl) (by rfl) (by kernel_rfl) (by kernel_rfl) (by kernel_rfl) (fun _ _ _ h => h) (by rfl) ?_ ?_
    rotate_left
    · ((intro u); go_simp; try with_reducible rfl)
    try simp only [Act.put, List.setIfInBounds_toArray, List.set_cons_zero, List.set_cons_succ]
    refine wb_pure (i := 11) (d := some 39) (v := ?_) (by simp only [List.getElem?_toArray, List.getElem?_cons_succ, List.getElem?_cons_zero] <;> rfl) (by rfl) (by kernel_rfl) (by kernel_rfl) (by kernel_rfl) (fun _ _ _ h => h) (by rfl) ?_ ?_
    rotate_left
    · ((intro u); go_simp; try with_reducible rfl)
    try simp only [Act.put, List.setIfInBounds_toArray, List.set_cons_zero, List.set_cons_succ]
    refine wb_take (i := 12) (d := some 40) (v := ?_) (by simp only [List.getElem?_toArray, List.getElem?_cons_succ, List.getElem?_cons_zero] <;> rfl) (by rfl) (by kernel_rfl) (by kernel_rfl) (by kernel_rfl) (fun _ _ _ h => h) (by rfl) (by kernel_rfl) ?_ ?_
    rotate_left
    · ((intro u hu); have k0 := (hP.kb hu (by simp)).cell (i := 0) (v := .bool true) rfl; have k1 := (hP.kb hu (by simp)).cell (i := 1) (v := .int .u64 fh) rfl; have k2 := (hP.kb hu (by simp)).cell (i := 2) (v := .int .u64 fl) rfl; have k3 := (hP.kb hu (by simp)).cell (i := 3) (v := .bool ts) rfl; have k4 := (hP.kb hu (by simp)).cell (i := 4) (v := .int .u64 th) rfl; have k5 := (hP.kb hu (by simp)).cell (i := 5) (v := .int .u64 tl) rfl; have k6 := (hP.kb hu (by simp)).cell (i := 6) (v := .int .i64 hp) rfl; go_simp; try with_reducible rfl)
    try simp only [Act.put, List.setIfInBounds_toArray, List.set_cons_zero, List.set_cons_succ]
    refine wb_pure (i := 14) (d := some 42) (v := ?_) (by simp only [List.getElem?_toArray, List.getElem?_cons_succ, List.getElem?_cons_zero] <;> rfl) (by rfl) (by kernel_rfl) (by kernel_rfl) (by kernel_rfl) (fun _ _ _ h => h) (by rfl) ?_ ?_
    rotate_left
    · ((intro u); go_simp; try with_reducible rfl)
    try simp only [Act.put, List.setIfInBounds_toArray, List.set_cons_zero, List.set_cons_succ]
    refine wb_pure (i := 15) (d := some 43) (v := ?_) (by simp only [List.getElem?_toArray, List.getElem?_cons_succ, List.getElem?_cons_zero] <;> rfl) (by rfl) (by kernel_rfl) (by kernel_rfl) (by kernel_rfl) (fun _ _ _ h => h) (by rfl) ?_ ?_
    rotate_left
    · ((intro u); go_simp; try with_reducible rfl)
    try simp only [Act.put, List.setIfInBounds_toArray, List.set_cons_zero, List.set_cons_succ]
    refine wb_pure (i := 16) (d := some 44) (v := ?_) (by simp only [List.getElem?_toArray, List.getElem?_cons_succ, List.getElem?_cons_zero] <;> rfl) (by rfl) (by kernel_rfl) (by kernel_rfl) (by kernel_rfl) (fun _ _ _ h => h) (by rfl) ?_ ?_
    rotate_left
    · ((intro u); go_simp; try with_reducible rfl)
    try simp only [Act.put, List.setIfInBounds_toArray, List.set_cons_zero, List.set_cons_succ]
    refine wb_take (i := 17) (d := some 45) (v := ?_) (by simp only [List.getElem?_toArray, List.getElem?_cons_succ, List.getElem?_cons_zero] <;> rfl) (by rfl) (by kernel_rfl) (by kernel_rfl) (by kernel_rfl) (fun _ _ _ h => h) (by rfl) (by kernel_rfl) ?_ ?_
    rotate_left
    · ((intro u hu); have k0 := (hP.kb hu (by simp)).cell (i := 0) (v := .bool true) rfl; have k1 := (hP.kb hu (by simp)).cell (i := 1) (v := .int .u64 fh) rfl; have k2 := (hP.kb hu (by simp)).cell (i := 2) (v := .int .u64 fl) rfl; have k3 := (hP.kb hu (by simp)).cell (i := 3) (v := .bool ts) rfl; have k4 := (hP.kb hu (by simp)).cell (i := 4) (v := .int .u64 th) rfl; have k5 := (hP.kb hu (by simp)).cell (i := 5) (v := .int .u64 tl) rfl; have k6 := (hP.kb hu (by simp)).cell (i := 6) (v := .int .i64 hp) rfl; go_simp; try with_reducible rfl)
    try simp only [Act.put, List.setIfInBounds_toArray, List.set_cons_zero, List.set_cons_succ]
    refine wb_one (i := 7) (by simp only [List.getElem?_toArray, List.getElem?_cons_succ, List.getElem?_cons_zero] <;> rfl) (by kernel_rfl) (by rfl) (fun K hK => ?_)
    go_simp
    refine hK.out _ _ (Kb.gb (World.grownBy_alloc _ _ none) (by intro p hp; rw [List.mem_singleton.1 hp]; exact ⟨hP.lt, by simp⟩)) ?_
    refine wb_new (cs := bV [c, hp]) (t := 5) (fun u7 hv7 hL7 hz7 => ?_)
    have hS7 := slB_blk (n := 2) hL7 rfl
    replace o27 := Lib.hid (o27.out.below hv7)
    replace hP := hP.below hv7
    replace hw := hw.trans (hv7.mono hw.size)
    clear hK K hz7 hL7 hv7
    try simp only [Act.put, List.setIfInBounds_toArray, List.set_cons_zero, List.set_cons_succ]
    refine wb_one (i := 8) (by simp only [List.getElem?_toArray, List.getElem?_cons_succ, List.getElem?_cons_zero] <;> rfl) (by kernel_rfl) (by rfl) (fun K hK => ?_)
    refine wp_append_slB _ _ rfl w.heap.size _ _ rfl o27.out _ 2 2 [c, hp] rfl hS7 (fun h => by cases h) (by simp [be_len]) hw.size ?_
    intro v8 u8 o8 hg8
    have hv8 := own_next hg8 o27.out hw.size
    refine hK.out _ _ (Kb.below hv8 (by intro p hp; rw [List.mem_singleton.1 hp]; exact hpb)) ?_
    replace hP := hP.upB hpb hv8
    replace hw := hw.trans hv8
    clear hK K hv8 hg8 o27 hS7
    try simp only [Act.put, List.setIfInBounds_toArray, List.set_cons_zero, List.set_cons_succ]
    refine wb_one (i := 13) (by simp only [List.getElem?_toArray, List.getElem?_cons_succ, List.getElem?_cons_zero] <;> rfl) (by kernel_rfl) (by rfl) (fun K hK => ?_)
    go_simp
    refine (addrBytesP_any w.heap.size _ _ true fh fl _ hr.out.1 o8 hw.size (by simp [be_len])).mono ?_
    rintro e u13 ⟨v13, rfl, o13, hv13, hf13⟩
    refine hK.out _ _ (Kb.below hv13 (by intro p hp; rw [List.mem_singleton.1 hp]; exact hpb)) ?_
    replace hP := hP.upB hpb hv13
    replace hw := hw.trans hv13
    clear hK K hv13 hf13
    try simp only [Act.put, List.setIfInBounds_toArray, List.set_cons_zero, List.set_cons_succ]
    refine wb_one (i := 18) (by simp only [List.getElem?_toArray, List.getElem?_cons_succ, List.getElem?_cons_zero] <;> rfl) (by kernel_rfl) (by rfl) (fun K hK => ?_)
    go_simp
    refine (addrBytesP_any w.heap.size _ _ ts th tl _ hr.out.2 o13 hw.size (by have := adB_len true fh fl; simp [be_len]; omega)).mono ?_
    rintro e u18 ⟨v18, rfl, o18, hv18, hf18⟩
    refine hK.out _ _ (Kb.below hv18 (by intro p hp; rw [List.mem_singleton.1 hp]; exact hpb)) ?_
    replace hP := hP.upB hpb hv18
    replace hw := hw.trans hv18
    clear hK K hv18 hf18
    try simp only [Act.put, List.setIfInBounds_toArray, List.set_cons_zero, List.set_cons_succ]
    refine wb_pure (i := 19) (d := some 4) (v := ?_) (by simp only [List.getElem?_toArray, List.getElem?_cons_succ, List.getElem?_cons_zero] <;> rfl) (by rfl) (by kernel_rfl) (by kernel_rfl) (by kernel_rfl) (fun _ _ _ h => h) (by rfl) ?_ ?_
    rotate_left
    · ((intro u); go_simp; try with_reducible rfl)
    try simp only [Act.put, List.setIfInBounds_toArray, List.set_cons_zero, List.set_cons_succ]
    refine wb_done (by kernel_rfl) ?_ _
    go_wp2_with fail
    go_ret
    exact ⟨_, rfl, by rw [HL.out]; exact o18, hw⟩
  case false =>
    replace HL := Lib.hid (HL.out.trans (if_neg (by simp)))
    have o24 : Hid (Own w.heap.size (u0.alloc (.cells #[.int .u8 69, .int .u8 0] 5)) (.slice (some ⟨u0.heap.size, 0, none⟩) 2 2) [69, 0]) := Lib.hid (own_blk (Blk.new u0 (bV [69, 0]) 5) hw.size rfl (by omega))
    replace hw := hw.alloc hw.size (.cells #[.int .u8 69, .int .u8 0] 5)
    replace hP := hP.alloc (.cells #[.int .u8 69, .int .u8 0] 5)
    go_wp2_with fail
    refine (number_own w.heap.size 2 _ _ (20 + len) _ o24.out hw.size (by simp) (by omega) (by omega) (by omega)).mono ?_
    rintro e u27 ⟨v27, rfl, o27, hv27, hf27⟩
    replace hP := hP.upB hpb hv27
    replace hw := hw.trans hv27
    have c6 := hP.cell (i := 6) (v := .int .i64 hp) rfl
    clear hv27 hf27 o24 c0
    go_wp2_with (at_builtin; refine append_own_lit rfl _ _ rfl w.heap.size _ _ rfl o27 [0, 0, 0, 0, hp, c, 0, 0] _ _ rfl (by first | rfl | (simp [bV]; done)) rfl (by simp [be_len]) hw.size ?_)
    intro v60 x60 o60 hv60 hf60
    replace hP := hP.upB hpb hv60
    replace hw := hw.trans hv60
    replace o60 := Lib.hid o60
    clear hv60 hf60 o27 c6
    go_wp2_with fail
    refine wb_begin ([pb]) [] (by kernel_rfl) (fun u0 hb0' hz0' => ?_)
    replace o60 := Lib.hid (o60.out.below hb0')
    replace hP := hP.below hb0'
    replace hw := hw.trans (hb0'.mono hw.size)
    clear hb0' hz0'
    refine wb_pure (i := 0) (d := some 61) (v := ?_) (by simp only [List.getElem?_toArray, List.getElem?_cons_succ, List.getElem?_cons_zero] <;> rfl) (by rfl) (by kernel_rfl) (by kernel_rfl) (by kernel_rfl) (fun _ _ _ h => h) (by rfl) ?_ ?_
    rotate_left
    · ((intro u); go_simp; try with_reducible rfl)
    try simp only [Act.put, List.setIfInBounds_toArray, List.set_cons_zero, List.set_cons_succ]
    refine wb_pure (i := 1) (d := some 62) (v := ?_) (by simp only [List.getElem?_toArray, List.getElem?_cons_succ, List.getElem?_cons_zero] <;> rfl) (by rfl) (by kernel_rfl) (by kernel_rfl) (by kernel_rfl) (fun _ _ _ h => h) (by rfl) ?_ ?_
    rotate_left
    · ((intro u); go_simp; try with_reducible rfl)
    try simp only [Act.put, List.setIfInBounds_toArray, List.set_cons_zero, List.set_cons_succ]
    refine wb_pure (i := 2) (d := some 63) (v := ?_) (by simp only [List.getElem?_toArray, List.getElem?_cons_succ, List.getElem?_cons_zero] <;> rfl) (by rfl) (by kernel_rfl) (by kernel_rfl) (by kernel_rfl) (fun _ _ _ h => h) (by rfl) ?_ ?_
    rotate_left
    · ((intro u); go_simp; try with_reducible rfl)
    try simp only [Act.put, List.setIfInBounds_toArray, List.set_cons_zero, List.set_cons_succ]
    refine wb_pure (i := 3) (d := some 64) (v := ?_) (by simp only [List.getElem?_toArray, List.getElem?_cons_succ, List.getElem?_cons_zero] <;> rfl) (by rfl) (by kernel_rfl) (by kernel_rfl) (by kernel_rfl) (fun _ _ _ h => h) (by rfl) ?_ ?_
    rotate_left
    · ((intro u); go_simp; try with_reducible rfl)
    try simp only [Act.put, List.setIfInBounds_toArray, List.set_cons_zero, List.set_cons_succ]
    refine wb_take (i := 4) (d := some 65) (v := ?_) (by simp only [List.getElem?_toArray, List.getElem?_cons_succ, List.getElem?_cons_zero] <;> rfl) (by rfl) (by kernel_rfl) (by kernel_rfl) (by kernel_rfl) (fun _ _ _ h => h) (by rfl) (by kernel_rfl) ?_ ?_
    rotate_left
    · ((intro u hu); have k0 := (hP.kb hu (by simp)).cell (i := 0) (v := .bool false) rfl; have k1 := (hP.kb hu (by simp)).cell (i := 1) (v := .int .u64 fh) rfl; have k2 := (hP.kb hu (by simp)).cell (i := 2) (v := .int .u64 fl) rfl; have k3 := (hP.kb hu (by simp)).cell (i := 3) (v := .bool ts) rfl; have k4 := (hP.kb hu (by simp)).cell (i := 4) (v := .int .u64 th) rfl; have k5 := (hP.kb hu (by simp)).cell (i := 5) (v := .int .u64 tl) rfl; go_simp; try with_reducible rfl)
    try simp only [Act.put, List.setIfInBounds_toArray, List.set_cons_zero, List.set_cons_succ]
    refine wb_pure (i := 6) (d := some 67) (v := ?_) (by simp only [List.getElem?_toArray, List.getElem?_cons_succ, List.getElem?_cons_zero] <;> rfl) (by rfl) (by kernel_rfl) (by kernel_rfl) (by kernel_rfl) (fun _ _ _ h => h) (by rfl) ?_ ?_
    rotate_left
    · ((intro u); go_simp; try with_reducible rfl)
    try simp only [Act.put, List.setIfInBounds_toArray, List.set_cons_zero, List.set_cons_succ]
    refine wb_pure (i := 7) (d := some 68) (v := ?_) (by simp only [List.getElem?_toArray, List.getElem?_cons_succ, List.getElem?_cons_zero] <;> rfl) (by rfl) (by kernel_rfl) (by kernel_rfl) (by kernel_rfl) (fun _ _ _ h => h) (by rfl) ?_ ?_
    rotate_left
    · ((intro u); go_simp; try with_reducible rfl)
    try simp only [Act.put, List.setIfInBounds_toArray, List.set_cons_zero, List.set_cons_succ]
    refine wb_pure (i := 8) (d := some 69) (v := ?_) (by simp only [List.getElem?_toArray, List.getElem?_cons_succ, List.getElem?_cons_zero] <;> rfl) (by rfl) (by kernel_rfl) (by kernel_rfl) (by kernel_rfl) (fun _ _ _ h => h) (by rfl) ?_ ?_
    rotate_left
    · ((intro u); go_simp; try with_reducible rfl)
    try simp only [Act.put, List.setIfInBounds_toArray, List.set_cons_zero, List.set_cons_succ]
    refine wb_take (i := 9) (d := some 70) (v := ?_) (by simp only [List.getElem?_toArray, List.getElem?_cons_succ, List.getElem?_cons_zero] <;> rfl) (by rfl) (by kernel_rfl) (by kernel_rfl) (by kernel_rfl) (fun _ _ _ h => h) (by rfl) (by kernel_rfl) ?_ ?_
    rotate_left
    · ((intro u hu); have k0 := (hP.kb hu (by simp)).cell (i := 0) (v := .bool false) rfl; have k1 := (hP.kb hu (by simp)).cell (i := 1) (v := .int .u64 fh) rfl; have k2 := (hP.kb hu (by simp)).cell (i := 2) (v := .int .u64 fl) rfl; have k3 := (hP.kb hu (by simp)).cell (i := 3) (v := .bool ts) rfl; have k4 := (hP.kb hu (by simp)).cell (i := 4) (v := .int .u64 th) rfl; have k5 := (hP.kb hu (by simp)).cell (i := 5) (v := .int .u64 tl) rfl; go_simp; try with_reducible rfl)
    try simp only [Act.put, List.setIfInBounds_toArray, List.set_cons_zero, List.set_cons_succ]
    refine wb_one (i := 5) (by simp only [List.getElem?_toArray, List.getElem?_cons_succ, List.getElem?_cons_zero] <;> rfl) (by kernel_rfl) (by rfl) (fun K hK => ?_)
    go_simp
    refine (addrBytesP_any w.heap.size _ _ false fh fl _ hr.out.1 o60.out hw.size (by simp [be_len])).mono ?_
    rintro e u5 ⟨v5, rfl, o5, hv5, hf5⟩
    refine hK.out _ _ (Kb.below hv5 (by intro p hp; rw [List.mem_singleton.1 hp]; exact hpb)) ?_
    replace hP := hP.upB hpb hv5
    replace hw := hw.trans hv5
    clear hK K hv5 hf5
    try simp only [Act.put, List.setIfInBounds_toArray, List.set_cons_zero, List.set_cons_succ]
    refine wb_one (i := 10) (by simp only [List.getElem?_toArray, List.getElem?_cons_succ, List.getElem?_cons_zero] <;> rfl) (by kernel_rfl) (by rfl) (fun K hK => ?_)
    go_simp
    refine (addrBytesP_any w.heap.size _ _ ts th tl _ hr.out.2 o5 hw.size (by have := adB_len false fh fl; simp [be_len]; omega)).mono ?_
    rintro e u10 ⟨v10, rfl, o10, hv10, hf10⟩
    refine hK.out _ _ (Kb.below hv10 (by intro p hp; rw [List.mem_singleton.1 hp]; exact hpb)) ?_
    replace hP := hP.upB hpb hv10
    replace hw := hw.trans hv10
    clear hK K hv10 hf10
    try simp only [Act.put, List.setIfInBounds_toArray, List.set_cons_zero, List.set_cons_succ]
    refine wb_pure (i := 11) (d := some 7) (v := ?_) (by simp only [List.getElem?_toArray, List.getElem?_cons_succ, List.getElem?_cons_zero] <;> rfl) (by rfl) (by kernel_rfl) (by kernel_rfl) (by kernel_rfl) (fun _ _ _ h => h) (by rfl) ?_ ?_
    rotate_left
    · ((intro u); go_simp; try with_reducible rfl)
    try simp only [Act.put, List.setIfInBounds_toArray, List.set_cons_zero, List.set_cons_succ]
    refine wb_done (by kernel_rfl) ?_ _
    skip
    have hxb : Byt ([69, 0] ++ be (20 + len).toNat 2 ++ [0, 0, 0, 0, hp, c, 0, 0] ++ adBy false fh fl ++ adBy ts th tl) := by
      refine Byt.app (Byt.app (Byt.app (Byt.app ?_ (be_lt _ _)) ?_) (adB_byt _ _ _)) (adB_byt _ _ _)
      · intro b hb; simp at hb; omega
      · intro b hb; simp at hb; have := hp256.out; have := hc256.out; omega
    have hxl : 12 ≤ ([69, 0] ++ be (20 + len).toNat 2 ++ [0, 0, 0, 0, hp, c, 0, 0] ++ adBy false fh fl ++ adBy ts th tl).length ∧ ([69, 0] ++ be (20 + len).toNat 2 ++ [0, 0, 0, 0, hp, c, 0, 0] ++ adBy false fh fl ++ adBy ts th tl).length ≤ 100 := by
      have h1 := adB_len false fh fl
      have h2 := adB_len ts th tl
      simp [be_len]; omega
    replace o10 : Own w.heap.size u10 v10 ([69, 0] ++ be (20 + len).toNat 2 ++ [0, 0, 0, 0, hp, c, 0, 0] ++ adBy false fh fl ++ adBy ts th tl) := o10
    generalize [69, 0] ++ be (20 + len).toNat 2 ++ [0, 0, 0, 0, hp, c, 0, 0] ++ adBy false fh fl ++ adBy ts th tl = xs at HL o10 hxb hxl
    obtain ⟨g, cp, rfl, hS⟩ := o10.form (by omega)
    obtain ⟨hxl1, hxl2⟩ := hxl
    replace o10 := Lib.hid o10
    replace hS := Lib.hid hS
    replace hxb := Lib.hid hxb
    replace hxl1 := Lib.hid hxl1
    replace hxl2 := Lib.hid hxl2
    clear o5 o60
    go_wp2_with fail
    refine (sum_any _ _ cp xs _ hS.out (by have := hxl2.out; omega) hxb.out).mono ?_
    rintro e u74 ⟨rfl, hv74⟩
    replace hP := hP.below hv74
    replace hw := hw.trans (hv74.mono hw.size)
    replace o10 := Lib.hid (o10.out.below hv74)
    have hsr := sumR_in xs
    generalize sumR xs = sr at HL hsr ⊢
    clear hv74 hS
    go_wp2_with fail
    refine (putSum_any w.heap.size g cp xs.length 10 xs sr _ o10.out (by have := hxl1.out; omega) hsr.1 hsr.2 hw.size).mono ?_
    rintro e u75 ⟨rfl, o75, hv75⟩
    replace hw := hw.trans hv75
    clear hv75
    go_wp2_with fail
    go_ret
    exact ⟨_, rfl, by rw [HL.out]; exact o75, hw⟩
end Go.Proofs.YtijlahgmnpnmfaaGreatDoor
namespace Go.Proofs.YtijlahgmnpnmfaaGreatDoor
open Go.RowKit
def q4 (bs : List Nat) : Pk := ⟨false, 0, nb bs 12 4, false, 0, nb bs 16 4, bs.getD 8 0, protoN false (bs.getD 9 0), 0, 0, false, false, false, false, 0, 0, false, 0⟩
def q6 (bs : List Nat) : Pk := ⟨true, nb bs 8 8, nb bs 16 8, true, nb bs 24 8, nb bs 32 8, bs.getD 7 0, protoN true (bs.getD 6 0), 0, 0, false, false, false, false, 0, 0, false, 0⟩
/-- What is wrong with the head of a packet with addresses of 32 bits. -/
def fourE (bs : List Nat) : Int :=
  if sumR (splice (bs.take 20) 10 [0, 0]) ≠ (nb bs 10 2 : Int) then 15
  else if nb bs 2 2 ≠ bs.length ∨ bs.getD 1 0 ≠ 0 ∨ nb bs 4 4 ≠ 0 then 3 else if protoN false (bs.getD 9 0) = 0 then 4 else 0
def sixE (bs : List Nat) : Int :=
  if bs.length < 40 ∨ (nb bs 4 2 : Int) ≠ bs.length - 40 ∨ nb bs 1 3 ≠ 0 then 3 else if protoN true (bs.getD 6 0) = 0 then 4 else 0
def headE (bs : List Nat) : Int :=
  if bs.length < 20 then 3 else if bs.getD 0 0 = 69 then fourE bs else if bs.getD 0 0 = 96 then sixE bs else 4
def headN (bs : List Nat) : Nat := if bs.getD 0 0 = 69 then 20 else 40
def headQ (bs : List Nat) : Pk := if bs.getD 0 0 = 69 then q4 bs else q6 bs
/-- What a part tells. -/
def rdTcp (q : Pk) (bd : List Nat) : Pk := { q with fp := nb bd 0 2, tp := nb bd 2 2, seq := nb bd 4 4, ack := nb bd 8 4, fin := decide (bd.getD 13 0 % 2 = 1), syn := decide (bd.getD 13 0 / 2 % 2 = 1), rst := decide (bd.getD 13 0 / 4 % 2 = 1), has := decide (bd.getD 13 0 / 16 % 2 = 1) }
def rdUdp (q : Pk) (bd : List Nat) : Pk := { q with fp := nb bd 0 2, tp := nb bd 2 2 }
def rdIcmp (q : Pk) (bd : List Nat) (r : Bool) : Pk := { q with reply := r, id := nb bd 4 2, seq := nb bd 6 2 }
def rdBody (q : Pk) (bd : List Nat) : Pk := if q.proto = 6 then rdTcp q bd else if q.proto = 17 then rdUdp q bd else rdIcmp q bd (decide (bd.getD 0 0 = kindN q.fs true))
def rdBodyR (q : Pk) (bd : List Nat) : Pk := if q.proto = 6 then rdTcp q bd else if q.proto = 17 then rdUdp q bd else rdIcmp q bd (decide (bd.getD 0 0 = 0 ∨ bd.getD 0 0 = 129))
def szP (q : Pk) : Nat := if q.proto = 6 then 20 else 8
/-- What is wrong with a part. -/
def partE (q0 : Pk) (bd : List Nat) : Int :=
  if bd.length < szP q0 then 3
  else if headP (rdBody q0 bd) (bd.length - szP q0) ≠ splice (bd.take (szP q0)) (atP q0) [0, 0] ∨ fldB (rdBody q0 bd) = false then 3
  else if sumF (rdBody q0 bd) (splice bd (atP q0) [0, 0]) ≠ (nb bd (atP q0) 2 : Int) then 15 else 0
end Go.Proofs.YtijlahgmnpnmfaaGreatDoor
namespace Go.Proofs.YtijlahgmnpnmfaaGreatDoor
open Go.RowKit
set_option linter.unusedVariables false
set_option linter.unusedSimpArgs false

theorem Own.made (w : World) (t : TypeId) : Own w.heap.size (w.alloc (.cells #[] 5)) (.slice (some ⟨w.heap.size, 0, none⟩) 0 0) [] := Own.lit w [] 0 rfl (by decide)
set_option maxHeartbeats 2000000 in
set_option maxRecDepth 100000 in
theorem cloneB_any (A : Option Addr) (n cap : Nat) (bs : List Nat) (w : World) (hS : SlB w A n cap bs) (hn : n ≤ 100000) :
    Calls Tryz.prog 8 #[.slice A n cap] w (GivesB bs w) := by
  have q22 : ∀ (w : World) (a : Option Addr) (n c n' c' : Nat), (binOp .eql 29 (.slice a n c) (.slice none n' c')).run Tryz.prog w = .ok (.bool a.isNone) w := fun w a n c n' c' => Lib.run_eql_slice_nil w _ _ a n c n' c' Tryz.underlying29
  obtain ⟨i0, hi0, hz0, hz1, hz2⟩ := info_parts8 info_u8
  have hl := Lib.hid hS.len
  have hS := Lib.hid hS
  cases A with
  | none =>
    have hps : bs = [] := by
      rcases hS.out.2.2 with h | ⟨g, off, h, _⟩
      · exact List.length_eq_zero_iff.1 (by have := hl.out; omega)
      · cases h
    subst hps
    obtain rfl : n = 0 := by simpa using hl.out
    clear hl
    go_enter Tryz.func8, Tryz.ntmps8
    go_wp2_with fail
    go_ret
    exact ⟨_, rfl, Own.nil _ _, Below.refl _ _⟩
  | some a =>
    go_enter Tryz.func8, Tryz.ntmps8
    go_wp2_with (at_builtin; refine append_slB rfl _ _ rfl w.heap.size _ 0 [] rfl (Own.made w 5) (some a) n cap bs rfl (hS.out.below ((Below.refl _ _).alloc (Nat.le_refl _) _)) (fun h => by cases h) (by omega) (by simp) ?_)
    intro v' w1 hown hgrow
    have hB := ((Below.refl _ w).alloc (Nat.le_refl _) _).grown hgrow (by simp) (by intro k hk; simp [Value.ownBlock] at hk; omega)
    have ho : Hid (Own w.heap.size w1 v' bs) := Lib.hid (by unfold Own; rw [← hl.out]; simpa using hown)
    clear hgrow hown
    go_wp2_with fail
    go_ret
    exact ⟨_, rfl, ho.out, hB⟩
theorem be_zero2 : be (0 : Int).toNat 2 = [0, 0] := by decide
set_option maxHeartbeats 2000000 in
set_option maxRecDepth 100000 in
theorem withoutSum_any (A : Option Addr) (n cap k : Nat) (bs : List Nat) (w : World) (hS : SlB w A n cap bs) (hk : k + 2 ≤ n) (hn : n ≤ 100000) :
    Calls Tryz.prog 40 #[.slice A n cap, .int .i64 k] w (GivesB (splice bs k [0, 0]) w) := by
  have HC := Lib.hid (cloneB_any A n cap bs w hS hn)
  have hlb := Lib.hid hS.len
  clear hS
  go_enter Tryz.func40, Tryz.ntmps40
  go_wp2_with fail
  refine HC.out.mono ?_
  rintro e w1 ⟨v1, rfl, ho1, hb1⟩
  obtain ⟨g, c1, rfl, hs1⟩ := ho1.form (by have := hlb.out; omega)
  rw [← hlb.out] at ho1 hs1 ⊢
  have HP := Lib.hid (putSum_any w.heap.size g c1 n k bs 0 w1 ho1 hk (by omega) (by omega) hb1.size)
  rw [be_zero2] at HP
  clear ho1 hs1 HC
  go_wp2_with fail
  refine HP.out.mono ?_
  rintro e w2 ⟨rfl, ho2, hb2⟩
  clear HP
  replace ho2 := Lib.hid ho2
  go_wp2_with fail
  go_ret
  exact ⟨_, rfl, ho2.out, hb1.trans hb2⟩

/-- A packet's block in turn: all other old blocks are as they were. -/
structure RdP (w : World) (pb : Nat) (q : Pk) (v : Value) (w' : World) : Prop where
  blk : Blk w' pb (pkL q v) 31
  gb : w.grownBy w' (some pb)
theorem RdP.refl {w : World} {pb : Nat} {q : Pk} {v : Value} (h : Blk w pb (pkL q v) 31) : RdP w pb q v w := ⟨h, gb_refl _ _⟩
theorem RdP.below {w w' w'' : World} {pb : Nat} {q : Pk} {v : Value} (h : RdP w pb q v w') (hb : Below w'.heap.size w' w'') : RdP w pb q v w'' := ⟨h.blk.below hb, gb_below h.gb hb⟩
theorem RdP.drew {w w' : World} {pb : Nat} {q : Pk} {v : Value} (h : RdP w pb q v w') : RdP w pb q v w'.drew := ⟨h.blk, gb_drew h.gb⟩
theorem RdP.alloc {w w' : World} {pb : Nat} {q : Pk} {v : Value} (h : RdP w pb q v w') (o : Obj) : RdP w pb q v (w'.alloc o) := ⟨h.blk.alloc o, gb_alloc h.gb o⟩
theorem RdP.trans {w w' w'' : World} {pb : Nat} {q q' : Pk} {v v' : Value} (h : RdP w pb q v w') (k : RdP w' pb q' v' w'') : RdP w pb q' v' w'' := ⟨k.blk, gb_trans h.gb k.gb⟩
theorem gb_setSelf {a b : World} {p i : Nat} (h : a.grownBy b (some p)) (v : Value) : a.grownBy (b.setCell ⟨p, i, none⟩ v) (some p) :=
  ⟨h.os, h.tape, h.output, by simpa [World.setCell] using h.size, fun j hj hne => (Below.heap_setCell _ _ _ _ (by intro e; exact hne (by rw [e]))).trans (h.block j hj hne)⟩
theorem RdP.set {w w' : World} {pb : Nat} {q q' : Pk} {v v' : Value} (h : RdP w pb q v w') (i : Nat) (x : Value) (he : (pkL q v).set i x = pkL q' v') : RdP w pb q' v' (w'.setCell ⟨pb, i, none⟩ x) :=
  ⟨by have := h.blk.set i x; rwa [he] at this, gb_setSelf h.gb x⟩
/-- A slice in a block that is not turned. -/
theorem SlB.same {w w' : World} {g off n cap : Nat} {bs : List Nat} (h : SlB w (some ⟨g, off, none⟩) n cap bs) (hs : w.heap.size ≤ w'.heap.size) (hk : g < w.heap.size → w'.heap[g]? = w.heap[g]?) : SlB w' (some ⟨g, off, none⟩) n cap bs := by
  refine ⟨h.1, h.2.1, ?_⟩
  rcases h.2.2 with h0 | ⟨g', off', hA, hg, hc⟩
  · exact .inl h0
  · cases hA
    exact .inr ⟨g, off, rfl, by omega, fun j u hu => by rw [World.cell?_of_block (w := w) (hk hg)]; exact hc j u hu⟩
theorem SlB.rdp {w w' : World} {pb : Nat} {q : Pk} {v : Value} {g off n cap : Nat} {bs : List Nat} (h : SlB w (some ⟨g, off, none⟩) n cap bs) (hr : RdP w pb q v w') (hne : g ≠ pb) : SlB w' (some ⟨g, off, none⟩) n cap bs :=
  h.same hr.gb.size fun hg => hr.gb.block g hg (by intro e; cases e; exact hne rfl)

theorem protoN_in0 (six : Bool) (c : Nat) : protoN six c = if (c : Int) = codeN 1 six then 1 else if (c : Int) = 6 then 6 else if (c : Int) = 17 then 17 else 0 := by
  unfold protoN codeN
  cases six <;> simp <;> (repeat' split) <;> first | rfl | omega
set_option maxHeartbeats 2000000 in
set_option maxRecDepth 100000 in
theorem protoOf_any (c : Nat) (six : Bool) (w : World) (hc : c < 256) :
    Calls Tryz.prog 69 #[.int .u8 c, .bool six] w fun e w' => e = .returned (.tuple #[.int .i64 (protoN six c), .bool (!decide (protoN six c = 0))]) ∧ w = w' := by
  have x0 : ∀ W, (Instr.index 176 (.agg #[.int .i64 1, .int .i64 6, .int .i64 17]) (.int .i64 0)).run Tryz.prog W = .ok (.int .i64 1) W := fun _ => by kernel_rfl
  have x1 : ∀ W, (Instr.index 176 (.agg #[.int .i64 1, .int .i64 6, .int .i64 17]) (.int .i64 1)).run Tryz.prog W = .ok (.int .i64 6) W := fun _ => by kernel_rfl
  have x2 : ∀ W, (Instr.index 176 (.agg #[.int .i64 1, .int .i64 6, .int .i64 17]) (.int .i64 2)).run Tryz.prog W = .ok (.int .i64 17) W := fun _ => by kernel_rfl
  have HP1 := Lib.hid (fun w' => proto_any 1 six w')
  have HP2 := Lib.hid (fun w' => proto_any 6 six w')
  have HP3 := Lib.hid (fun w' => proto_any 17 six w')
  rw [show codeN 6 six = 6 from if_neg (by simp)] at HP2
  rw [show codeN 17 six = 17 from if_neg (by simp)] at HP3
  have hN := Lib.hid (protoN_in0 six c)
  have ha : 0 ≤ codeN 1 six ∧ codeN 1 six ≤ 100 := by unfold codeN; split <;> omega
  generalize codeN 1 six = a at HP1 hN ha
  generalize protoN six c = N at hN ⊢
  obtain ⟨z, hz⟩ : ∃ z : Int, z = (c : Int) := ⟨_, rfl⟩
  have hz0 : 0 ≤ z := by omega
  have hz1 : z < 256 := by omega
  rw [← hz] at hN ⊢
  clear hz hc
  by_cases h1 : z = a
  · have hE := Lib.hid (show N = 1 by rw [hN.out, if_pos h1])
    clear hN
    subst h1
    go_enter Tryz.func69, Tryz.ntmps69
    go_wp2_with fail
    refine wp_loop_rounds 4 ?_
    rw [rounds_succ]
    go_wp2_with fail
    refine (HP1.out _).mono ?_
    rintro e w1 ⟨rfl, rfl⟩
    go_wp2_with fail
    refine bodyPost_ret (v := .tuple #[.int .i64 1, .bool true]) ?_ rfl ⟨by rw [hE.out]; rfl, rfl⟩
    simp [results, Tryz.results69, go_sem]
  · have e1 : (a == z) = false := by simp; omega
    by_cases h2 : z = 6
    · have hE := Lib.hid (show N = 6 by rw [hN.out, if_neg h1, if_pos h2])
      clear hN
      replace h1 := Lib.hid h1
      subst h2
      go_enter Tryz.func69, Tryz.ntmps69
      go_wp2_with fail
      refine wp_loop_rounds 4 ?_
      rw [rounds_succ]
      go_wp2_with fail
      refine (HP1.out _).mono ?_
      rintro e w1 ⟨rfl, rfl⟩
      go_wp2_with fail
      rw [rounds_succ]
      go_wp2_with fail
      refine (HP2.out _).mono ?_
      rintro e w1 ⟨rfl, rfl⟩
      go_wp2_with fail
      refine bodyPost_ret (v := .tuple #[.int .i64 6, .bool true]) ?_ rfl ⟨by rw [hE.out]; rfl, rfl⟩
      simp [results, Tryz.results69, go_sem]
    · have e2 : (6 == z) = false := by simp; omega
      by_cases h3 : z = 17
      · have hE := Lib.hid (show N = 17 by rw [hN.out, if_neg h1, if_neg h2, if_pos h3])
        clear hN
        replace h1 := Lib.hid h1
        replace h2 := Lib.hid h2
        subst h3
        go_enter Tryz.func69, Tryz.ntmps69
        go_wp2_with fail
        refine wp_loop_rounds 4 ?_
        rw [rounds_succ]
        go_wp2_with fail
        refine (HP1.out _).mono ?_
        rintro e w1 ⟨rfl, rfl⟩
        go_wp2_with fail
        rw [rounds_succ]
        go_wp2_with fail
        refine (HP2.out _).mono ?_
        rintro e w1 ⟨rfl, rfl⟩
        go_wp2_with fail
        rw [rounds_succ]
        go_wp2_with fail
        refine (HP3.out _).mono ?_
        rintro e w1 ⟨rfl, rfl⟩
        go_wp2_with fail
        refine bodyPost_ret (v := .tuple #[.int .i64 17, .bool true]) ?_ rfl ⟨by rw [hE.out]; rfl, rfl⟩
        simp [results, Tryz.results69, go_sem]
      · have e3 : (17 == z) = false := by simp; omega
        have hE := Lib.hid (show N = 0 by rw [hN.out, if_neg h1, if_neg h2, if_neg h3])
        clear hN
        replace h1 := Lib.hid h1
        replace h2 := Lib.hid h2
        replace h3 := Lib.hid h3
        go_enter Tryz.func69, Tryz.ntmps69
        go_wp2_with fail
        refine wp_loop_rounds 4 ?_
        rw [rounds_succ]
        go_wp2_with fail
        refine (HP1.out _).mono ?_
        rintro e w1 ⟨rfl, rfl⟩
        go_wp2_with fail
        rw [rounds_succ]
        go_wp2_with fail
        refine (HP2.out _).mono ?_
        rintro e w1 ⟨rfl, rfl⟩
        go_wp2_with fail
        rw [rounds_succ]
        go_wp2_with fail
        refine (HP3.out _).mono ?_
        rintro e w1 ⟨rfl, rfl⟩
        go_wp2_with fail
        rw [rounds_succ]
        go_wp2_with fail
        refine bodyPost_ret (v := .tuple #[.int .i64 0, .bool false]) ?_ rfl ⟨by rw [hE.out]; rfl, rfl⟩
        simp [results, Tryz.results69, go_sem]

set_option maxHeartbeats 2000000 in
theorem addr4_any (A : Option Addr) (cap : Nat) (bs : List Nat) (w : World) (hS : SlB w A 4 cap bs) (hb : Byt bs) :
    Calls Tryz.prog 43 #[.slice A 4 cap] w (GivesV (.agg #[.bool false, .int .u64 0, .int .u64 (numF bs)]) w) := by
  have HN := Lib.hid (fun w' h => numberOf_any A 4 cap bs w' h (by omega) hb)
  have hR := Blk.new w [.bool false, .int .u64 0, .int .u64 0] 28
  have hw : Below w.heap.size w (w.alloc (.cells #[.bool false, .int .u64 0, .int .u64 0] 28)) := (Below.refl _ _).alloc (Nat.le_refl _) _
  have HN1 := Lib.hid (HN.out _ (hS.below hw))
  replace hw := Lib.hid hw
  replace hR := Lib.hid hR
  clear HN hS hb
  generalize (numF bs : Int) = N at HN1 ⊢
  go_enter Tryz.func43, Tryz.ntmps43
  go_wp2_with fail
  refine HN1.out.mono ?_
  rintro e w1 ⟨rfl, hb1⟩
  replace hR := hR.out.below hb1
  replace hw := hw.out.trans (hb1.mono hw.out.size)
  obtain ⟨c0, c1, c2, f0, f1, f2⟩ := hR.three
  go_wp2_with fail
  refine bodyPost_ret (v := adV false 0 N) (results_cell_row rfl _ _ w.heap.size _ _ (0, 0) _ rfl (((hR.set 0 (.bool false)).set 1 (.int .u64 0)).set 2 (.int .u64 N)) Tryz.underlying28 rfl (by kernel_rfl)) rfl ⟨rfl, ?_⟩
  exact ((hw.setCell (p := ⟨w.heap.size, 0, none⟩) (Nat.le_refl _) _).setCell (p := ⟨w.heap.size, 1, none⟩) (Nat.le_refl _) _).setCell (p := ⟨w.heap.size, 2, none⟩) (Nat.le_refl _) _
set_option maxHeartbeats 2000000 in
set_option maxRecDepth 100000 in
theorem addr16_any (g off cap : Nat) (bs : List Nat) (w : World) (hS : SlB w (some ⟨g, off, none⟩) 16 cap bs) (hb : Byt bs) :
    Calls Tryz.prog 43 #[.slice (some ⟨g, off, none⟩) 16 cap] w (GivesV (.agg #[.bool true, .int .u64 (nb bs 0 8), .int .u64 (nb bs 8 8)]) w) := by
  have hR := Lib.hid (Blk.new w [.bool false, .int .u64 0, .int .u64 0] 28)
  have hcap : (16 : Int) ≤ cap := by have := hS.2.1; omega
  have hcap8 : (8 : Int) ≤ cap := by omega
  have hne : ¬ cap = 8 := by omega
  have hw : Hid (Below w.heap.size w (w.alloc (.cells #[.bool false, .int .u64 0, .int .u64 0] 28))) := Lib.hid ((Below.refl _ _).alloc (Nat.le_refl _) _)
  replace hS := Lib.hid (hS.below hw.out)
  replace hb := Lib.hid hb
  go_enter Tryz.func43, Tryz.ntmps43
  go_wp2_with fail
  refine wb_begin ([]) [] (by kernel_rfl) (fun u0 hb0' hz0' => ?_)
  replace hS := Lib.hid (hS.out.below hb0')
  replace hR := Lib.hid (hR.out.below hb0')
  replace hw := Lib.hid (hw.out.trans (hb0'.mono hw.out.size))
  clear hb0' hz0'
  refine wb_pure (i := 0) (d := some 9) (v := ?_) (by simp only [List.getElem?_toArray, List.getElem?_cons_succ, List.getElem?_cons_zero] <;> rfl) (by rfl) (by kernel_rfl) (by kernel_rfl) (by kernel_rfl) (fun _ _ _ h => h) (by rfl) ?_ ?_
  rotate_left
  · ((intro u); go_simp; try with_reducible rfl)
  try simp only [Act.put, List.setIfInBounds_toArray, List.set_cons_zero, List.set_cons_succ]
  refine wb_pure (i := 1) (d := some 10) (v := ?_) (by simp only [List.getElem?_toArray, List.getElem?_cons_succ, List.getElem?_cons_zero] <;> rfl) (by rfl) (by kernel_rfl) (by kernel_rfl) (by kernel_rfl) (fun _ _ _ h => h) (by rfl) ?_ ?_
  rotate_left
  · ((intro u); go_simp; try with_reducible rfl)
  try simp only [Act.put, List.setIfInBounds_toArray, List.set_cons_zero, List.set_cons_succ]
  refine wb_pure (i := 3) (d := some 12) (v := ?_) (by simp only [List.getElem?_toArray, List.getElem?_cons_succ, List.getElem?_cons_zero] <;> rfl) (by rfl) (by kernel_rfl) (by kernel_rfl) (by kernel_rfl) (fun _ _ _ h => h) (by rfl) ?_ ?_
  rotate_left
  · ((intro u); go_simp; try with_reducible rfl)
  try simp only [Act.put, List.setIfInBounds_toArray, List.set_cons_zero, List.set_cons_succ]
  refine wb_pure (i := 4) (d := some 13) (v := ?_) (by simp only [List.getElem?_toArray, List.getElem?_cons_succ, List.getElem?_cons_zero] <;> rfl) (by rfl) (by kernel_rfl) (by kernel_rfl) (by kernel_rfl) (fun _ _ _ h => h) (by rfl) ?_ ?_
  rotate_left
  · ((intro u); go_simp; try with_reducible rfl)
  try simp only [Act.put, List.setIfInBounds_toArray, List.set_cons_zero, List.set_cons_succ]
  refine wb_one (i := 2) (by simp only [List.getElem?_toArray, List.getElem?_cons_succ, List.getElem?_cons_zero] <;> rfl) (by kernel_rfl) (by rfl) (fun K hK => ?_)
  go_simp
  refine (numberOf_any _ 8 _ ((bs.drop 0).take 8) _ (hS.out.part 0 8 _ (by omega) (by omega)) (by omega) (hb.out.sub 0 8)).mono ?_
  rintro e u2 ⟨rfl, hv2⟩
  refine hK.out _ _ (fun p hp => by cases hp) ?_
  replace hS := Lib.hid (hS.out.below hv2)
  replace hw := Lib.hid (hw.out.trans (hv2.mono hw.out.size))
  replace hR := Lib.hid (hR.out.below hv2)
  clear hK K hv2
  try simp only [Act.put, List.setIfInBounds_toArray, List.set_cons_zero, List.set_cons_succ]
  refine wb_one (i := 5) (by simp only [List.getElem?_toArray, List.getElem?_cons_succ, List.getElem?_cons_zero] <;> rfl) (by kernel_rfl) (by rfl) (fun K hK => ?_)
  go_simp
  refine (numberOf_any _ 8 _ ((bs.drop 8).take 8) _ (hS.out.part 8 8 _ (by omega) (by omega)) (by omega) (hb.out.sub 8 8)).mono ?_
  rintro e u5 ⟨rfl, hv5⟩
  refine hK.out _ _ (fun p hp => by cases hp) ?_
  replace hS := Lib.hid (hS.out.below hv5)
  replace hw := Lib.hid (hw.out.trans (hv5.mono hw.out.size))
  replace hR := Lib.hid (hR.out.below hv5)
  clear hK K hv5
  try simp only [Act.put, List.setIfInBounds_toArray, List.set_cons_zero, List.set_cons_succ]
  refine wb_pure (i := 6) (d := some 15) (v := ?_) (by simp only [List.getElem?_toArray, List.getElem?_cons_succ, List.getElem?_cons_zero] <;> rfl) (by rfl) (by kernel_rfl) (by kernel_rfl) (by kernel_rfl) (fun _ _ _ h => h) (by rfl) ?_ ?_
  rotate_left
  · ((intro u); go_simp; try with_reducible rfl)
  try simp only [Act.put, List.setIfInBounds_toArray, List.set_cons_zero, List.set_cons_succ]
  refine wb_one (i := 7) (by simp only [List.getElem?_toArray, List.getElem?_cons_succ, List.getElem?_cons_zero] <;> rfl) (by kernel_rfl) (by rfl) (fun K hK => ?_)
  obtain ⟨c0, c1, c2, f0, f1, f2⟩ := hR.out.three
  go_simp
  refine hK.out _ _ (fun p hp => by cases hp) ?_
  clear hK K c0 c1 c2 f0 f1 f2
  try simp only [Act.put, List.setIfInBounds_toArray, List.set_cons_zero, List.set_cons_succ]
  refine wb_done (by kernel_rfl) ?_ _
  go_wp2_with fail
  refine bodyPost_ret (v := adV true (nb bs 0 8) (nb bs 8 8)) (results_cell_row rfl _ _ w.heap.size _ _ (0, 0) _ rfl (((hR.out.set 0 (.bool true)).set 1 (.int .u64 (nb bs 0 8))).set 2 (.int .u64 (nb bs 8 8))) Tryz.underlying28 rfl (by kernel_rfl)) rfl ⟨rfl, ?_⟩
  exact ((hw.out.setCell (p := ⟨w.heap.size, 0, none⟩) (Nat.le_refl _) _).setCell (p := ⟨w.heap.size, 1, none⟩) (Nat.le_refl _) _).setCell (p := ⟨w.heap.size, 2, none⟩) (Nat.le_refl _) _
end Go.Proofs.YtijlahgmnpnmfaaGreatDoor
