/- Packets: the parts of the protocols, as the program writes them. -/
import Derived.Test.YtijlahgmnpnmfaaGreatDoorKmPcJ
namespace Go.Proofs.YtijlahgmnpnmfaaGreatDoor
open Go.RowKit
set_option linter.unusedVariables false
set_option linter.unusedSimpArgs false

theorem flg_bits (a b c d : Bool) : (if d then bits .or .i64 (if c then bits .or .i64 (if b then bits .or .i64 (if a then bits .or .i64 0 1 else 0) 2 else (if a then bits .or .i64 0 1 else 0)) 4 else (if b then bits .or .i64 (if a then bits .or .i64 0 1 else 0) 2 else (if a then bits .or .i64 0 1 else 0))) 16
    else (if c then bits .or .i64 (if b then bits .or .i64 (if a then bits .or .i64 0 1 else 0) 2 else (if a then bits .or .i64 0 1 else 0)) 4 else (if b then bits .or .i64 (if a then bits .or .i64 0 1 else 0) 2 else (if a then bits .or .i64 0 1 else 0)))) =
    (((if a then 1 else 0) + (if b then 2 else 0) + (if c then 4 else 0) + (if d then 16 else 0) : Nat) : Int) := by
  cases a <;> cases b <;> cases c <;> cases d <;> decide +kernel
theorem flags_any (q : Pk) (v : Value) (pb : Nat) (w : World) (hP : Blk w pb (pkL q v) 31) :
    Calls Tryz.prog 116 #[.pointer (some ⟨pb, 0, none⟩)] w (GivesV (.int .i64 (flgN q : Nat)) w) := by
  have hpb := hP.lt
  have hc := Blk.new w [.int .i64 0] 3
  have hw : Below w.heap.size w (w.alloc (.cells #[.int .i64 0] 3)) := (Below.refl _ _).alloc (Nat.le_refl _) _
  replace hP := hP.alloc (.cells #[.int .i64 0] 3)
  have HF : Hid (flgN q = (if q.fin then 1 else 0) + (if q.syn then 2 else 0) + (if q.rst then 4 else 0) + (if q.has then 16 else 0)) := Lib.hid rfl
  generalize flgN q = N at HF ⊢
  obtain ⟨fs, fh, fl, ts, th, tl, hops, proto, fp, tp, syn, fin, rst, has, seq, ack, reply, id⟩ := q
  dsimp only at *
  have c10 := hP.cell (i := 10) (v := .bool syn) rfl
  have c11 := hP.cell (i := 11) (v := .bool fin) rfl
  have c12 := hP.cell (i := 12) (v := .bool rst) rfl
  have c13 := hP.cell (i := 13) (v := .bool has) rfl
  go_enter Tryz.func116, Tryz.ntmps116
  go_wp2_with fail
  refine (add_any fin 1 _ w.heap.size _ _ hc).mono ?_
  rintro e w1 ⟨rfl, hc', hv⟩
  generalize hz1 : (if fin = true then bits .or .i64 0 1 else 0) = z1 at hc'
  replace hz1 := Lib.hid hz1
  replace hP := hP.upB hpb hv
  replace hw := hw.trans hv
  clear hc hv c10 c11 c12 c13
  have hc := hc'
  clear hc'
  have c10 := hP.cell (i := 10) (v := .bool syn) rfl
  have c11 := hP.cell (i := 11) (v := .bool fin) rfl
  have c12 := hP.cell (i := 12) (v := .bool rst) rfl
  have c13 := hP.cell (i := 13) (v := .bool has) rfl
  go_wp2_with fail
  refine (add_any syn 2 _ w.heap.size _ _ hc).mono ?_
  rintro e w2 ⟨rfl, hc', hv⟩
  generalize hz2 : (if syn = true then bits .or .i64 z1 2 else z1) = z2 at hc'
  replace hz2 := Lib.hid hz2
  replace hP := hP.upB hpb hv
  replace hw := hw.trans hv
  clear hc hv c10 c11 c12 c13
  have hc := hc'
  clear hc'
  have c10 := hP.cell (i := 10) (v := .bool syn) rfl
  have c11 := hP.cell (i := 11) (v := .bool fin) rfl
  have c12 := hP.cell (i := 12) (v := .bool rst) rfl
  have c13 := hP.cell (i := 13) (v := .bool has) rfl
  go_wp2_with fail
  refine (add_any rst 4 _ w.heap.size _ _ hc).mono ?_
  rintro e w3 ⟨rfl, hc', hv⟩
  generalize hz3 : (if rst = true then bits .or .i64 z2 4 else z2) = z3 at hc'
  replace hz3 := Lib.hid hz3
  replace hP := hP.upB hpb hv
  replace hw := hw.trans hv
  clear hc hv c10 c11 c12 c13
  have hc := hc'
  clear hc'
  have c10 := hP.cell (i := 10) (v := .bool syn) rfl
  have c11 := hP.cell (i := 11) (v := .bool fin) rfl
  have c12 := hP.cell (i := 12) (v := .bool rst) rfl
  have c13 := hP.cell (i := 13) (v := .bool has) rfl
  go_wp2_with fail
  refine (add_any has 16 _ w.heap.size _ _ hc).mono ?_
  rintro e w4 ⟨rfl, hc', hv⟩
  generalize hz4 : (if has = true then bits .or .i64 z3 16 else z3) = z4 at hc'
  replace hz4 := Lib.hid hz4
  replace hP := hP.upB hpb hv
  replace hw := hw.trans hv
  clear hc hv c10 c11 c12 c13
  have hc := hc'
  clear hc'
  have c10 := hP.cell (i := 10) (v := .bool syn) rfl
  have c11 := hP.cell (i := 11) (v := .bool fin) rfl
  have c12 := hP.cell (i := 12) (v := .bool rst) rfl
  have c13 := hP.cell (i := 13) (v := .bool has) rfl
  replace hP := Lib.hid hP
  have cc := hc.cell (i := 0) rfl
  replace hc := Lib.hid hc
  go_wp2_with fail
  go_ret
  exact ⟨by
    have h4 : z4 = (N : Int) := by rw [← hz4.out, ← hz3.out, ← hz2.out, ← hz1.out, HF.out]; exact flg_bits fin syn rst has
    rw [← h4]; rfl, hw⟩

theorem slB_lit (w : World) (bs : List Nat) (n : Nat) (cs : Array Value) (hc : cs = (bV bs).toArray) (hn : n = bs.length) : SlB (w.alloc (.cells cs 5)) (some ⟨w.heap.size, 0, none⟩) n n bs := by
  subst hc hn
  refine ⟨(bV_len bs).symm, Nat.le_refl _, .inr ⟨w.heap.size, 0, rfl, by simp, fun j u hu => ?_⟩⟩
  rw [Nat.zero_add]
  exact (Blk.new w (bV bs) 5).cell hu
/-- append of bytes that are written out, to one's own row: behind their making. -/
theorem append_own_lit {w : World} {ops : Array Oper} {rest : List Oper} {o : Oper} {a : Act} {Q : Exit → Act → World → Prop} (hgd : o.guard = none) (s x : Operand)
    (ho : o.op = .call { callee := .builtin .append, args := #[s, x], argTypes := #[29, 29] })
    (B : Nat) (v : Value) (xs : List Nat) (hs : a.eval s = v) (hown : Own B w v xs) (gs : List Nat) (n : Nat) (cs : Array Value)
    (hx : a.eval x = .slice (some ⟨w.heap.size, 0, none⟩) n n) (hc : cs = (bV gs).toArray) (hn : n = gs.length) (hb : xs.length + gs.length ≤ 100000) (hbase : B ≤ w.heap.size)
    (h : ∀ v' w', Own B w' v' (xs ++ gs) → Below B w w' → Fr w w' v v' → wpList Tryz.prog ops Q rest (a.put o.dst v') w') : wpList Tryz.prog ops Q (o :: rest) a (w.alloc (.cells cs 5)) := by
  refine wpList_plain hgd fun K hK => ?_
  have ho1 := hown.below ((Below.refl _ _).alloc (Nat.le_refl _) (.cells cs 5))
  have hz : B ≤ (w.alloc (.cells cs 5)).heap.size := by simp; omega
  refine wp_append_slB_fr s x ho B v xs hs ho1 _ n n gs hx (slB_lit w gs n cs hc hn) (fun e => by cases e) (by omega) hz (fun v' w' h1 h2 h3 => hK _ _ (h v' w' h1 ?_ (Fr.alloc _ h3)))
  exact ((Below.refl B w).alloc hbase _).trans (own_next h2 ho1 hz)

set_option maxHeartbeats 4000000 in
set_option maxRecDepth 100000 in
theorem writeTcp_any (q : Pk) (v : Value) (pb : Nat) (len : Int) (w : World) (hP : Blk w pb (pkL q v) 31) (hr : 0 ≤ q.fp ∧ q.fp ≤ 65535 ∧ 0 ≤ q.tp ∧ q.tp ≤ 65535) (hs0 : 0 ≤ q.seq) (hs1 : q.seq ≤ 4294967295) (ha0 : 0 ≤ q.ack) (ha1 : q.ack ≤ 4294967295) :
    Calls Tryz.prog 58 #[.pointer (some ⟨pb, 0, none⟩), .int .i64 len] w (GivesB (be q.fp.toNat 2 ++ be q.tp.toNat 2 ++ be q.seq.toNat 4 ++ be q.ack.toNat 4 ++ [80, flgN q] ++ be 65535 2 ++ [0, 0, 0, 0]) w) := by
  have hpb := hP.lt
  have hw := Below.refl w.heap.size w
  have HPB := Lib.hid (fun w' h => portBytes_any q v pb w' h hr)
  have HFL := Lib.hid (fun w' h => flags_any q v pb w' h)
  have hfl : flgN q < 256 := by unfold flgN; (repeat' split) <;> omega
  generalize flgN q = N at HFL hfl ⊢
  obtain ⟨fs, fh, fl, ts, th, tl, hops, proto, fp, tp, syn, fin, rst, has, seq, ack, reply, id⟩ := q
  dsimp only at *
  clear hr
  have wseq := wrapU seq hs0 (by omega)
  have wack := wrapU ack ha0 (by omega)
  go_enter Tryz.func58, Tryz.ntmps58
  go_wp2_with fail
  refine wb_begin ([pb]) [] (by kernel_rfl) (fun u0 hb0' hz0' => ?_)
  replace hP := hP.below hb0'
  replace hw := hw.trans (hb0'.mono hw.size)
  clear hb0' hz0'
  have hz0 := Lib.hid hw.size
  refine wb_pure (i := 0) (d := some 6) (v := ?_) (by simp only [List.getElem?_toArray, List.getElem?_cons_succ, List.getElem?_cons_zero] <;> rfl) (by rfl) (by kernel_rfl) (by kernel_rfl) (by kernel_rfl) (fun _ _ _ h => h) (by rfl) ?_ ?_
  rotate_left
  · ((intro u); go_simp; try with_reducible rfl)
  try simp only [Act.put, List.setIfInBounds_toArray, List.set_cons_zero, List.set_cons_succ]
  refine wb_pure (i := 2) (d := some 8) (v := ?_) (by simp only [List.getElem?_toArray, List.getElem?_cons_succ, List.getElem?_cons_zero] <;> rfl) (by rfl) (by kernel_rfl) (by kernel_rfl) (by kernel_rfl) (fun _ _ _ h => h) (by rfl) ?_ ?_
  rotate_left
  · ((intro u); go_simp; try with_reducible rfl)
  try simp only [Act.put, List.setIfInBounds_toArray, List.set_cons_zero, List.set_cons_succ]
  refine wb_pure (i := 3) (d := some 9) (v := ?_) (by simp only [List.getElem?_toArray, List.getElem?_cons_succ, List.getElem?_cons_zero] <;> rfl) (by rfl) (by kernel_rfl) (by kernel_rfl) (by kernel_rfl) (fun _ _ _ h => h) (by rfl) ?_ ?_
  rotate_left
  · ((intro u); go_simp; try with_reducible rfl)
  try simp only [Act.put, List.setIfInBounds_toArray, List.set_cons_zero, List.set_cons_succ]
  refine wb_pure (i := 4) (d := some 10) (v := ?_) (by simp only [List.getElem?_toArray, List.getElem?_cons_succ, List.getElem?_cons_zero] <;> rfl) (by rfl) (by kernel_rfl) (by kernel_rfl) (by kernel_rfl) (fun _ _ _ h => h) (by rfl) ?_ ?_
  rotate_left
  · ((intro u); go_simp; try with_reducible rfl)
  try simp only [Act.put, List.setIfInBounds_toArray, List.set_cons_zero, List.set_cons_succ]
  refine wb_take (i := 5) (d := some 11) (v := ?_) (by simp only [List.getElem?_toArray, List.getElem?_cons_succ, List.getElem?_cons_zero] <;> rfl) (by rfl) (by kernel_rfl) (by kernel_rfl) (by kernel_rfl) (fun _ _ _ h => h) (by rfl) (by kernel_rfl) ?_ ?_
  rotate_left
  · ((intro u hu); have k14 := (hP.kb hu (by simp)).cell (i := 14) (v := .int .i64 seq) rfl; have k15 := (hP.kb hu (by simp)).cell (i := 15) (v := .int .i64 ack) rfl; go_simp; try with_reducible rfl)
  try simp only [Act.put, List.setIfInBounds_toArray, List.set_cons_zero, List.set_cons_succ]
  refine wb_pure (i := 6) (d := some 12) (v := ?_) (by simp only [List.getElem?_toArray, List.getElem?_cons_succ, List.getElem?_cons_zero] <;> rfl) (by rfl) (by kernel_rfl) (by kernel_rfl) (by kernel_rfl) (fun _ _ _ h => h) (by rfl) ?_ ?_
  rotate_left
  · ((intro u); go_simp; try with_reducible rfl)
  try simp only [Act.put, List.setIfInBounds_toArray, List.set_cons_zero, List.set_cons_succ]
  refine wb_pure (i := 8) (d := some 14) (v := ?_) (by simp only [List.getElem?_toArray, List.getElem?_cons_succ, List.getElem?_cons_zero] <;> rfl) (by rfl) (by kernel_rfl) (by kernel_rfl) (by kernel_rfl) (fun _ _ _ h => h) (by rfl) ?_ ?_
  rotate_left
  · ((intro u); go_simp; try with_reducible rfl)
  try simp only [Act.put, List.setIfInBounds_toArray, List.set_cons_zero, List.set_cons_succ]
  refine wb_pure (i := 9) (d := some 15) (v := ?_) (by simp only [List.getElem?_toArray, List.getElem?_cons_succ, List.getElem?_cons_zero] <;> rfl) (by rfl) (by kernel_rfl) (by kernel_rfl) (by kernel_rfl) (fun _ _ _ h => h) (by rfl) ?_ ?_
  rotate_left
  · ((intro u); go_simp; try with_reducible rfl)
  try simp only [Act.put, List.setIfInBounds_toArray, List.set_cons_zero, List.set_cons_succ]
  refine wb_pure (i := 10) (d := some 16) (v := ?_) (by simp only [List.getElem?_toArray, List.getElem?_cons_succ, List.getElem?_cons_zero] <;> rfl) (by rfl) (by kernel_rfl) (by kernel_rfl) (by kernel_rfl) (fun _ _ _ h => h) (by rfl) ?_ ?_
  rotate_left
  · ((intro u); go_simp; try with_reducible rfl)
  try simp only [Act.put, List.setIfInBounds_toArray, List.set_cons_zero, List.set_cons_succ]
  refine wb_take (i := 11) (d := some 17) (v := ?_) (by simp only [List.getElem?_toArray, List.getElem?_cons_succ, List.getElem?_cons_zero] <;> rfl) (by rfl) (by kernel_rfl) (by kernel_rfl) (by kernel_rfl) (fun _ _ _ h => h) (by rfl) (by kernel_rfl) ?_ ?_
  rotate_left
  · ((intro u hu); have k14 := (hP.kb hu (by simp)).cell (i := 14) (v := .int .i64 seq) rfl; have k15 := (hP.kb hu (by simp)).cell (i := 15) (v := .int .i64 ack) rfl; go_simp; try with_reducible rfl)
  try simp only [Act.put, List.setIfInBounds_toArray, List.set_cons_zero, List.set_cons_succ]
  refine wb_pure (i := 12) (d := some 18) (v := ?_) (by simp only [List.getElem?_toArray, List.getElem?_cons_succ, List.getElem?_cons_zero] <;> rfl) (by rfl) (by kernel_rfl) (by kernel_rfl) (by kernel_rfl) (fun _ _ _ h => h) (by rfl) ?_ ?_
  rotate_left
  · ((intro u); go_simp; try with_reducible rfl)
  try simp only [Act.put, List.setIfInBounds_toArray, List.set_cons_zero, List.set_cons_succ]
  refine wb_one (i := 1) (by simp only [List.getElem?_toArray, List.getElem?_cons_succ, List.getElem?_cons_zero] <;> rfl) (by kernel_rfl) (by rfl) (fun K hK => ?_)
  go_simp
  refine (HPB.out _ hP).mono ?_
  rintro e u1 ⟨v1, rfl, o1, hv1⟩
  refine hK.out _ _ (Kb.below hv1 (by intro p hp; rw [List.mem_singleton.1 hp]; exact hP.lt)) ?_
  replace hP := hP.below hv1
  replace hw := hw.trans (hv1.mono hw.size)
  replace o1 := o1.mono (B := w.heap.size) hz0.out
  clear hK K hv1
  try simp only [Act.put, List.setIfInBounds_toArray, List.set_cons_zero, List.set_cons_succ]
  refine wb_one (i := 7) (by simp only [List.getElem?_toArray, List.getElem?_cons_succ, List.getElem?_cons_zero] <;> rfl) (by kernel_rfl) (by rfl) (fun K hK => ?_)
  go_simp
  refine (number_own w.heap.size 4 _ _ seq _ o1 hw.size (by simp [be_len]) (by omega) hs0 (by omega)).mono ?_
  rintro e u7 ⟨v7, rfl, o7, hv7, hf7⟩
  refine hK.out _ _ (Kb.below hv7 (by intro p hp; rw [List.mem_singleton.1 hp]; exact hpb)) ?_
  replace hP := hP.upB hpb hv7
  replace hw := hw.trans hv7
  clear hK K hv7 hf7
  try simp only [Act.put, List.setIfInBounds_toArray, List.set_cons_zero, List.set_cons_succ]
  refine wb_one (i := 13) (by simp only [List.getElem?_toArray, List.getElem?_cons_succ, List.getElem?_cons_zero] <;> rfl) (by kernel_rfl) (by rfl) (fun K hK => ?_)
  go_simp
  refine (number_own w.heap.size 4 _ _ ack _ o7 hw.size (by simp [be_len]) (by omega) ha0 (by omega)).mono ?_
  rintro e u13 ⟨v13, rfl, o13, hv13, hf13⟩
  refine hK.out _ _ (Kb.below hv13 (by intro p hp; rw [List.mem_singleton.1 hp]; exact hpb)) ?_
  replace hP := hP.upB hpb hv13
  replace hw := hw.trans hv13
  clear hK K hv13 hf13
  try simp only [Act.put, List.setIfInBounds_toArray, List.set_cons_zero, List.set_cons_succ]
  refine wb_pure (i := 14) (d := some 5) (v := ?_) (by simp only [List.getElem?_toArray, List.getElem?_cons_succ, List.getElem?_cons_zero] <;> rfl) (by rfl) (by kernel_rfl) (by kernel_rfl) (by kernel_rfl) (fun _ _ _ h => h) (by rfl) ?_ ?_
  rotate_left
  · ((intro u); go_simp; try with_reducible rfl)
  try simp only [Act.put, List.setIfInBounds_toArray, List.set_cons_zero, List.set_cons_succ]
  refine wb_done (by kernel_rfl) ?_ _
  skip
  have hN : (N : Int) % 256 = N := by omega
  replace hfl := Lib.hid hfl
  clear hz0 o1 o7
  go_wp2_with fail
  refine (HFL.out _ hP).mono ?_
  rintro e u20 ⟨rfl, hv20⟩
  replace hP := hP.below hv20
  replace o13 := o13.below hv20
  replace hw := hw.trans (hv20.mono hw.size)
  clear hv20 HFL
  go_wp2_with (at_builtin; refine append_own_lit rfl _ _ rfl w.heap.size _ _ rfl o13 [80, N] _ _ rfl (by first | rfl | (simp [bV]; done) | (simp [bV]; omega)) rfl (by simp [be_len]) hw.size ?_)
  intro v25 x25 o25 hv25 hf25
  replace hP := hP.upB hpb hv25
  replace hw := hw.trans hv25
  clear hv25 o13
  clear hf25
  go_wp2_with fail
  refine (number_own w.heap.size 2 _ _ 65535 _ o25 hw.size (by simp [be_len]) (by omega) (by omega) (by omega)).mono ?_
  rintro e u27 ⟨v27, rfl, o27, hv27, hf27⟩
  replace hP := hP.upB hpb hv27
  replace hw := hw.trans hv27
  clear hv27 hf27 o25
  go_wp2_with (at_builtin; refine append_own_lit rfl _ _ rfl w.heap.size _ _ rfl o27 [0, 0, 0, 0] _ _ rfl (by first | rfl | (simp [bV]; done) | (simp [bV]; omega)) rfl (by simp [be_len]) hw.size ?_)
  intro v30 x30 o30 hv30 hf30
  replace hP := hP.upB hpb hv30
  replace hw := hw.trans hv30
  clear hv30 o27
  clear hf30
  go_wp2_with fail
  go_ret
  exact ⟨_, rfl, o30, hw⟩

set_option maxHeartbeats 4000000 in
set_option maxRecDepth 100000 in
theorem writeUdp_any (q : Pk) (v : Value) (pb : Nat) (len : Int) (w : World) (hP : Blk w pb (pkL q v) 31) (hr : 0 ≤ q.fp ∧ q.fp ≤ 65535 ∧ 0 ≤ q.tp ∧ q.tp ≤ 65535) (hl0 : 0 ≤ len) (hl1 : len ≤ 65535) :
    Calls Tryz.prog 60 #[.pointer (some ⟨pb, 0, none⟩), .int .i64 len] w (GivesB (be q.fp.toNat 2 ++ be q.tp.toNat 2 ++ be len.toNat 2 ++ [0, 0]) w) := by
  have hpb := hP.lt
  have hw := Below.refl w.heap.size w
  have HPB := Lib.hid (portBytes_any q v pb w hP hr)
  clear hr
  have wlen := wrapU len hl0 (by omega)
  go_enter Tryz.func60, Tryz.ntmps60
  go_wp2_with fail
  refine HPB.out.mono ?_
  rintro e u1 ⟨v1, rfl, o1, hv1⟩
  replace hP := hP.upB hpb hv1
  replace hw := hw.trans hv1
  clear hv1 HPB
  go_wp2_with fail
  refine (number_own w.heap.size 2 _ _ len _ o1 hw.size (by simp [be_len]) (by omega) hl0 (by omega)).mono ?_
  rintro e u9 ⟨v9, rfl, o9, hv9, hf9⟩
  replace hP := hP.upB hpb hv9
  replace hw := hw.trans hv9
  clear hv9 hf9 o1
  go_wp2_with (at_builtin; refine append_own_lit rfl _ _ rfl w.heap.size _ _ rfl o9 [0, 0] _ _ rfl (by first | rfl | (simp [bV]; done) | (simp [bV]; omega)) rfl (by simp [be_len]) hw.size ?_)
  intro v11 x11 o11 hv11 hf11
  replace hP := hP.upB hpb hv11
  replace hw := hw.trans hv11
  clear hv11 o9
  clear hf11
  go_wp2_with fail
  go_ret
  exact ⟨_, rfl, o11, hw⟩

theorem own_blk {w : World} {p B n : Nat} {bs : List Nat} (h : Blk w p (bV bs) 5) (hB : B ≤ p) (hn : n = bs.length) (hm : n ≤ 1000) : Own B w (.slice (some ⟨p, 0, none⟩) n n) bs := by
  subst hn
  refine ⟨by simp [bV], .inr ⟨p, bs.length, (bV bs).toArray, rfl, hB, h, Nat.le_refl _, by unfold maxLen; omega, by simp [bV], ?_⟩⟩
  simp [bV]
  rw [List.take_of_length_le (by simp)]
/-- The first byte of ICMP. -/
def kindN (six reply : Bool) : Nat := if six then (if reply then 129 else 128) else (if reply then 0 else 8)

set_option maxHeartbeats 4000000 in
set_option maxRecDepth 100000 in
theorem writeIcmp_any (q : Pk) (v : Value) (pb : Nat) (len : Int) (w : World) (hP : Blk w pb (pkL q v) 31) (hs0 : 0 ≤ q.seq) (hs1 : q.seq ≤ 65535) (hi0 : 0 ≤ q.id) (hi1 : q.id ≤ 65535) :
    Calls Tryz.prog 62 #[.pointer (some ⟨pb, 0, none⟩), .int .i64 len] w (GivesB ([kindN q.fs q.reply, 0, 0, 0] ++ be q.id.toNat 2 ++ be q.seq.toNat 2) w) := by
  have hpb := hP.lt
  have hw := Below.refl w.heap.size w
  obtain ⟨fs, fh, fl, ts, th, tl, hops, proto, fp, tp, syn, fin, rst, has, seq, ack, reply, id⟩ := q
  dsimp only at *
  have HK := Lib.hid (fun w' => kind_any fs reply w')
  rw [show (if fs then (if reply then 129 else 128) else (if reply then 0 else 8) : Nat) = kindN fs reply from rfl] at HK
  generalize kindN fs reply = kd at HK ⊢
  have wseq := wrapU seq hs0 (by omega)
  have wid := wrapU id hi0 (by omega)
  go_enter Tryz.func62, Tryz.ntmps62
  go_wp2_with fail
  refine wb_begin ([pb]) [] (by kernel_rfl) (fun u0 hb0' hz0' => ?_)
  replace hP := hP.below hb0'
  replace hw := hw.trans (hb0'.mono hw.size)
  clear hb0' hz0'
  refine wb_pure (i := 0) (d := some 6) (v := ?_) (by simp only [List.getElem?_toArray, List.getElem?_cons_succ, List.getElem?_cons_zero] <;> rfl) (by rfl) (by kernel_rfl) (by kernel_rfl) (by kernel_rfl) (fun _ _ _ h => h) (by rfl) ?_ ?_
  rotate_left
  · ((intro u); go_simp; try with_reducible rfl)
  try simp only [Act.put, List.setIfInBounds_toArray, List.set_cons_zero, List.set_cons_succ]
  refine wb_pure (i := 1) (d := some 7) (v := ?_) (by simp only [List.getElem?_toArray, List.getElem?_cons_succ, List.getElem?_cons_zero] <;> rfl) (by rfl) (by kernel_rfl) (by kernel_rfl) (by kernel_rfl) (fun _ _ _ h => h) (by rfl) ?_ ?_
  rotate_left
  · ((intro u); go_simp; try with_reducible rfl)
  try simp only [Act.put, List.setIfInBounds_toArray, List.set_cons_zero, List.set_cons_succ]
  refine wb_pure (i := 2) (d := some 8) (v := ?_) (by simp only [List.getElem?_toArray, List.getElem?_cons_succ, List.getElem?_cons_zero] <;> rfl) (by rfl) (by kernel_rfl) (by kernel_rfl) (by kernel_rfl) (fun _ _ _ h => h) (by rfl) ?_ ?_
  rotate_left
  · ((intro u); go_simp; try with_reducible rfl)
  try simp only [Act.put, List.setIfInBounds_toArray, List.set_cons_zero, List.set_cons_succ]
  refine wb_pure (i := 3) (d := some 9) (v := ?_) (by simp only [List.getElem?_toArray, List.getElem?_cons_succ, List.getElem?_cons_zero] <;> rfl) (by rfl) (by kernel_rfl) (by kernel_rfl) (by kernel_rfl) (fun _ _ _ h => h) (by rfl) ?_ ?_
  rotate_left
  · ((intro u); go_simp; try with_reducible rfl)
  try simp only [Act.put, List.setIfInBounds_toArray, List.set_cons_zero, List.set_cons_succ]
  refine wb_take (i := 4) (d := some 10) (v := ?_) (by simp only [List.getElem?_toArray, List.getElem?_cons_succ, List.getElem?_cons_zero] <;> rfl) (by rfl) (by kernel_rfl) (by kernel_rfl) (by kernel_rfl) (fun _ _ _ h => h) (by rfl) (by kernel_rfl) ?_ ?_
  rotate_left
  · ((intro u hu); have k0 := (hP.kb hu (by simp)).cell (i := 0) (v := .bool fs) rfl; have k16 := (hP.kb hu (by simp)).cell (i := 16) (v := .bool reply) rfl; go_simp; try with_reducible rfl)
  try simp only [Act.put, List.setIfInBounds_toArray, List.set_cons_zero, List.set_cons_succ]
  refine wb_pure (i := 5) (d := some 11) (v := ?_) (by simp only [List.getElem?_toArray, List.getElem?_cons_succ, List.getElem?_cons_zero] <;> rfl) (by rfl) (by kernel_rfl) (by kernel_rfl) (by kernel_rfl) (fun _ _ _ h => h) (by rfl) ?_ ?_
  rotate_left
  · ((intro u); go_simp; try with_reducible rfl)
  try simp only [Act.put, List.setIfInBounds_toArray, List.set_cons_zero, List.set_cons_succ]
  refine wb_pure (i := 6) (d := some 12) (v := ?_) (by simp only [List.getElem?_toArray, List.getElem?_cons_succ, List.getElem?_cons_zero] <;> rfl) (by rfl) (by kernel_rfl) (by kernel_rfl) (by kernel_rfl) (fun _ _ _ h => h) (by rfl) ?_ ?_
  rotate_left
  · ((intro u); go_simp; try with_reducible rfl)
  try simp only [Act.put, List.setIfInBounds_toArray, List.set_cons_zero, List.set_cons_succ]
  refine wb_pure (i := 7) (d := some 13) (v := ?_) (by simp only [List.getElem?_toArray, List.getElem?_cons_succ, List.getElem?_cons_zero] <;> rfl) (by rfl) (by kernel_rfl) (by kernel_rfl) (by kernel_rfl) (fun _ _ _ h => h) (by rfl) ?_ ?_
  rotate_left
  · ((intro u); go_simp; try with_reducible rfl)
  try simp only [Act.put, List.setIfInBounds_toArray, List.set_cons_zero, List.set_cons_succ]
  refine wb_take (i := 8) (d := some 14) (v := ?_) (by simp only [List.getElem?_toArray, List.getElem?_cons_succ, List.getElem?_cons_zero] <;> rfl) (by rfl) (by kernel_rfl) (by kernel_rfl) (by kernel_rfl) (fun _ _ _ h => h) (by rfl) (by kernel_rfl) ?_ ?_
  rotate_left
  · ((intro u hu); have k0 := (hP.kb hu (by simp)).cell (i := 0) (v := .bool fs) rfl; have k16 := (hP.kb hu (by simp)).cell (i := 16) (v := .bool reply) rfl; go_simp; try with_reducible rfl)
  try simp only [Act.put, List.setIfInBounds_toArray, List.set_cons_zero, List.set_cons_succ]
  refine wb_one (i := 9) (by simp only [List.getElem?_toArray, List.getElem?_cons_succ, List.getElem?_cons_zero] <;> rfl) (by kernel_rfl) (by rfl) (fun K hK => ?_)
  go_simp
  refine (HK.out _).mono ?_
  rintro e u9 ⟨rfl, rfl⟩
  refine hK.out _ _ (Kb.refl _ _) ?_
  clear hK K
  try simp only [Act.put, List.setIfInBounds_toArray, List.set_cons_zero, List.set_cons_succ]
  refine wb_one (i := 10) (by simp only [List.getElem?_toArray, List.getElem?_cons_succ, List.getElem?_cons_zero] <;> rfl) (by kernel_rfl) (by rfl) (fun K hK => ?_)
  go_simp
  refine hK.out _ _ (Kb.gb (World.grownBy_alloc _ _ none) (by intro p hp; rw [List.mem_singleton.1 hp]; exact ⟨hP.lt, by simp⟩)) ?_
  refine wb_new (cs := bV [kd, 0, 0, 0]) (t := 5) (fun u10 hv10 hL10 hz10 => ?_)
  have o10 := Lib.hid (own_blk (B := w.heap.size) (n := 4) hL10 hw.size rfl (by omega))
  replace hP := hP.below hv10
  replace hw := hw.trans (hv10.mono hw.size)
  clear hK K hz10 hL10 hv10
  try simp only [Act.put, List.setIfInBounds_toArray, List.set_cons_zero, List.set_cons_succ]
  refine wb_pure (i := 11) (d := some 5) (v := ?_) (by simp only [List.getElem?_toArray, List.getElem?_cons_succ, List.getElem?_cons_zero] <;> rfl) (by rfl) (by kernel_rfl) (by kernel_rfl) (by kernel_rfl) (fun _ _ _ h => h) (by rfl) ?_ ?_
  rotate_left
  · ((intro u); go_simp; try with_reducible rfl)
  try simp only [Act.put, List.setIfInBounds_toArray, List.set_cons_zero, List.set_cons_succ]
  refine wb_done (by kernel_rfl) ?_ _
  skip
  go_wp2_with fail
  refine wb_begin ([pb]) [] (by kernel_rfl) (fun u0 hb0' hz0' => ?_)
  replace o10 := Lib.hid (o10.out.below hb0')
  replace hP := hP.below hb0'
  replace hw := hw.trans (hb0'.mono hw.size)
  clear hb0' hz0'
  refine wb_pure (i := 0) (d := some 17) (v := ?_) (by simp only [List.getElem?_toArray, List.getElem?_cons_succ, List.getElem?_cons_zero] <;> rfl) (by rfl) (by kernel_rfl) (by kernel_rfl) (by kernel_rfl) (fun _ _ _ h => h) (by rfl) ?_ ?_
  rotate_left
  · ((intro u); go_simp; try with_reducible rfl)
  try simp only [Act.put, List.setIfInBounds_toArray, List.set_cons_zero, List.set_cons_succ]
  refine wb_pure (i := 1) (d := some 18) (v := ?_) (by simp only [List.getElem?_toArray, List.getElem?_cons_succ, List.getElem?_cons_zero] <;> rfl) (by rfl) (by kernel_rfl) (by kernel_rfl) (by kernel_rfl) (fun _ _ _ h => h) (by rfl) ?_ ?_
  rotate_left
  · ((intro u); go_simp; try with_reducible rfl)
  try simp only [Act.put, List.setIfInBounds_toArray, List.set_cons_zero, List.set_cons_succ]
  refine wb_pure (i := 2) (d := some 19) (v := ?_) (by simp only [List.getElem?_toArray, List.getElem?_cons_succ, List.getElem?_cons_zero] <;> rfl) (by rfl) (by kernel_rfl) (by kernel_rfl) (by kernel_rfl) (fun _ _ _ h => h) (by rfl) ?_ ?_
  rotate_left
  · ((intro u); go_simp; try with_reducible rfl)
  try simp only [Act.put, List.setIfInBounds_toArray, List.set_cons_zero, List.set_cons_succ]
  refine wb_pure (i := 3) (d := some 20) (v := ?_) (by simp only [List.getElem?_toArray, List.getElem?_cons_succ, List.getElem?_cons_zero] <;> rfl) (by rfl) (by kernel_rfl) (by kernel_rfl) (by kernel_rfl) (fun _ _ _ h => h) (by rfl) ?_ ?_
  rotate_left
  · ((intro u); go_simp; try with_reducible rfl)
  try simp only [Act.put, List.setIfInBounds_toArray, List.set_cons_zero, List.set_cons_succ]
  refine wb_take (i := 4) (d := some 21) (v := ?_) (by simp only [List.getElem?_toArray, List.getElem?_cons_succ, List.getElem?_cons_zero] <;> rfl) (by rfl) (by kernel_rfl) (by kernel_rfl) (by kernel_rfl) (fun _ _ _ h => h) (by rfl) (by kernel_rfl) ?_ ?_
  rotate_left
  · ((intro u hu); have k14 := (hP.kb hu (by simp)).cell (i := 14) (v := .int .i64 seq) rfl; have k17 := (hP.kb hu (by simp)).cell (i := 17) (v := .int .i64 id) rfl; go_simp; try with_reducible rfl)
  try simp only [Act.put, List.setIfInBounds_toArray, List.set_cons_zero, List.set_cons_succ]
  refine wb_pure (i := 5) (d := some 22) (v := ?_) (by simp only [List.getElem?_toArray, List.getElem?_cons_succ, List.getElem?_cons_zero] <;> rfl) (by rfl) (by kernel_rfl) (by kernel_rfl) (by kernel_rfl) (fun _ _ _ h => h) (by rfl) ?_ ?_
  rotate_left
  · ((intro u); go_simp; try with_reducible rfl)
  try simp only [Act.put, List.setIfInBounds_toArray, List.set_cons_zero, List.set_cons_succ]
  refine wb_pure (i := 7) (d := some 24) (v := ?_) (by simp only [List.getElem?_toArray, List.getElem?_cons_succ, List.getElem?_cons_zero] <;> rfl) (by rfl) (by kernel_rfl) (by kernel_rfl) (by kernel_rfl) (fun _ _ _ h => h) (by rfl) ?_ ?_
  rotate_left
  · ((intro u); go_simp; try with_reducible rfl)
  try simp only [Act.put, List.setIfInBounds_toArray, List.set_cons_zero, List.set_cons_succ]
  refine wb_pure (i := 8) (d := some 25) (v := ?_) (by simp only [List.getElem?_toArray, List.getElem?_cons_succ, List.getElem?_cons_zero] <;> rfl) (by rfl) (by kernel_rfl) (by kernel_rfl) (by kernel_rfl) (fun _ _ _ h => h) (by rfl) ?_ ?_
  rotate_left
  · ((intro u); go_simp; try with_reducible rfl)
  try simp only [Act.put, List.setIfInBounds_toArray, List.set_cons_zero, List.set_cons_succ]
  refine wb_pure (i := 9) (d := some 26) (v := ?_) (by simp only [List.getElem?_toArray, List.getElem?_cons_succ, List.getElem?_cons_zero] <;> rfl) (by rfl) (by kernel_rfl) (by kernel_rfl) (by kernel_rfl) (fun _ _ _ h => h) (by rfl) ?_ ?_
  rotate_left
  · ((intro u); go_simp; try with_reducible rfl)
  try simp only [Act.put, List.setIfInBounds_toArray, List.set_cons_zero, List.set_cons_succ]
  refine wb_take (i := 10) (d := some 27) (v := ?_) (by simp only [List.getElem?_toArray, List.getElem?_cons_succ, List.getElem?_cons_zero] <;> rfl) (by rfl) (by kernel_rfl) (by kernel_rfl) (by kernel_rfl) (fun _ _ _ h => h) (by rfl) (by kernel_rfl) ?_ ?_
  rotate_left
  · ((intro u hu); have k14 := (hP.kb hu (by simp)).cell (i := 14) (v := .int .i64 seq) rfl; have k17 := (hP.kb hu (by simp)).cell (i := 17) (v := .int .i64 id) rfl; go_simp; try with_reducible rfl)
  try simp only [Act.put, List.setIfInBounds_toArray, List.set_cons_zero, List.set_cons_succ]
  refine wb_pure (i := 11) (d := some 28) (v := ?_) (by simp only [List.getElem?_toArray, List.getElem?_cons_succ, List.getElem?_cons_zero] <;> rfl) (by rfl) (by kernel_rfl) (by kernel_rfl) (by kernel_rfl) (fun _ _ _ h => h) (by rfl) ?_ ?_
  rotate_left
  · ((intro u); go_simp; try with_reducible rfl)
  try simp only [Act.put, List.setIfInBounds_toArray, List.set_cons_zero, List.set_cons_succ]
  refine wb_one (i := 6) (by simp only [List.getElem?_toArray, List.getElem?_cons_succ, List.getElem?_cons_zero] <;> rfl) (by kernel_rfl) (by rfl) (fun K hK => ?_)
  go_simp
  refine (number_own w.heap.size 2 _ _ id _ o10.out hw.size (by simp [be_len]) (by omega) hi0 (by omega)).mono ?_
  rintro e u6 ⟨v6, rfl, o6, hv6, hf6⟩
  refine hK.out _ _ (Kb.below hv6 (by intro p hp; rw [List.mem_singleton.1 hp]; exact hpb)) ?_
  replace hP := hP.upB hpb hv6
  replace hw := hw.trans hv6
  clear hK K hv6 hf6
  try simp only [Act.put, List.setIfInBounds_toArray, List.set_cons_zero, List.set_cons_succ]
  refine wb_one (i := 12) (by simp only [List.getElem?_toArray, List.getElem?_cons_succ, List.getElem?_cons_zero] <;> rfl) (by kernel_rfl) (by rfl) (fun K hK => ?_)
  go_simp
  refine (number_own w.heap.size 2 _ _ seq _ o6 hw.size (by simp [be_len]) (by omega) hs0 (by omega)).mono ?_
  rintro e u12 ⟨v12, rfl, o12, hv12, hf12⟩
  refine hK.out _ _ (Kb.below hv12 (by intro p hp; rw [List.mem_singleton.1 hp]; exact hpb)) ?_
  replace hP := hP.upB hpb hv12
  replace hw := hw.trans hv12
  clear hK K hv12 hf12
  try simp only [Act.put, List.setIfInBounds_toArray, List.set_cons_zero, List.set_cons_succ]
  refine wb_pure (i := 13) (d := some 4) (v := ?_) (by simp only [List.getElem?_toArray, List.getElem?_cons_succ, List.getElem?_cons_zero] <;> rfl) (by rfl) (by kernel_rfl) (by kernel_rfl) (by kernel_rfl) (fun _ _ _ h => h) (by rfl) ?_ ?_
  rotate_left
  · ((intro u); go_simp; try with_reducible rfl)
  try simp only [Act.put, List.setIfInBounds_toArray, List.set_cons_zero, List.set_cons_succ]
  refine wb_done (by kernel_rfl) ?_ _
  go_wp2_with fail
  go_ret
  exact ⟨_, rfl, o12, hw⟩
end Go.Proofs.YtijlahgmnpnmfaaGreatDoor
