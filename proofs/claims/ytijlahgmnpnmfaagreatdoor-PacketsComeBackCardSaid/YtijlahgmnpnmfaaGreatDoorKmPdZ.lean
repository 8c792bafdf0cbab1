/- Packets that are read: what they are, as the program and as the reference have it (pure). -/
import Derived.Test.YtijlahgmnpnmfaaGreatDoorKmPdC
import Derived.Test.YtijlahgmnpnmfaaGreatDoorKmPcI
namespace Go.Proofs.YtijlahgmnpnmfaaGreatDoor
open Go.RowKit
set_option linter.unusedVariables false
set_option linter.unusedSimpArgs false

theorem inB_iff {x lo hi : Int} (h : ¬ inB x lo hi = false) : lo ≤ x ∧ x ≤ hi := by unfold inB at h; simpa using h
theorem pkF_zero {q : Pk} {n : Nat} (h : pkF q n = 0) (hf : Wd q.fh q.fl) (ht : Wd q.th q.tl) : PkOk q ∧ n ≤ 1400 := by
  unfold pkF at h
  split at h
  · rename_i h0; exact absurd h h0
  split at h
  · rename_i h0; exact absurd h h0
  split at h
  · cases h
  split at h
  · cases h
  split at h
  · cases h
  split at h
  · cases h
  split at h
  · cases h
  split at h
  · cases h
  rename_i a1 a2 a3 a4 a5 a6 a7 a8
  have hh := inB_iff a4
  have hp : q.proto = 1 ∨ q.proto = 6 ∨ q.proto = 17 := Classical.not_not.1 a5
  have hn : numB q = true := by simpa using a6
  unfold numB at hn
  simp only [Bool.and_eq_true] at hn
  obtain ⟨n1, n2, n3, n4, n5⟩ := hn
  have k1 := inB_iff (by rw [n1]; simp : ¬ inB q.fp 0 65535 = false)
  have k2 := inB_iff (by rw [n2]; simp : ¬ inB q.tp 0 65535 = false)
  have k3 := inB_iff (by rw [n3]; simp : ¬ inB q.seq 0 (if q.proto = 1 then 65535 else 4294967295) = false)
  have k4 := inB_iff (by rw [n4]; simp : ¬ inB q.ack 0 4294967295 = false)
  have k5 := inB_iff (by rw [n5]; simp : ¬ inB q.id 0 65535 = false)
  refine ⟨⟨hf, ht, hh.1, hh.2, hp, k1.1, k1.2, k2.1, k2.2, k3.1, ?_, ?_, k4.1, k4.2, k5.1, k5.2, Classical.not_not.1 a3⟩, by omega⟩
  · have := k3.2; split at this <;> omega
  · intro e; have := k3.2; rw [if_pos e] at this; exact this

theorem atP_fits (q : Pk) (n : Nat) : atP q + 2 ≤ (headP q n).length ∧ (headP q n).length ≤ 20 := by
  unfold atP headP; split
  · simp [be_len]
  · split <;> simp [be_len]
theorem partL_len (q : Pk) (pl : List Nat) : (partL q pl).length = (headP q pl.length).length + pl.length := by
  unfold partL
  have h := atP_fits q pl.length
  rw [splice_len (by rw [be_len, List.length_append]; omega), List.length_append]
/-- The bytes of a packet. -/
def bytesL (q : Pk) (pl : List Nat) : List Nat := headL q ((partL q pl).length : Int) ++ partL q pl

theorem headL_len (q : Pk) (n : Nat) : (headL q n).length ≤ 100 := by
  unfold headL
  have h1 := adB_len q.fs q.fh q.fl
  have h2 := adB_len q.ts q.th q.tl
  split
  · simp [be_len]; omega
  · rw [splice_len (by simp [be_len]; omega)]
    simp [be_len]; omega
/-- append of a slice to one's own row. -/
theorem append_slB' {w : World} {ops : Array Oper} {rest : List Oper} {o : Oper} {a : Act} {Q : Exit → Act → World → Prop} (hgd : o.guard = none) (s x : Operand)
    (ho : o.op = .call { callee := .builtin .append, args := #[s, x], argTypes := #[29, 29] })
    (B : Nat) (v : Value) (xs : List Nat) (hs : a.eval s = v) (hown : Own B w v xs)
    (A : Option Addr) (m c : Nat) (gs : List Nat) (hx : a.eval x = .slice A m c) (hS : SlB w A m c gs) (hA : A = none → c = 0) (hb : xs.length + m ≤ 1000000) (hbase : B ≤ w.heap.size)
    (h : ∀ v' w', Own B w' v' (xs ++ gs) → Below B w w' → wpList Tryz.prog ops Q rest (a.put o.dst v') w') : wpList Tryz.prog ops Q (o :: rest) a w :=
  wpList_plain hgd fun K hK => wp_append_slB s x ho B v xs hs hown A m c gs hx hS hA hb hbase (fun v' w' h1 h2 => hK _ _ (h v' w' h1 (own_next h2 hown hbase)))

set_option maxHeartbeats 1000000 in
set_option maxRecDepth 100000 in
theorem write_ok (q : Pk) (A : Option Addr) (n cap : Nat) (pl : List Nat) (w : World) (h : pkF q n = 0) (hf : Wd q.fh q.fl) (ht : Wd q.th q.tl) (hS : SlB w A n cap pl) (hA : A = none → cap = 0) (hb : Byt pl) :
    Calls Tryz.prog 5 #[pkV q (.slice A n cap)] w fun e w' => ∃ v, e = .returned (.tuple #[v, .int .i64 0]) ∧ Own w.heap.size w' v (bytesL q pl) ∧ Below w.heap.size w w' := by
  obtain ⟨hq, hn⟩ := pkF_zero h hf ht
  have hP := Blk.new w (pkL q (.slice A n cap)) 31
  have hw : Below w.heap.size w (w.alloc (.cells #[.bool q.fs, .int .u64 q.fh, .int .u64 q.fl, .bool q.ts, .int .u64 q.th, .int .u64 q.tl, .int .i64 q.hops, .int .i64 q.proto, .int .i64 q.fp, .int .i64 q.tp, .bool q.syn, .bool q.fin, .bool q.rst, .bool q.has, .int .i64 q.seq, .int .i64 q.ack, .bool q.reply, .int .i64 q.id, .slice A n cap] 31)) := (Below.refl _ _).alloc (Nat.le_refl _) _
  have L := ldPk_run hP
  have HC := Lib.hid (checkPacket_any q A n cap)
  rw [h] at HC
  have hl := hS.len
  have hpl := Lib.hid (show (partL q pl).length = (headP q pl.length).length + pl.length ∧ (headP q pl.length).length ≤ 20 from ⟨partL_len q pl, (atP_fits q pl.length).2⟩)
  have HB := Lib.hid (show bytesL q pl = headL q ((partL q pl).length : Int) ++ partL q pl from rfl)
  have HPA := Lib.hid (fun w' h1 h2 => partOf_any q w.heap.size A n cap pl w' h1 hq h2 hA hn hb)
  generalize bytesL q pl = bl at HB ⊢
  generalize partL q pl = pt at HPA HB hpl
  replace hq := Lib.hid hq
  replace hS := Lib.hid hS
  replace hl := Lib.hid hl
  clear h hf ht hb hA
  go_enter Tryz.func5, Tryz.ntmps5
  go_wp2_with fail
  refine (HC.out _).mono ?_
  rintro e u1 ⟨rfl, hv1⟩
  replace hP := hP.below hv1
  replace hw := hw.trans (hv1.mono hw.size)
  clear hv1 HC L
  go_wp2_with fail
  refine (HPA.out _ hP (hS.out.below hw)).mono ?_
  rintro e u2 ⟨v2, rfl, o2, hv2⟩
  replace hP := hP.below hv2
  have hwz := hw.size
  replace hw := hw.trans (hv2.mono hw.size)
  obtain ⟨A2, c2, rfl, hS2, hA2⟩ := o2.sl
  obtain ⟨m, hm⟩ : ∃ m, m = pt.length := ⟨_, rfl⟩
  rw [← hm] at hS2 hpl HB ⊢
  have hm1 : m ≤ 1420 := by have := hpl.out; have := hl.out; omega
  have HH := Lib.hid (headOf_any q _ w.heap.size (m : Int) u2 hP hq.out (by omega) (by omega))
  replace hS2 := Lib.hid hS2
  replace hA2 := Lib.hid hA2
  replace hm := Lib.hid hm
  replace hm1 := Lib.hid hm1
  clear hv2 o2 HPA
  go_wp2_with fail
  refine HH.out.mono ?_
  rintro e u3 ⟨v3, rfl, o3, hv3⟩
  have hz2 := hw.size
  replace hw := hw.trans (hv3.mono hw.size)
  have hS3 := Lib.hid (hS2.out.below hv3)
  replace o3 := o3.mono (B := w.heap.size) hz2
  have hhl : (headL q (m : Int)).length ≤ 100 := headL_len q m
  generalize headL q (m : Int) = hd at o3 HB hhl
  replace hhl := Lib.hid hhl
  clear hv3 HH hS2
  go_wp2_with (at_builtin; refine append_slB' rfl _ _ rfl w.heap.size _ _ rfl o3 A2 m c2 pt rfl hS3.out hA2.out (by have := hhl.out; have := hm1.out; omega) hw.size ?_)
  intro v4 u4 o4 hv4
  replace hw := hw.trans hv4
  clear hv4 o3 hS3
  go_wp2_with fail
  (try simp only [Exit.inBlock, Exit.then]); refine bodyPost_ret (results_tmp2 rfl _ _ _) rfl ?_
  exact ⟨_, rfl, by rw [HB.out]; exact o4, hw⟩

end Go.Proofs.YtijlahgmnpnmfaaGreatDoor
namespace Go.Proofs.YtijlahgmnpnmfaaGreatDoor
open Go.RowKit
set_option linter.unusedVariables false
set_option linter.unusedSimpArgs false

theorem Kb.cellAt {r : List Nat} {x y : World} (h : Kb r x y) {p o : Nat} {v : Value} (hp : p ∈ r) (hc : x.cell? ⟨p, o, none⟩ = some v) : y.cell? ⟨p, o, none⟩ = some v :=
  (World.cell?_of_block (w := x) (h p hp)).trans hc
set_option maxHeartbeats 1000000 in
set_option maxRecDepth 100000 in
theorem equal_same (A B : Option Addr) (n ca cb : Nat) (bs : List Nat) (w : World) (h1 : SlB w A n ca bs) (h2 : SlB w B n cb bs) (hn : n ≤ 100000) :
    Calls Tryz.prog 10 #[.slice A n ca, .slice B n cb] w (GivesV (.bool true) w) := by
  have hl := Lib.hid h1.len
  have k1 := Lib.hid h1.2.2
  have k2 := Lib.hid h2.2.2
  clear h1 h2
  go_enter Tryz.func10, Tryz.ntmps10
  go_wp2_with fail
  go_loopw [13] (fun i wr => ∃ k : Nat, k ≤ n ∧ i = .int .i64 k ∧ Below w.heap.size w wr) (fun i _ => n - (intOf i).toNat)
  case atStart => exact ⟨0, Nat.zero_le _, rfl, Below.refl _ _⟩
  case round =>
    obtain ⟨k, hk, rfl, hw⟩ := hrel
    by_cases hlt : k < n
    · obtain ⟨x, hx⟩ : ∃ x, bs[k]? = some x := ⟨bs[k]'(by have := hl.out; omega), List.getElem?_eq_getElem _⟩
      obtain ⟨g1, o1, rfl, hg1, hc1⟩ : ∃ g off, A = some ⟨g, off, none⟩ ∧ g < w.heap.size ∧ ∀ j u, (bV bs)[j]? = some u → w.cell? ⟨g, off + j, none⟩ = some u := by
        rcases k1.out with h | h
        · omega
        · exact h
      obtain ⟨g2, o2, rfl, hg2, hc2⟩ : ∃ g off, B = some ⟨g, off, none⟩ ∧ g < w.heap.size ∧ ∀ j u, (bV bs)[j]? = some u → w.cell? ⟨g, off + j, none⟩ = some u := by
        rcases k2.out with h | h
        · omega
        · exact h
      have c1 := (hw.cell (p := ⟨g1, o1 + k, none⟩) (by exact hg1)).trans (hc1 k _ (bV_get hx))
      have c2 := (hw.cell (p := ⟨g2, o2 + k, none⟩) (by exact hg2)).trans (hc2 k _ (bV_get hx))
      have hg1' : g1 < wr.heap.size := Nat.lt_of_lt_of_le hg1 hw.size
      have hg2' : g2 < wr.heap.size := Nat.lt_of_lt_of_le hg2 hw.size
      clear hc1 hc2 hx
      obtain ⟨y, hy⟩ : ∃ y : Int, y = (x : Int) := ⟨_, rfl⟩
      rw [← hy] at c1 c2
      clear hy
      go_wp2_with fail
      refine wb_begin ([g1, g2]) [] (by kernel_rfl) (fun u0 hb0' hz0' => ?_)
      replace c1 := (hb0'.cell (by exact hg1')).trans c1
      replace c2 := (hb0'.cell (by exact hg2')).trans c2
      replace hw := hw.trans (hb0'.mono hw.size)
      clear hb0' hz0'
      refine wb_pure (i := 0) (d := some 16) (v := ?_) (by simp only [List.getElem?_toArray, List.getElem?_cons_succ, List.getElem?_cons_zero] <;> rfl) (by rfl) (by kernel_rfl) (by kernel_rfl) (by kernel_rfl) (fun _ _ _ h => h) (by rfl) ?_ ?_
      rotate_left
      · ((intro u); go_simp; try with_reducible rfl)
      try simp only [Act.put, List.setIfInBounds_toArray, List.set_cons_zero, List.set_cons_succ]
      refine wb_pure (i := 1) (d := some 17) (v := ?_) (by simp only [List.getElem?_toArray, List.getElem?_cons_succ, List.getElem?_cons_zero] <;> rfl) (by rfl) (by kernel_rfl) (by kernel_rfl) (by kernel_rfl) (fun _ _ _ h => h) (by rfl) ?_ ?_
      rotate_left
      · ((intro u); go_simp; try with_reducible rfl)
      try simp only [Act.put, List.setIfInBounds_toArray, List.set_cons_zero, List.set_cons_succ]
      refine wb_pure (i := 2) (d := some 18) (v := ?_) (by simp only [List.getElem?_toArray, List.getElem?_cons_succ, List.getElem?_cons_zero] <;> rfl) (by rfl) (by kernel_rfl) (by kernel_rfl) (by kernel_rfl) (fun _ _ _ h => h) (by rfl) ?_ ?_
      rotate_left
      · ((intro u); go_simp; try with_reducible rfl)
      try simp only [Act.put, List.setIfInBounds_toArray, List.set_cons_zero, List.set_cons_succ]
      refine wb_take (i := 3) (d := some 19) (v := ?_) (by simp only [List.getElem?_toArray, List.getElem?_cons_succ, List.getElem?_cons_zero] <;> rfl) (by rfl) (by kernel_rfl) (by kernel_rfl) (by kernel_rfl) (fun _ _ _ h => h) (by rfl) (by kernel_rfl) ?_ ?_
      rotate_left
      · ((intro u hu); have k1 := hu.cellAt (p := g1) (by simp) c1; have k2 := hu.cellAt (p := g2) (by simp) c2; go_simp; try with_reducible rfl)
      try simp only [Act.put, List.setIfInBounds_toArray, List.set_cons_zero, List.set_cons_succ]
      refine wb_pure (i := 4) (d := some 20) (v := ?_) (by simp only [List.getElem?_toArray, List.getElem?_cons_succ, List.getElem?_cons_zero] <;> rfl) (by rfl) (by kernel_rfl) (by kernel_rfl) (by kernel_rfl) (fun _ _ _ h => h) (by rfl) ?_ ?_
      rotate_left
      · ((intro u); go_simp; try with_reducible rfl)
      try simp only [Act.put, List.setIfInBounds_toArray, List.set_cons_zero, List.set_cons_succ]
      refine wb_pure (i := 5) (d := some 21) (v := ?_) (by simp only [List.getElem?_toArray, List.getElem?_cons_succ, List.getElem?_cons_zero] <;> rfl) (by rfl) (by kernel_rfl) (by kernel_rfl) (by kernel_rfl) (fun _ _ _ h => h) (by rfl) ?_ ?_
      rotate_left
      · ((intro u); go_simp; try with_reducible rfl)
      try simp only [Act.put, List.setIfInBounds_toArray, List.set_cons_zero, List.set_cons_succ]
      refine wb_pure (i := 6) (d := some 22) (v := ?_) (by simp only [List.getElem?_toArray, List.getElem?_cons_succ, List.getElem?_cons_zero] <;> rfl) (by rfl) (by kernel_rfl) (by kernel_rfl) (by kernel_rfl) (fun _ _ _ h => h) (by rfl) ?_ ?_
      rotate_left
      · ((intro u); go_simp; try with_reducible rfl)
      try simp only [Act.put, List.setIfInBounds_toArray, List.set_cons_zero, List.set_cons_succ]
      refine wb_take (i := 7) (d := some 23) (v := ?_) (by simp only [List.getElem?_toArray, List.getElem?_cons_succ, List.getElem?_cons_zero] <;> rfl) (by rfl) (by kernel_rfl) (by kernel_rfl) (by kernel_rfl) (fun _ _ _ h => h) (by rfl) (by kernel_rfl) ?_ ?_
      rotate_left
      · ((intro u hu); have k1 := hu.cellAt (p := g1) (by simp) c1; have k2 := hu.cellAt (p := g2) (by simp) c2; go_simp; try with_reducible rfl)
      try simp only [Act.put, List.setIfInBounds_toArray, List.set_cons_zero, List.set_cons_succ]
      refine wb_pure (i := 8) (d := some 24) (v := ?_) (by simp only [List.getElem?_toArray, List.getElem?_cons_succ, List.getElem?_cons_zero] <;> rfl) (by rfl) (by kernel_rfl) (by kernel_rfl) (by kernel_rfl) (fun _ _ _ h => h) (by rfl) ?_ ?_
      rotate_left
      · ((intro u); go_simp; try with_reducible rfl)
      try simp only [Act.put, List.setIfInBounds_toArray, List.set_cons_zero, List.set_cons_succ]
      refine wb_done (by kernel_rfl) ?_ _
      skip
      go_wp2_with fail
      go_roundw
      case rel => exact ⟨k + 1, by omega, by go_num, hw⟩
      case measure => simp [intOf]; omega
    · have hkn : k = n := by omega
      replace hkn := Lib.hid hkn
      go_wp2_with fail
      go_ret
      exact ⟨rfl, hw⟩
end Go.Proofs.YtijlahgmnpnmfaaGreatDoor
namespace Go.Proofs.YtijlahgmnpnmfaaGreatDoor
open Go.RowKit
/-- The same, as the reference has it. -/
def partER (q0 : Pk) (bd bs : List Nat) : Int :=
  if bd.length < szP q0 then 3
  else if q0.proto = 6 ∧ (rdBodyR q0 bd).has = false ∧ (rdBodyR q0 bd).ack ≠ 0 then 3
  else if headP (rdBodyR q0 bd) (bd.drop (szP q0)).length ++ bd.drop (szP q0) ≠ splice bd (atP q0) [0, 0] then 3
  else if bytesL (rdBodyR q0 bd) (bd.drop (szP q0)) ≠ bs then 15 else 0
def rdE (bs : List Nat) : Int := if headE bs ≠ 0 then headE bs else partE (headQ bs) (bs.drop (headN bs))
def rdER (bs : List Nat) : Int := if headE bs ≠ 0 then headE bs else partER (headQ bs) (bs.drop (headN bs)) bs
/-- A packet of which nothing is told. -/
structure Base (q : Pk) : Prop where
  fp : q.fp = 0
  tp : q.tp = 0
  syn : q.syn = false
  fin : q.fin = false
  rst : q.rst = false
  has : q.has = false
  seq : q.seq = 0
  ack : q.ack = 0
  reply : q.reply = false
  id : q.id = 0
theorem base_head (bs : List Nat) : Base (headQ bs) := by unfold headQ; split <;> exact ⟨rfl, rfl, rfl, rfl, rfl, rfl, rfl, rfl, rfl, rfl⟩

theorem headP_len (q : Pk) (n : Nat) : (headP q n).length = szP q := by
  unfold headP szP
  split
  · simp [be_len]
  · split <;> simp [be_len]
theorem at_fits (q : Pk) : atP q + 2 ≤ szP q := by unfold atP szP; split <;> (try split) <;> omega
/-- The fields fit, but for an Ack without Has. -/
theorem fldB_rd {q : Pk} (bd : List Nat) (hb : Base q) (hp : q.proto = 1 ∨ q.proto = 6 ∨ q.proto = 17) : (fldB (rdBody q bd) = false) ↔ (q.proto = 6 ∧ (rdBodyR q bd).has = false ∧ (rdBodyR q bd).ack ≠ 0) := by
  obtain ⟨h1, h2, h3, h4, h5, h6, h7, h8, h9, h10⟩ := hb
  unfold fldB rdBody rdBodyR hpB htB hiB
  rcases hp with h | h | h
  · simp [h, rdIcmp, h1, h2, h3, h4, h5, h6, h8]
  · simp [h, rdTcp, h9, h10]
    omega
  · simp [h, rdUdp, h3, h4, h5, h6, h7, h8, h9, h10]
theorem kind_same {q : Pk} {bd : List Nat} (n : Nat) (hsz : szP q ≤ bd.length) (h : headP (rdBodyR q bd) n = splice (bd.take (szP q)) (atP q) [0, 0] ∨ headP (rdBody q bd) n = splice (bd.take (szP q)) (atP q) [0, 0]) : rdBodyR q bd = rdBody q bd := by
  unfold rdBody rdBodyR at *
  by_cases h6 : q.proto = 6
  · rw [if_pos h6, if_pos h6]
  · by_cases h17 : q.proto = 17
    · rw [if_neg h6, if_neg h6, if_pos h17, if_pos h17]
    · rw [if_neg h6, if_neg h6, if_neg h17, if_neg h17] at *
      have e8 : szP q = 8 := by unfold szP; rw [if_neg h6]
      have e2 : atP q = 2 := by unfold atP; rw [if_neg h6, if_neg h17]
      rw [e8] at h hsz
      rw [e2] at h
      match bd, hsz with
      | b0 :: r, hsz =>
        have e : (splice (List.take 8 (b0 :: r)) 2 [0, 0]).head? = some b0 := by
          cases r with
          | nil => simp at hsz
          | cons b1 r => simp [splice]
        have k : ∀ rp, (headP (rdIcmp q (b0 :: r) rp) n).head? = some (kindN q.fs rp) := by
          intro rp; unfold headP; rw [if_neg (by simpa [rdIcmp] using h6), if_neg (by simpa [rdIcmp] using h17)]; simp [rdIcmp]
        congr 1
        simp only [List.getD_cons_zero] at *
        rcases h with h | h
        · have := congrArg List.head? h
          rw [e, k] at this
          injection this with this
          unfold kindN at *
          revert this
          cases q.fs <;> by_cases h0 : b0 = 0 <;> by_cases h9 : b0 = 129 <;> simp_all
        · have := congrArg List.head? h
          rw [e, k] at this
          injection this with this
          unfold kindN at *
          revert this
          cases q.fs <;> by_cases h0 : b0 = 0 <;> by_cases h9 : b0 = 129 <;> simp_all <;> omega
theorem rd_proto (q : Pk) (bd : List Nat) : (rdBody q bd).proto = q.proto := by unfold rdBody; split <;> (try split) <;> rfl
theorem rdR_proto (q : Pk) (bd : List Nat) : (rdBodyR q bd).proto = q.proto := by unfold rdBodyR; split <;> (try split) <;> rfl
theorem rd_at (q : Pk) (bd : List Nat) : atP (rdBody q bd) = atP q := by unfold atP; rw [rd_proto]
theorem rd_sz (q : Pk) (bd : List Nat) : szP (rdBody q bd) = szP q := by unfold szP; rw [rd_proto]
theorem rdR_sz (q : Pk) (bd : List Nat) : szP (rdBodyR q bd) = szP q := by unfold szP; rw [rdR_proto]
theorem headL_rd (q : Pk) (bd : List Nat) (n : Int) : headL (rdBody q bd) n = headL q n := by
  unfold rdBody; split <;> (try split) <;> rfl

/-- The heart: written again, the bytes differ in the sum alone. -/
theorem part_same {q : Pk} {bd hd : List Nat} (hb : Base q) (hB : Byt bd) (hp : q.proto = 1 ∨ q.proto = 6 ∨ q.proto = 17) (hh : headL q (bd.length : Int) = hd) : partER q bd (hd ++ bd) = partE q bd ∧ (partE q bd = 0 → rdBodyR q bd = rdBody q bd) := by
  unfold partER partE
  by_cases hl : bd.length < szP q
  · rw [if_pos hl, if_pos hl]; exact ⟨rfl, fun h => by cases h⟩
  rw [if_neg hl, if_neg hl]
  have hsz : szP q ≤ bd.length := by omega
  have hat := at_fits q
  have hn : (bd.drop (szP q)).length = bd.length - szP q := List.length_drop ..
  rw [hn]
  have hsp : splice bd (atP q) [0, 0] = splice (bd.take (szP q)) (atP q) [0, 0] ++ bd.drop (szP q) := by
    conv => lhs; rw [← List.take_append_drop (szP q) bd]
    rw [splice_app _ _ _ _ (by rw [List.length_take]; simp; omega)]
  have hiff : ∀ x : Pk, szP x = szP q → ((headP x (bd.length - szP q) ++ bd.drop (szP q) = splice bd (atP q) [0, 0]) ↔ (headP x (bd.length - szP q) = splice (bd.take (szP q)) (atP q) [0, 0])) := fun x hx => by
    rw [hsp]
    exact ⟨fun h => List.append_inj_left h (by rw [headP_len, hx, splice_len' _ _ _ (by rw [List.length_take]; simp; omega), List.length_take]; omega), fun h => by rw [h]⟩
  have hfl := fldB_rd bd hb hp
  by_cases hf : fldB (rdBody q bd) = false
  · rw [if_pos (hfl.1 hf), if_pos (.inr hf)]; exact ⟨rfl, fun h => by cases h⟩
  rw [if_neg (fun h => hf (hfl.2 h))]
  by_cases hw : headP (rdBody q bd) (bd.length - szP q) = splice (bd.take (szP q)) (atP q) [0, 0]
  · have hs := kind_same _ hsz (.inr hw)
    rw [hs]
    have hpl := (hiff _ (rd_sz q bd)).2 hw
    have hP : partL (rdBody q bd) (bd.drop (szP q)) = splice bd (atP q) (be (sumF (rdBody q bd) (splice bd (atP q) [0, 0])).toNat 2) := by
      unfold partL
      rw [hn, hpl, rd_at, splice_twice _ _ _ _ (by simp; omega) (by rw [be_len]; rfl)]
    have hPl : (partL (rdBody q bd) (bd.drop (szP q))).length = bd.length := by rw [hP, splice_len' _ _ _ (by rw [be_len]; omega)]
    have hY : bytesL (rdBody q bd) (bd.drop (szP q)) = hd ++ splice bd (atP q) (be (sumF (rdBody q bd) (splice bd (atP q) [0, 0])).toNat 2) := by
      unfold bytesL; rw [hPl, headL_rd, hh, hP]
    have hin := sumF_in (rdBody q bd) (splice bd (atP q) [0, 0])
    have hbe := be_nb hB (atP q) 2 (by omega)
    have hE : (bytesL (rdBody q bd) (bd.drop (szP q)) = hd ++ bd) ↔ sumF (rdBody q bd) (splice bd (atP q) [0, 0]) = (nb bd (atP q) 2 : Int) := by
      rw [hY]
      constructor
      · intro h
        have h1 := List.append_cancel_left h
        have h2 := splice_self bd (atP q) 2 (by omega)
        have h3 := splice_inj (h1.trans h2.symm) (by rw [List.length_take, List.length_drop, be_len]; omega)
        have h4 : numF (be (sumF (rdBody q bd) (splice bd (atP q) [0, 0])).toNat 2) = nb bd (atP q) 2 := by rw [h3]; rfl
        rw [numF_be] at h4
        omega
      · intro h
        rw [h, Int.toNat_natCast, hbe, splice_self _ _ _ (by omega)]
    have g1 : ¬ (headP (rdBody q bd) (bd.length - szP q) ++ bd.drop (szP q) ≠ splice bd (atP q) [0, 0]) := fun h => h hpl
    have g2 : ¬ (headP (rdBody q bd) (bd.length - szP q) ≠ splice (bd.take (szP q)) (atP q) [0, 0] ∨ fldB (rdBody q bd) = false) := by
      rintro (h | h)
      · exact h hw
      · exact hf h
    rw [if_neg g1, if_neg g2]
    by_cases hz : sumF (rdBody q bd) (splice bd (atP q) [0, 0]) = (nb bd (atP q) 2 : Int)
    · have g3 : ¬ (bytesL (rdBody q bd) (bd.drop (szP q)) ≠ hd ++ bd) := fun h => h (hE.2 hz)
      have g4 : ¬ (sumF (rdBody q bd) (splice bd (atP q) [0, 0]) ≠ (nb bd (atP q) 2 : Int)) := fun h => h hz
      rw [if_neg g3, if_neg g4]; exact ⟨rfl, fun _ => rfl⟩
    · have g3 : bytesL (rdBody q bd) (bd.drop (szP q)) ≠ hd ++ bd := fun h => hz (hE.1 h)
      rw [if_pos g3, if_pos hz]; exact ⟨rfl, fun _ => rfl⟩
  · have g1 : headP (rdBodyR q bd) (bd.length - szP q) ++ bd.drop (szP q) ≠ splice bd (atP q) [0, 0] := fun h => by
      have h' := (hiff _ (rdR_sz q bd)).1 h
      have hs := kind_same _ hsz (.inl h')
      rw [hs] at h'
      exact hw h'
    have g2 : headP (rdBody q bd) (bd.length - szP q) ≠ splice (bd.take (szP q)) (atP q) [0, 0] ∨ fldB (rdBody q bd) = false := .inl hw
    rw [if_pos g1, if_pos g2]
    exact ⟨rfl, fun h => by cases h⟩
theorem protoN_in {s : Bool} {c : Nat} (h : ¬ protoN s c = 0) : (protoN s c = 1 ∨ protoN s c = 6 ∨ protoN s c = 17) ∧ (codeN (protoN s c) s).toNat = c := by
  unfold protoN codeN at *
  cases s <;> simp at * <;> (repeat' split at *) <;> simp_all
theorem ex_cons {α : Type} {l : List α} {n : Nat} (h : n + 1 ≤ l.length) : ∃ x r, l = x :: r ∧ n ≤ r.length := by
  cases l with
  | nil => simp at h
  | cons x r => exact ⟨x, r, rfl, by simpa using h⟩
theorem b4 (a b c d : Nat) (h : Byt [a, b, c, d]) : be (numF [a, b, c, d]) 4 = [a, b, c, d] := be_numF _ h
theorem b2 (a b : Nat) (h : Byt [a, b]) : be (numF [a, b]) 2 = [a, b] := be_numF _ h
theorem head_four {bs : List Nat} (hB : Byt bs) (hl : 20 ≤ bs.length) (h0 : bs.getD 0 0 = 69) (hE : fourE bs = 0) : headL (q4 bs) ((bs.drop 20).length : Int) = bs.take 20 := by
  have hlen : (20 + ((bs.drop 20).length : Int)).toNat = bs.length := by rw [List.length_drop]; omega
  unfold fourE at hE
  split at hE
  · cases hE
  split at hE
  · cases hE
  split at hE
  · cases hE
  rename_i hs hf hp
  have hs' : sumR (splice (bs.take 20) 10 [0, 0]) = (nb bs 10 2 : Int) := Classical.not_not.1 hs
  obtain ⟨hf1, hf2, hf3⟩ : nb bs 2 2 = bs.length ∧ bs.getD 1 0 = 0 ∧ nb bs 4 4 = 0 := by
    exact ⟨Classical.byContradiction fun h => hf (.inl h), Classical.byContradiction fun h => hf (.inr (.inl h)), Classical.byContradiction fun h => hf (.inr (.inr h))⟩
  have hc := (protoN_in hp).2
  have e2 := be_nb hB 2 2 (by omega)
  have e10 := be_nb hB 10 2 (by omega)
  have e12 := be_nb hB 12 4 (by omega)
  have e16 := be_nb hB 16 4 (by omega)
  have e4 : ((bs.drop 4).take 4) = [0, 0, 0, 0] := by rw [← be_nb hB 4 4 (by omega), hf3]; rfl
  have hX : [69, 0] ++ be (20 + ((bs.drop 20).length : Int)).toNat 2 ++ [0, 0, 0, 0, (q4 bs).hops.toNat, (codeN (q4 bs).proto (q4 bs).fs).toNat, 0, 0] ++ adBy (q4 bs).fs (q4 bs).fh (q4 bs).fl ++ adBy (q4 bs).ts (q4 bs).th (q4 bs).tl = splice (bs.take 20) 10 [0, 0] := by
    rw [hlen, ← hf1, e2]
    simp only [q4, adBy, Int.toNat_natCast, hc, e12, e16]
    obtain ⟨b0, r0, rfl, k0⟩ := ex_cons hl
    obtain ⟨b1, r1, rfl, k1⟩ := ex_cons k0
    obtain ⟨b2, r2, rfl, k2⟩ := ex_cons k1
    obtain ⟨b3, r3, rfl, k3⟩ := ex_cons k2
    obtain ⟨b4, r4, rfl, k4⟩ := ex_cons k3
    obtain ⟨b5, r5, rfl, k5⟩ := ex_cons k4
    obtain ⟨b6, r6, rfl, k6⟩ := ex_cons k5
    obtain ⟨b7, r7, rfl, k7⟩ := ex_cons k6
    obtain ⟨b8, r8, rfl, k8⟩ := ex_cons k7
    obtain ⟨b9, r9, rfl, k9⟩ := ex_cons k8
    obtain ⟨b10, r10, rfl, k10⟩ := ex_cons k9
    obtain ⟨b11, r11, rfl, k11⟩ := ex_cons k10
    obtain ⟨b12, r12, rfl, k12⟩ := ex_cons k11
    obtain ⟨b13, r13, rfl, k13⟩ := ex_cons k12
    obtain ⟨b14, r14, rfl, k14⟩ := ex_cons k13
    obtain ⟨b15, r15, rfl, k15⟩ := ex_cons k14
    obtain ⟨b16, r16, rfl, k16⟩ := ex_cons k15
    obtain ⟨b17, r17, rfl, k17⟩ := ex_cons k16
    obtain ⟨b18, r18, rfl, k18⟩ := ex_cons k17
    obtain ⟨b19, r19, rfl, k19⟩ := ex_cons k18
    simp at h0 hf2 e4
    obtain ⟨rfl, rfl, rfl, rfl⟩ := e4
    subst h0 hf2
    simp [splice]
  unfold headL
  rw [if_neg (by simp [q4]), hX, hs', Int.toNat_natCast, e10, splice_twice _ _ _ _ (by simp; omega) (by simp; omega)]
  have e := splice_self (bs.take 20) 10 2 (by simp; omega)
  have d : ((bs.take 20).drop 10).take 2 = (bs.drop 10).take 2 := by rw [List.drop_take, List.take_take]; rfl
  rw [d] at e
  exact e
theorem head_six {bs : List Nat} (hB : Byt bs) (h0 : bs.getD 0 0 = 96) (hE : sixE bs = 0) : 40 ≤ bs.length ∧ headL (q6 bs) ((bs.drop 40).length : Int) = bs.take 40 := by
  unfold sixE at hE
  split at hE
  · cases hE
  split at hE
  · cases hE
  rename_i hf hp
  obtain ⟨hl, hf2, hf3⟩ : 40 ≤ bs.length ∧ (nb bs 4 2 : Int) = bs.length - 40 ∧ nb bs 1 3 = 0 := by
    refine ⟨?_, ?_, ?_⟩ <;> (apply Classical.byContradiction; intro h; exact hf (by omega))
  refine ⟨hl, ?_⟩
  have hlen : ((bs.drop 40).length : Int).toNat = nb bs 4 2 := by rw [List.length_drop]; omega
  have hc := (protoN_in hp).2
  have e4 := be_nb hB 4 2 (by omega)
  have e8 := be_nb hB 8 8 (by omega)
  have e16 := be_nb hB 16 8 (by omega)
  have e24 := be_nb hB 24 8 (by omega)
  have e32 := be_nb hB 32 8 (by omega)
  have e1 : ((bs.drop 1).take 3) = [0, 0, 0] := by rw [← be_nb hB 1 3 (by omega), hf3]; rfl
  unfold headL
  rw [if_pos (by simp [q6]), hlen, e4]
  simp only [q6, adBy, if_true, Int.toNat_natCast, hc, e8, e16, e24, e32]
  have e5 : ∀ k n, (bs.drop k).take n ++ bs.drop (k + n) = bs.drop k := fun k n => by rw [← List.drop_drop, List.take_append_drop]
  obtain ⟨b0, r0, rfl, k0⟩ := ex_cons hl
  obtain ⟨b1, r1, rfl, k1⟩ := ex_cons k0
  obtain ⟨b2, r2, rfl, k2⟩ := ex_cons k1
  obtain ⟨b3, r3, rfl, k3⟩ := ex_cons k2
  obtain ⟨b4, r4, rfl, k4⟩ := ex_cons k3
  obtain ⟨b5, r5, rfl, k5⟩ := ex_cons k4
  obtain ⟨b6, r6, rfl, k6⟩ := ex_cons k5
  obtain ⟨b7, r7, rfl, k7⟩ := ex_cons k6
  simp at h0 e1
  obtain ⟨rfl, rfl, rfl⟩ := e1
  subst h0
  simp
  have f : ∀ (l : List Nat) (k : Nat), (l.take k ++ (l.drop k).take 8) = l.take (k + 8) := fun l k => by rw [List.take_add]
  rw [show List.take 8 r7 ++ (List.take 8 (List.drop 8 r7) ++ (List.take 8 (List.drop 16 r7) ++ List.take 8 (List.drop 24 r7))) = ((List.take 8 r7 ++ List.take 8 (List.drop 8 r7)) ++ List.take 8 (List.drop 16 r7)) ++ List.take 8 (List.drop 24 r7) by simp]
  rw [f, f, f]
/-- The program and the reference say the same. -/
theorem rd_same {bs : List Nat} (hB : Byt bs) : rdER bs = rdE bs ∧ (rdE bs = 0 → rdBodyR (headQ bs) (bs.drop (headN bs)) = rdBody (headQ bs) (bs.drop (headN bs))) := by
  unfold rdER rdE
  by_cases hE : headE bs = 0
  · rw [if_neg (fun h => h hE), if_neg (fun h => h hE)]
    unfold headE at hE
    split at hE
    · cases hE
    rename_i hl
    have key : ∃ m, m = headN bs ∧ headL (headQ bs) ((bs.drop m).length : Int) = bs.take m ∧ ((headQ bs).proto = 1 ∨ (headQ bs).proto = 6 ∨ (headQ bs).proto = 17) := by
      split at hE
      · rename_i h0
        refine ⟨20, by unfold headN; rw [if_pos h0], ?_, ?_⟩
        · unfold headQ; rw [if_pos h0]; exact head_four hB (by omega) h0 hE
        · unfold headQ; rw [if_pos h0]
          unfold fourE at hE
          split at hE
          · cases hE
          split at hE
          · cases hE
          split at hE
          · cases hE
          rename_i hp
          exact (protoN_in hp).1
      · rename_i h0
        split at hE
        · rename_i h6
          refine ⟨40, by unfold headN; rw [if_neg h0], ?_, ?_⟩
          · unfold headQ; rw [if_neg h0]; exact (head_six hB h6 hE).2
          · unfold headQ; rw [if_neg h0]
            unfold sixE at hE
            split at hE
            · cases hE
            split at hE
            · cases hE
            rename_i hp
            exact (protoN_in hp).1
        · cases hE
    obtain ⟨m, hm, hh, hp⟩ := key
    rw [← hm]
    have := part_same (base_head bs) (fun b hb => hB b (List.mem_of_mem_drop hb) : Byt (bs.drop m)) hp hh
    rw [List.take_append_drop] at this
    exact this
  · rw [if_pos hE, if_pos hE]
    exact ⟨rfl, fun h => absurd h hE⟩

theorem ok_head {bs : List Nat} (hB : Byt bs) (hp : (headQ bs).proto = 1 ∨ (headQ bs).proto = 6 ∨ (headQ bs).proto = 17) : PkOk (headQ bs) := by
  have n4 : ∀ i, nb bs i 4 < 4294967296 := fun i => nb_lt hB i 4
  have n8 : ∀ i, nb bs i 8 < 18446744073709551616 := fun i => nb_lt hB i 8
  have g : ∀ i, bs.getD i 0 < 256 := fun i => hB.getD i
  unfold headQ at *
  split at hp
  · rename_i h
    rw [if_pos h]
    have a := n4 12; have b := n4 16; have c := g 8
    constructor <;> first | exact hp | rfl | (simp only [q4, Wd]; omega)
  · rename_i h
    rw [if_neg h]
    have a := n8 8; have b := n8 16; have d := n8 24; have e := n8 32; have c := g 7
    constructor <;> first | exact hp | rfl | (simp only [q6, Wd]; omega)
theorem ok_tcp {q : Pk} {bd : List Nat} (h : PkOk q) (hB : Byt bd) (hp : q.proto = 6) : PkOk (rdTcp q bd) := by
  have n4 : ∀ i, nb bd i 4 < 4294967296 := fun i => nb_lt hB i 4
  have n2 : ∀ i, nb bd i 2 < 65536 := fun i => nb_lt hB i 2
  have a := n2 0; have b := n2 2; have c := n4 4; have d := n4 8
  obtain ⟨h1, h2, h3, h4, h5, h6, h7, h8, h9, h10, h11, h12, h13, h14, h15, h16, h17⟩ := h
  constructor <;> first | assumption | (simp only [rdTcp]; omega)
theorem ok_udp {q : Pk} {bd : List Nat} (h : PkOk q) (hB : Byt bd) : PkOk (rdUdp q bd) := by
  have n2 : ∀ i, nb bd i 2 < 65536 := fun i => nb_lt hB i 2
  have a := n2 0; have b := n2 2
  obtain ⟨h1, h2, h3, h4, h5, h6, h7, h8, h9, h10, h11, h12, h13, h14, h15, h16, h17⟩ := h
  constructor <;> first | assumption | (simp only [rdUdp]; omega)
theorem ok_icmp {q : Pk} {bd : List Nat} (h : PkOk q) (hB : Byt bd) (r : Bool) : PkOk (rdIcmp q bd r) := by
  have n2 : ∀ i, nb bd i 2 < 65536 := fun i => nb_lt hB i 2
  have a := n2 4; have b := n2 6
  obtain ⟨h1, h2, h3, h4, h5, h6, h7, h8, h9, h10, h11, h12, h13, h14, h15, h16, h17⟩ := h
  constructor <;> first | assumption | (simp only [rdIcmp]; omega)
theorem ok_body {q : Pk} {bd : List Nat} (h : PkOk q) (hB : Byt bd) : PkOk (rdBody q bd) := by
  unfold rdBody
  split
  · exact ok_tcp h hB ‹_›
  · split
    · exact ok_udp h hB
    · exact ok_icmp h hB _
theorem head_proto {bs : List Nat} (hE : headE bs = 0) : (headQ bs).proto = 1 ∨ (headQ bs).proto = 6 ∨ (headQ bs).proto = 17 := by
  unfold headE at hE
  split at hE
  · cases hE
  split at hE
  · rename_i h0
    unfold headQ; rw [if_pos h0]
    unfold fourE at hE
    split at hE
    · cases hE
    split at hE
    · cases hE
    split at hE
    · cases hE
    rename_i hp
    exact (protoN_in hp).1
  · rename_i h0
    unfold headQ; rw [if_neg h0]
    split at hE
    · unfold sixE at hE
      split at hE
      · cases hE
      split at hE
      · cases hE
      rename_i hp
      exact (protoN_in hp).1
    · cases hE
end Go.Proofs.YtijlahgmnpnmfaaGreatDoor
