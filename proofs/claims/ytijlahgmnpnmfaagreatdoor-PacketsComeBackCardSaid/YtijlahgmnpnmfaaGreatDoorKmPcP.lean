/- Packets: the part of the protocol. -/
import Derived.Test.YtijlahgmnpnmfaaGreatDoorKmPcK
import Derived.Laws.CopyOwn
import Derived.Laws.EntriesVeiled
namespace Go.Proofs.YtijlahgmnpnmfaaGreatDoor
open Go.RowKit
set_option linter.unusedVariables false
set_option linter.unusedSimpArgs false

theorem splice_len {bs gs : List Nat} {k : Nat} (h : k + gs.length ≤ bs.length) : (splice bs k gs).length = bs.length := length_splice bs k gs h
theorem splice_bV (bs gs : List Nat) (k : Nat) : splice (bV bs) k (bV gs) = bV (splice bs k gs) := by
  unfold splice; simp [bV]
theorem splice_take {α : Type} (L G : List α) (k n : Nat) (h : k + G.length ≤ n) (hn : n ≤ L.length) : (L.take k ++ (G ++ L.drop (k + G.length))).take n = (L.take n).take k ++ (G ++ (L.take n).drop (k + G.length)) := by
  have e1 : (L.take k).length = k := by rw [List.length_take]; omega
  rw [List.take_take, Nat.min_eq_left (by omega), List.take_append, e1, List.take_of_length_le (by omega : (L.take k).length ≤ n), List.take_append, List.take_of_length_le (by omega : G.length ≤ n - k), List.drop_take]
  rw [show n - k - G.length = n - (k + G.length) by omega]
/-- copy into one's own row, as one operation. -/
theorem wp_copy_own {w : World} {o : Oper} {a : Act} {K : Act → World → Prop} {Q : Exit → Act → World → Prop} (d s : Operand)
    (ho : o.op = .call { callee := .builtin .copy, args := #[d, s], argTypes := #[29, 29] })
    (B g n cap k : Nat) (bs : List Nat) (hown : Own B w (.slice (some ⟨g, 0, none⟩) n cap) bs) (dLen dCap : Nat) (hd : a.eval d = .slice (some ⟨g, k, none⟩) dLen dCap)
    (A : Option Addr) (m c : Nat) (gs : List Nat) (hs : a.eval s = .slice A m c) (hS : SlB w A m c gs) (hm : 1 ≤ m) (hfit : k + m ≤ n) (hmin : m ≤ dLen)
    (h : ∀ w', Own B w' (.slice (some ⟨g, 0, none⟩) n cap) (splice bs k gs) → w.grownBy w' (some g) → K (a.put o.dst (goInt m)) w') : Oper.wp Tryz.prog o a w K Q := by
  have hl := hS.len
  rcases hS.2.2 with h0 | ⟨g2, off, rfl, hg2, hc⟩
  · omega
  rcases hown.2 with ⟨hv, _⟩ | ⟨g', cap', cur, hv, hBg, hg, hle, hmx, hsz, htk⟩
  · cases hv
  · obtain ⟨rfl, hnb, rfl⟩ : g' = g ∧ n = bs.length ∧ cap' = cap := by cases hv; exact ⟨rfl, rfl, rfl⟩
    have hrun := run_copy_row (P := Tryz.prog) w 29 29 o.type 5 g' k dLen dCap ⟨g2, off, none⟩ m c cur 5 (bV gs) Tryz.underlying29 (by kernel_rfl) hg (by rw [bV_len, ← hl]; exact (Nat.min_eq_left hmin).symm)
      (fun j u hj => by
        have e : Addr.add ⟨g2, off, none⟩ j = ⟨g2, off + j, none⟩ := by
          unfold Addr.add
          split
          · rename_i h; subst h; rfl
          · rfl
        rw [e]; exact hc j u hj) (by rw [bV_len, ← hl, hsz]; omega) (fun u hu => by obtain ⟨g, _, rfl⟩ := List.mem_map.1 hu; rfl)
    unfold Oper.wp
    simp [execOp, ho, resolve, invoke, builtin, hd, hs, hrun, Result.andThen]
    rw [bV_len, ← hl]
    refine h _ ?_ ⟨rfl, rfl, rfl, by simp [World.setRow], fun p hp hne => setRow_other w g' p _ (fun e => hne (by rw [e]))⟩
    have hL : (bV bs) = cur.toList.take n := by rw [← htk, hnb, Nat.mul_one]
    refine ⟨by rw [bV_len, Nat.mul_one], .inr ⟨g', cap', _, by rw [splice_len (by omega), ← hnb], hBg, setRow_heap w g' _ _ 5 _ hg, by rw [splice_len (by omega)]; omega, hmx, ?_, ?_⟩⟩
    · simp [bV_len]; omega
    · rw [splice_len (by omega), ← splice_bV, hL, ← hnb, Nat.mul_one]
      have hgl : (bV gs).length = m := by rw [bV_len]; exact hl.symm
      have hcl : cur.toList.length = cap' := by simpa using hsz
      have hh := splice_take cur.toList (bV gs) k n (by rw [hgl]; omega) (by rw [hcl]; omega)
      rw [hgl] at hh
      unfold splice
      rw [hgl, ← hh]
      try simp only [List.append_assoc]

set_option maxHeartbeats 2000000 in
set_option maxRecDepth 100000 in
theorem putSum_any (B g cap n k : Nat) (bs : List Nat) (s : Int) (w : World) (ho : Own B w (.slice (some ⟨g, 0, none⟩) n cap) bs) (hk : k + 2 ≤ n) (hs0 : 0 ≤ s) (hs1 : s ≤ 65535) (hB : B ≤ w.heap.size) :
    Calls Tryz.prog 35 #[.slice (some ⟨g, 0, none⟩) n cap, .int .i64 k, .int .i64 s] w fun e w' => e = .returned (.tuple #[]) ∧ Own B w' (.slice (some ⟨g, 0, none⟩) n cap) (splice bs k (be s.toNat 2)) ∧ Below B w w' := by
  have hw := Lib.hid (Below.refl B w)
  have wsum := wrapU s hs0 (by omega)
  have hnc : n ≤ cap ∧ cap ≤ maxLen ∧ B ≤ g := by
    rcases ho.2 with ⟨hv, _⟩ | ⟨g', cap', cur, hv, h1, h2, h3, h4, _⟩
    · cases hv
    · obtain ⟨rfl, rfl, rfl⟩ : g' = g ∧ n = bs.length ∧ cap' = cap := by cases hv; exact ⟨rfl, rfl, rfl⟩
      exact ⟨h3, h4, h1⟩
  obtain ⟨hnc, hmx, hgB⟩ := hnc
  unfold maxLen at hmx
  have hkn : k ≤ n := by omega
  have hck : ¬ cap = k := by omega
  replace ho := Lib.hid ho
  go_enter Tryz.func35, Tryz.ntmps35
  go_wp2_with fail
  refine wb_begin ([]) [] (by kernel_rfl) (fun u0 hb0' hz0' => ?_)
  replace ho := Lib.hid (ho.out.below hb0')
  replace hw := Lib.hid (hw.out.trans (hb0'.mono (Nat.le_trans hB hw.out.size)))
  clear hb0' hz0'
  refine wb_pure (i := 0) (d := some 6) (v := ?_) (by simp only [List.getElem?_toArray, List.getElem?_cons_succ, List.getElem?_cons_zero] <;> rfl) (by rfl) (by kernel_rfl) (by kernel_rfl) (by kernel_rfl) (fun _ _ _ h => h) (by rfl) ?_ ?_
  rotate_left
  · ((intro u); go_simp; try with_reducible rfl)
  try simp only [Act.put, List.setIfInBounds_toArray, List.set_cons_zero, List.set_cons_succ]
  refine wb_pure (i := 1) (d := some 7) (v := ?_) (by simp only [List.getElem?_toArray, List.getElem?_cons_succ, List.getElem?_cons_zero] <;> rfl) (by rfl) (by kernel_rfl) (by kernel_rfl) (by kernel_rfl) (fun _ _ _ h => h) (by rfl) ?_ ?_
  rotate_left
  · ((intro u); go_simp; try with_reducible rfl)
  try simp only [Act.put, List.setIfInBounds_toArray, List.set_cons_zero, List.set_cons_succ]
  refine wb_take (i := 2) (d := some 8) (v := ?_) (by simp only [List.getElem?_toArray, List.getElem?_cons_succ, List.getElem?_cons_zero] <;> rfl) (by rfl) (by kernel_rfl) (by kernel_rfl) (by kernel_rfl) (fun _ _ _ h => h) (by rfl) (by kernel_rfl) ?_ ?_
  rotate_left
  · ((intro u hu); skip; go_simp; try with_reducible rfl)
  try simp only [Act.put, List.setIfInBounds_toArray, List.set_cons_zero, List.set_cons_succ]
  refine wb_pure (i := 3) (d := some 9) (v := ?_) (by simp only [List.getElem?_toArray, List.getElem?_cons_succ, List.getElem?_cons_zero] <;> rfl) (by rfl) (by kernel_rfl) (by kernel_rfl) (by kernel_rfl) (fun _ _ _ h => h) (by rfl) ?_ ?_
  rotate_left
  · ((intro u); go_simp; try with_reducible rfl)
  try simp only [Act.put, List.setIfInBounds_toArray, List.set_cons_zero, List.set_cons_succ]
  refine wb_pure (i := 4) (d := some 10) (v := ?_) (by simp only [List.getElem?_toArray, List.getElem?_cons_succ, List.getElem?_cons_zero] <;> rfl) (by rfl) (by kernel_rfl) (by kernel_rfl) (by kernel_rfl) (fun _ _ _ h => h) (by rfl) ?_ ?_
  rotate_left
  · ((intro u); go_simp; try with_reducible rfl)
  try simp only [Act.put, List.setIfInBounds_toArray, List.set_cons_zero, List.set_cons_succ]
  refine wb_one (i := 5) (by simp only [List.getElem?_toArray, List.getElem?_cons_succ, List.getElem?_cons_zero] <;> rfl) (by kernel_rfl) (by rfl) (fun K hK => ?_)
  go_simp
  refine (number_own u0.heap.size 2 _ [] s _ (Own.nil _ _) (Nat.le_refl _) (by simp) (by omega) hs0 (by omega)).mono ?_
  rintro e u5 ⟨v5, rfl, o5, hv5, hf5⟩
  refine hK.out _ _ (fun p hp => by cases hp) ?_
  replace ho := Lib.hid (ho.out.below hv5)
  replace hw := Lib.hid (hw.out.trans (hv5.mono (Nat.le_trans hB hw.out.size)))
  obtain ⟨A5, c5, rfl, hS5, hA5⟩ := o5.sl
  clear hK K hv5 hf5 o5
  try simp only [Act.put, List.setIfInBounds_toArray, List.set_cons_zero, List.set_cons_succ]
  refine wb_one (i := 6) (by simp only [List.getElem?_toArray, List.getElem?_cons_succ, List.getElem?_cons_zero] <;> rfl) (by kernel_rfl) (by rfl) (fun K hK => ?_)
  refine wp_copy_own _ _ rfl B g n cap k bs ho.out _ _ rfl A5 2 c5 (be s.toNat 2) rfl hS5 (by omega) (by omega) (by omega) ?_
  intro w6 ho6 hg6
  refine hK.out _ _ (fun p hp => by cases hp) ?_
  have hw6 : Below B w w6 := hw.out.trans ((Below.refl B u5).grown hg6 (Nat.le_trans hB hw.out.size) (fun k h => by cases h; exact hgB))
  clear hK K hg6
  try simp only [Act.put, List.setIfInBounds_toArray, List.set_cons_zero, List.set_cons_succ]
  refine wb_done (by kernel_rfl) ?_ _
  go_wp2_with fail
  go_end0
  exact ⟨rfl, ho6, hw6⟩
end Go.Proofs.YtijlahgmnpnmfaaGreatDoor
namespace Go.Proofs.YtijlahgmnpnmfaaGreatDoor
open Go.RowKit
set_option linter.unusedVariables false
set_option linter.unusedSimpArgs false

/-- A packet's numbers are those that a right one has. -/
structure PkOk (q : Pk) : Prop where
  f : Wd q.fh q.fl
  t : Wd q.th q.tl
  hops0 : 0 ≤ q.hops
  hops1 : q.hops ≤ 255
  proto : q.proto = 1 ∨ q.proto = 6 ∨ q.proto = 17
  fp0 : 0 ≤ q.fp
  fp1 : q.fp ≤ 65535
  tp0 : 0 ≤ q.tp
  tp1 : q.tp ≤ 65535
  seq0 : 0 ≤ q.seq
  seq1 : q.seq ≤ 4294967295
  seqI : q.proto = 1 → q.seq ≤ 65535
  ack0 : 0 ≤ q.ack
  ack1 : q.ack ≤ 4294967295
  id0 : 0 ≤ q.id
  id1 : q.id ≤ 65535
  six : q.fs = q.ts
theorem codeN_in {p : Int} {s : Bool} (h : p = 1 ∨ p = 6 ∨ p = 17) : 0 ≤ codeN p s ∧ codeN p s < 256 := by
  unfold codeN; split <;> omega
/-- What is summed ahead of a part of n bytes. -/
def aheadL (q : Pk) (n : Int) : List Nat :=
  if q.fs then adBy q.fs q.fh q.fl ++ adBy q.ts q.th q.tl ++ be n.toNat 4 ++ be (codeN q.proto q.fs).toNat 4
  else if q.proto = 1 then [] else adBy q.fs q.fh q.fl ++ adBy q.ts q.th q.tl ++ be (codeN q.proto q.fs).toNat 2 ++ be n.toNat 2

set_option maxHeartbeats 4000000 in
set_option maxRecDepth 100000 in
theorem ahead_any (q : Pk) (v : Value) (pb : Nat) (len : Int) (w : World) (hP : Blk w pb (pkL q v) 31) (hq : PkOk q) (hl0 : 0 ≤ len) (hl1 : len ≤ 65535) :
    Calls Tryz.prog 65 #[.pointer (some ⟨pb, 0, none⟩), .int .i64 len] w (GivesB (aheadL q len) w) := by
  have hpb := hP.lt
  have hw := Below.refl w.heap.size w
  have hr := Lib.hid (And.intro hq.f hq.t)
  obtain ⟨hc0, hc1⟩ := codeN_in (s := q.fs) hq.proto
  have HL := Lib.hid (show aheadL q len = if q.fs then adBy q.fs q.fh q.fl ++ adBy q.ts q.th q.tl ++ be len.toNat 4 ++ be (codeN q.proto q.fs).toNat 4
    else if q.proto = 1 then [] else adBy q.fs q.fh q.fl ++ adBy q.ts q.th q.tl ++ be (codeN q.proto q.fs).toNat 2 ++ be len.toNat 2 from rfl)
  generalize aheadL q len = LL at HL ⊢
  clear hq
  obtain ⟨fs, fh, fl, ts, th, tl, hops, proto, fp, tp, syn, fin, rst, has, seq, ack, reply, id⟩ := q
  dsimp only at *
  generalize hcd : codeN proto fs = cd at hc0 hc1 HL
  replace hcd := Lib.hid hcd
  have wcd := wrapU cd hc0 (by omega)
  have wlen := wrapU len hl0 (by omega)
  go_enter Tryz.func65, Tryz.ntmps65
  go_wp2_with fail
  refine wb_begin ([pb]) [] (by kernel_rfl) (fun u0 hb0' hz0' => ?_)
  replace hP := hP.below hb0'
  replace hw := hw.trans (hb0'.mono hw.size)
  clear hb0' hz0'
  refine wb_pure (i := 0) (d := some 7) (v := ?_) (by simp only [List.getElem?_toArray, List.getElem?_cons_succ, List.getElem?_cons_zero] <;> rfl) (by rfl) (by kernel_rfl) (by kernel_rfl) (by kernel_rfl) (fun _ _ _ h => h) (by rfl) ?_ ?_
  rotate_left
  · ((intro u); go_simp; try with_reducible rfl)
  try simp only [Act.put, List.setIfInBounds_toArray, List.set_cons_zero, List.set_cons_succ]
  refine wb_pure (i := 1) (d := some 8) (v := ?_) (by simp only [List.getElem?_toArray, List.getElem?_cons_succ, List.getElem?_cons_zero] <;> rfl) (by rfl) (by kernel_rfl) (by kernel_rfl) (by kernel_rfl) (fun _ _ _ h => h) (by rfl) ?_ ?_
  rotate_left
  · ((intro u); go_simp; try with_reducible rfl)
  try simp only [Act.put, List.setIfInBounds_toArray, List.set_cons_zero, List.set_cons_succ]
  refine wb_pure (i := 2) (d := some 9) (v := ?_) (by simp only [List.getElem?_toArray, List.getElem?_cons_succ, List.getElem?_cons_zero] <;> rfl) (by rfl) (by kernel_rfl) (by kernel_rfl) (by kernel_rfl) (fun _ _ _ h => h) (by rfl) ?_ ?_
  rotate_left
  · ((intro u); go_simp; try with_reducible rfl)
  try simp only [Act.put, List.setIfInBounds_toArray, List.set_cons_zero, List.set_cons_succ]
  refine wb_take (i := 3) (d := some 10) (v := ?_) (by simp only [List.getElem?_toArray, List.getElem?_cons_succ, List.getElem?_cons_zero] <;> rfl) (by rfl) (by kernel_rfl) (by kernel_rfl) (by kernel_rfl) (fun _ _ _ h => h) (by rfl) (by kernel_rfl) ?_ ?_
  rotate_left
  · ((intro u hu); have k7 := (hP.kb hu (by simp)).cell (i := 7) (v := .int .i64 proto) rfl; have k0 := (hP.kb hu (by simp)).cell (i := 0) (v := .bool fs) rfl; go_simp; try with_reducible rfl)
  try simp only [Act.put, List.setIfInBounds_toArray, List.set_cons_zero, List.set_cons_succ]
  refine wb_pure (i := 4) (d := some 11) (v := ?_) (by simp only [List.getElem?_toArray, List.getElem?_cons_succ, List.getElem?_cons_zero] <;> rfl) (by rfl) (by kernel_rfl) (by kernel_rfl) (by kernel_rfl) (fun _ _ _ h => h) (by rfl) ?_ ?_
  rotate_left
  · ((intro u); go_simp; try with_reducible rfl)
  try simp only [Act.put, List.setIfInBounds_toArray, List.set_cons_zero, List.set_cons_succ]
  refine wb_pure (i := 5) (d := some 12) (v := ?_) (by simp only [List.getElem?_toArray, List.getElem?_cons_succ, List.getElem?_cons_zero] <;> rfl) (by rfl) (by kernel_rfl) (by kernel_rfl) (by kernel_rfl) (fun _ _ _ h => h) (by rfl) ?_ ?_
  rotate_left
  · ((intro u); go_simp; try with_reducible rfl)
  try simp only [Act.put, List.setIfInBounds_toArray, List.set_cons_zero, List.set_cons_succ]
  refine wb_pure (i := 6) (d := some 13) (v := ?_) (by simp only [List.getElem?_toArray, List.getElem?_cons_succ, List.getElem?_cons_zero] <;> rfl) (by rfl) (by kernel_rfl) (by kernel_rfl) (by kernel_rfl) (fun _ _ _ h => h) (by rfl) ?_ ?_
  rotate_left
  · ((intro u); go_simp; try with_reducible rfl)
  try simp only [Act.put, List.setIfInBounds_toArray, List.set_cons_zero, List.set_cons_succ]
  refine wb_pure (i := 7) (d := some 14) (v := ?_) (by simp only [List.getElem?_toArray, List.getElem?_cons_succ, List.getElem?_cons_zero] <;> rfl) (by rfl) (by kernel_rfl) (by kernel_rfl) (by kernel_rfl) (fun _ _ _ h => h) (by rfl) ?_ ?_
  rotate_left
  · ((intro u); go_simp; try with_reducible rfl)
  try simp only [Act.put, List.setIfInBounds_toArray, List.set_cons_zero, List.set_cons_succ]
  refine wb_take (i := 8) (d := some 15) (v := ?_) (by simp only [List.getElem?_toArray, List.getElem?_cons_succ, List.getElem?_cons_zero] <;> rfl) (by rfl) (by kernel_rfl) (by kernel_rfl) (by kernel_rfl) (fun _ _ _ h => h) (by rfl) (by kernel_rfl) ?_ ?_
  rotate_left
  · ((intro u hu); have k7 := (hP.kb hu (by simp)).cell (i := 7) (v := .int .i64 proto) rfl; have k0 := (hP.kb hu (by simp)).cell (i := 0) (v := .bool fs) rfl; go_simp; try with_reducible rfl)
  try simp only [Act.put, List.setIfInBounds_toArray, List.set_cons_zero, List.set_cons_succ]
  refine wb_one (i := 9) (by simp only [List.getElem?_toArray, List.getElem?_cons_succ, List.getElem?_cons_zero] <;> rfl) (by kernel_rfl) (by rfl) (fun K hK => ?_)
  go_simp
  refine (proto_any proto fs _).mono ?_
  rintro e u9 ⟨rfl, rfl⟩
  rw [hcd.out]
  refine hK.out _ _ (Kb.refl _ _) ?_
  clear hK K
  try simp only [Act.put, List.setIfInBounds_toArray, List.set_cons_zero, List.set_cons_succ]
  refine wb_pure (i := 10) (d := some 17) (v := ?_) (by simp only [List.getElem?_toArray, List.getElem?_cons_succ, List.getElem?_cons_zero] <;> rfl) (by rfl) (by kernel_rfl) (by kernel_rfl) (by kernel_rfl) (fun _ _ _ h => h) (by rfl) ?_ ?_
  rotate_left
  · ((intro u); go_simp; try with_reducible rfl)
  try simp only [Act.put, List.setIfInBounds_toArray, List.set_cons_zero, List.set_cons_succ]
  refine wb_pure (i := 11) (d := some 5) (v := ?_) (by simp only [List.getElem?_toArray, List.getElem?_cons_succ, List.getElem?_cons_zero] <;> rfl) (by rfl) (by kernel_rfl) (by kernel_rfl) (by kernel_rfl) (fun _ _ _ h => h) (by rfl) ?_ ?_
  rotate_left
  · ((intro u); go_simp; try with_reducible rfl)
  try simp only [Act.put, List.setIfInBounds_toArray, List.set_cons_zero, List.set_cons_succ]
  refine wb_done (by kernel_rfl) ?_ _
  skip
  go_wp2_with fail
  refine wb_begin ([pb]) [] (by kernel_rfl) (fun u0 hb0' hz0' => ?_)
  replace hP := hP.below hb0'
  replace hw := hw.trans (hb0'.mono hw.size)
  clear hb0' hz0'
  refine wb_pure (i := 0) (d := some 18) (v := ?_) (by simp only [List.getElem?_toArray, List.getElem?_cons_succ, List.getElem?_cons_zero] <;> rfl) (by rfl) (by kernel_rfl) (by kernel_rfl) (by kernel_rfl) (fun _ _ _ h => h) (by rfl) ?_ ?_
  rotate_left
  · ((intro u); go_simp; try with_reducible rfl)
  try simp only [Act.put, List.setIfInBounds_toArray, List.set_cons_zero, List.set_cons_succ]
  refine wb_pure (i := 1) (d := some 19) (v := ?_) (by simp only [List.getElem?_toArray, List.getElem?_cons_succ, List.getElem?_cons_zero] <;> rfl) (by rfl) (by kernel_rfl) (by kernel_rfl) (by kernel_rfl) (fun _ _ _ h => h) (by rfl) ?_ ?_
  rotate_left
  · ((intro u); go_simp; try with_reducible rfl)
  try simp only [Act.put, List.setIfInBounds_toArray, List.set_cons_zero, List.set_cons_succ]
  refine wb_pure (i := 2) (d := some 20) (v := ?_) (by simp only [List.getElem?_toArray, List.getElem?_cons_succ, List.getElem?_cons_zero] <;> rfl) (by rfl) (by kernel_rfl) (by kernel_rfl) (by kernel_rfl) (fun _ _ _ h => h) (by rfl) ?_ ?_
  rotate_left
  · ((intro u); go_simp; try with_reducible rfl)
  try simp only [Act.put, List.setIfInBounds_toArray, List.set_cons_zero, List.set_cons_succ]
  refine wb_take (i := 3) (d := some 21) (v := ?_) (by simp only [List.getElem?_toArray, List.getElem?_cons_succ, List.getElem?_cons_zero] <;> rfl) (by rfl) (by kernel_rfl) (by kernel_rfl) (by kernel_rfl) (fun _ _ _ h => h) (by rfl) (by kernel_rfl) ?_ ?_
  rotate_left
  · ((intro u hu); have k0 := (hP.kb hu (by simp)).cell (i := 0) (v := .bool fs) rfl; have k1 := (hP.kb hu (by simp)).cell (i := 1) (v := .int .u64 fh) rfl; have k2 := (hP.kb hu (by simp)).cell (i := 2) (v := .int .u64 fl) rfl; have k3 := (hP.kb hu (by simp)).cell (i := 3) (v := .bool ts) rfl; have k4 := (hP.kb hu (by simp)).cell (i := 4) (v := .int .u64 th) rfl; have k5 := (hP.kb hu (by simp)).cell (i := 5) (v := .int .u64 tl) rfl; go_simp; try with_reducible rfl)
  try simp only [Act.put, List.setIfInBounds_toArray, List.set_cons_zero, List.set_cons_succ]
  refine wb_pure (i := 5) (d := some 23) (v := ?_) (by simp only [List.getElem?_toArray, List.getElem?_cons_succ, List.getElem?_cons_zero] <;> rfl) (by rfl) (by kernel_rfl) (by kernel_rfl) (by kernel_rfl) (fun _ _ _ h => h) (by rfl) ?_ ?_
  rotate_left
  · ((intro u); go_simp; try with_reducible rfl)
  try simp only [Act.put, List.setIfInBounds_toArray, List.set_cons_zero, List.set_cons_succ]
  refine wb_pure (i := 6) (d := some 24) (v := ?_) (by simp only [List.getElem?_toArray, List.getElem?_cons_succ, List.getElem?_cons_zero] <;> rfl) (by rfl) (by kernel_rfl) (by kernel_rfl) (by kernel_rfl) (fun _ _ _ h => h) (by rfl) ?_ ?_
  rotate_left
  · ((intro u); go_simp; try with_reducible rfl)
  try simp only [Act.put, List.setIfInBounds_toArray, List.set_cons_zero, List.set_cons_succ]
  refine wb_pure (i := 7) (d := some 25) (v := ?_) (by simp only [List.getElem?_toArray, List.getElem?_cons_succ, List.getElem?_cons_zero] <;> rfl) (by rfl) (by kernel_rfl) (by kernel_rfl) (by kernel_rfl) (fun _ _ _ h => h) (by rfl) ?_ ?_
  rotate_left
  · ((intro u); go_simp; try with_reducible rfl)
  try simp only [Act.put, List.setIfInBounds_toArray, List.set_cons_zero, List.set_cons_succ]
  refine wb_take (i := 8) (d := some 26) (v := ?_) (by simp only [List.getElem?_toArray, List.getElem?_cons_succ, List.getElem?_cons_zero] <;> rfl) (by rfl) (by kernel_rfl) (by kernel_rfl) (by kernel_rfl) (fun _ _ _ h => h) (by rfl) (by kernel_rfl) ?_ ?_
  rotate_left
  · ((intro u hu); have k0 := (hP.kb hu (by simp)).cell (i := 0) (v := .bool fs) rfl; have k1 := (hP.kb hu (by simp)).cell (i := 1) (v := .int .u64 fh) rfl; have k2 := (hP.kb hu (by simp)).cell (i := 2) (v := .int .u64 fl) rfl; have k3 := (hP.kb hu (by simp)).cell (i := 3) (v := .bool ts) rfl; have k4 := (hP.kb hu (by simp)).cell (i := 4) (v := .int .u64 th) rfl; have k5 := (hP.kb hu (by simp)).cell (i := 5) (v := .int .u64 tl) rfl; go_simp; try with_reducible rfl)
  try simp only [Act.put, List.setIfInBounds_toArray, List.set_cons_zero, List.set_cons_succ]
  refine wb_one (i := 4) (by simp only [List.getElem?_toArray, List.getElem?_cons_succ, List.getElem?_cons_zero] <;> rfl) (by kernel_rfl) (by rfl) (fun K hK => ?_)
  go_simp
  refine (addrBytesP_any w.heap.size _ [] fs fh fl _ hr.out.1 (Own.nil _ _) hw.size (by simp)).mono ?_
  rintro e u4 ⟨v4, rfl, o4, hv4, hf4⟩
  refine hK.out _ _ (Kb.below hv4 (by intro p hp; rw [List.mem_singleton.1 hp]; exact hpb)) ?_
  replace hP := hP.upB hpb hv4
  replace hw := hw.trans hv4
  clear hK K hv4 hf4
  try simp only [Act.put, List.setIfInBounds_toArray, List.set_cons_zero, List.set_cons_succ]
  refine wb_one (i := 9) (by simp only [List.getElem?_toArray, List.getElem?_cons_succ, List.getElem?_cons_zero] <;> rfl) (by kernel_rfl) (by rfl) (fun K hK => ?_)
  go_simp
  refine (addrBytesP_any w.heap.size _ _ ts th tl _ hr.out.2 o4 hw.size (by have := adB_len fs fh fl; simp; omega)).mono ?_
  rintro e u9 ⟨v9, rfl, o9, hv9, hf9⟩
  refine hK.out _ _ (Kb.below hv9 (by intro p hp; rw [List.mem_singleton.1 hp]; exact hpb)) ?_
  replace hP := hP.upB hpb hv9
  replace hw := hw.trans hv9
  clear hK K hv9 hf9
  try simp only [Act.put, List.setIfInBounds_toArray, List.set_cons_zero, List.set_cons_succ]
  refine wb_pure (i := 10) (d := some 6) (v := ?_) (by simp only [List.getElem?_toArray, List.getElem?_cons_succ, List.getElem?_cons_zero] <;> rfl) (by rfl) (by kernel_rfl) (by kernel_rfl) (by kernel_rfl) (fun _ _ _ h => h) (by rfl) ?_ ?_
  rotate_left
  · ((intro u); go_simp; try with_reducible rfl)
  try simp only [Act.put, List.setIfInBounds_toArray, List.set_cons_zero, List.set_cons_succ]
  refine wb_done (by kernel_rfl) ?_ _
  skip
  have c0 := hP.cell (i := 0) (v := .bool fs) rfl
  have c7 := hP.cell (i := 7) (v := .int .i64 proto) rfl
  replace hP := Lib.hid hP
  clear o4 hr
  cases fs
  · by_cases h : proto = 1
    · replace HL := Lib.hid (HL.out.trans ((if_neg (by simp)).trans (if_pos h)))
      have e : (proto == 1) = true := by simp [h]
      replace h := Lib.hid h
      go_wp2_with fail
      go_ret
      exact ⟨_, rfl, by rw [HL.out]; exact Own.nil _ _, hw⟩
    · replace HL := Lib.hid (HL.out.trans ((if_neg (by simp)).trans (if_neg h)))
      have e : (proto == 1) = false := by simp [h]
      replace h := Lib.hid h
      go_wp2_with fail
      refine (number_own w.heap.size 2 _ _ cd _ o9 hw.size (by have := adB_len false fh fl; have := adB_len ts th tl; simp [be_len]; omega) (by omega) hc0 (by omega)).mono ?_
      rintro e u48 ⟨v48, rfl, o48, hv48, hf48⟩
      replace hw := hw.trans hv48
      clear hv48 hf48 o9
      go_wp2_with fail
      refine (number_own w.heap.size 2 _ _ len _ o48 hw.size (by have := adB_len false fh fl; have := adB_len ts th tl; simp [be_len]; omega) (by omega) hl0 (by omega)).mono ?_
      rintro e u51 ⟨v51, rfl, o51, hv51, hf51⟩
      replace hw := hw.trans hv51
      clear hv51 hf51 o48

      go_wp2_with fail
      go_ret
      exact ⟨_, rfl, by rw [HL.out]; exact o51, hw⟩
  · replace HL := Lib.hid (HL.out.trans (if_pos rfl))
    go_wp2_with fail
    refine (number_own w.heap.size 4 _ _ len _ o9 hw.size (by have := adB_len true fh fl; have := adB_len ts th tl; simp [be_len]; omega) (by omega) hl0 (by omega)).mono ?_
    rintro e u37 ⟨v37, rfl, o37, hv37, hf37⟩
    replace hw := hw.trans hv37
    clear hv37 hf37 o9
    go_wp2_with fail
    refine (number_own w.heap.size 4 _ _ cd _ o37 hw.size (by have := adB_len true fh fl; have := adB_len ts th tl; simp [be_len]; omega) (by omega) hc0 (by omega)).mono ?_
    rintro e u39 ⟨v39, rfl, o39, hv39, hf39⟩
    replace hw := hw.trans hv39
    clear hv39 hf39 o37

    go_wp2_with fail
    go_ret
    exact ⟨_, rfl, by rw [HL.out]; exact o39, hw⟩
end Go.Proofs.YtijlahgmnpnmfaaGreatDoor
namespace Go.Proofs.YtijlahgmnpnmfaaGreatDoor
open Go.RowKit
set_option linter.unusedVariables false
set_option linter.unusedSimpArgs false

theorem aheadL_byt (q : Pk) (n : Int) : Byt (aheadL q n) := by
  unfold aheadL
  split
  · exact Byt.app (Byt.app (Byt.app (adB_byt _ _ _) (adB_byt _ _ _)) (be_lt _ _)) (be_lt _ _)
  · split
    · intro b hb; cases hb
    · exact Byt.app (Byt.app (Byt.app (adB_byt _ _ _) (adB_byt _ _ _)) (be_lt _ _)) (be_lt _ _)
theorem aheadL_len (q : Pk) (n : Int) : (aheadL q n).length ≤ 100 := by
  unfold aheadL
  have h1 := adB_len q.fs q.fh q.fl
  have h2 := adB_len q.ts q.th q.tl
  split
  · simp [be_len]; omega
  · split
    · simp
    · simp [be_len]; omega
/-- The slice that one of some is. -/
def SS.val (s : SS) : Value := .slice s.A s.n s.cap
theorem tot_flat {w : World} : ∀ {ss : List SS}, (∀ s ∈ ss, s.ok w) → totS ss = (flatS ss).length
  | [], _ => rfl
  | s :: r, h => by
    have h1 := (h s (List.mem_cons_self ..)).1.len
    have h2 := tot_flat (ss := r) (fun x hx => h x (List.mem_cons_of_mem _ hx))
    unfold totS flatS at *
    simp only [List.map_cons, List.sum_cons, List.flatten_cons, List.length_append]
    omega
theorem concat_blk (B m : Nat) (ss : List SS) (t : TypeId) (w : World) (hL : Blk w B (ss.map SS.val) t) (hm : m = ss.length) (hok : ∀ s ∈ ss, s.ok w) (h1 : 1 ≤ (flatS ss).length) (h2 : (flatS ss).length ≤ 100000) (hmm : m ≤ 10) :
    Calls Tryz.prog 64 #[.slice (some ⟨B, 0, none⟩) m m] w (GivesB (flatS ss) w) := by
  have ht := tot_flat hok
  refine (concat_any B m ss w hm (fun i s hs => hL.cell (by rw [List.getElem?_map, hs]; rfl)) hok (by omega) (by omega) hmm).mono ?_
  rintro e w' ⟨v, rfl, h, hb⟩
  exact ⟨v, rfl, by unfold Own; rw [← ht]; exact h, hb⟩

/-- The sum of a part. -/
def sumF (q : Pk) (part : List Nat) : Int := if sumR (aheadL q part.length ++ part) = 0 ∧ q.proto = 17 then 65535 else sumR (aheadL q part.length ++ part)
theorem sumF_in (q : Pk) (part : List Nat) : 0 ≤ sumF q part ∧ sumF q part ≤ 65535 := by
  unfold sumF; have := sumR_in (aheadL q part.length ++ part); split <;> omega

set_option maxHeartbeats 4000000 in
set_option maxRecDepth 100000 in
theorem sumOf_any (q : Pk) (v : Value) (pb : Nat) (A : Option Addr) (n cap : Nat) (part : List Nat) (w : World) (hP : Blk w pb (pkL q v) 31) (hq : PkOk q) (hS : SlB w A n cap part) (hA : A = none → cap = 0) (hn1 : 1 ≤ n) (hn2 : n ≤ 2000) (hb : Byt part) :
    Calls Tryz.prog 36 #[.pointer (some ⟨pb, 0, none⟩), .slice A n cap] w (GivesV (.int .i64 (sumF q part)) w) := by
  have hl := hS.len
  have hw := Below.refl w.heap.size w
  have HA := Lib.hid (ahead_any q v pb (n : Int) w hP hq (by omega) (by omega))
  have HS := Lib.hid (show sumF q part = if sumR (aheadL q n ++ part) = 0 ∧ q.proto = 17 then 65535 else sumR (aheadL q n ++ part) by rw [hl]; rfl)
  have hal := aheadL_len q n
  have hab := Byt.app (aheadL_byt q n) hb
  generalize aheadL q n = al at HA HS hal hab
  generalize sumF q part = N at HS ⊢
  clear hb hq
  replace hS := Lib.hid hS
  replace hA := Lib.hid hA
  replace hab := Lib.hid hab
  replace hl := Lib.hid hl
  replace hal := Lib.hid hal
  obtain ⟨fs, fh, fl, ts, th, tl, hops, proto, fp, tp, syn, fin, rst, has, seq, ack, reply, id⟩ := q
  dsimp only at *
  go_enter Tryz.func36, Tryz.ntmps36
  go_wp2_with fail
  refine HA.out.mono ?_
  rintro e u9 ⟨v9, rfl, o9, hv9⟩
  replace hP := hP.below hv9
  replace hS := Lib.hid (hS.out.below hv9)
  replace hw := hw.trans hv9
  obtain ⟨A9, c9, rfl, hS9, hA9⟩ := o9.sl
  have hok : Hid (∀ s ∈ [SS.mk A9 al.length c9 al, SS.mk A n cap part], s.ok (u9.alloc (.cells #[.slice A9 al.length c9, .slice A n cap] 29))) := Lib.hid (fun s hs => by
    have hb := (Below.refl u9.heap.size u9).alloc (Nat.le_refl _) (.cells #[.slice A9 al.length c9, .slice A n cap] 29)
    rcases List.mem_cons.1 hs with rfl | hs
    · exact ⟨hS9.below hb, hA9⟩
    · rw [List.mem_singleton.1 hs]
      exact ⟨hS.out.below hb, hA.out⟩)
  have hfl : flatS [SS.mk A9 al.length c9 al, SS.mk A n cap part] = al ++ part := by simp [flatS]
  have HC := Lib.hid (concat_blk u9.heap.size 2 [SS.mk A9 al.length c9 al, SS.mk A n cap part] 29 _ (Blk.new u9 [.slice A9 al.length c9, .slice A n cap] 29) rfl hok.out (by rw [hfl, List.length_append]; have := hl.out; omega) (by rw [hfl, List.length_append]; have := hl.out; have := hal.out; omega) (by omega))
  rw [hfl] at HC
  clear HA hv9 o9 hS9 hA9 hok hfl
  go_wp2_with fail
  refine HC.out.mono ?_
  rintro e u12 ⟨v12, rfl, o12, hv12⟩
  replace hP := hP.below ((Below.refl _ _).alloc (Nat.le_refl _) (.cells #[.slice A9 al.length c9, .slice A n cap] 29))
  replace hP := hP.below hv12
  replace hw := (hw.alloc hw.size (.cells #[.slice A9 al.length c9, .slice A n cap] 29)).trans (hv12.mono (by have := hw.size; simp; omega))
  obtain ⟨A12, c12, rfl, hS12, _⟩ := o12.sl
  have hsl : (al ++ part).length ≤ 100000 := by rw [List.length_append]; have := hl.out; have := hal.out; omega
  generalize al ++ part = sm at hS12 hsl hab HS ⊢
  obtain ⟨m12, hm12⟩ : ∃ m, m = sm.length := ⟨_, rfl⟩
  rw [← hm12] at hS12 hsl ⊢
  have HSU := Lib.hid (sum_any A12 _ c12 _ u12 hS12 hsl hab.out)
  clear hsl hm12 hab
  clear HC hv12 o12 hS12
  go_wp2_with fail
  refine HSU.out.mono ?_
  rintro e u13 ⟨rfl, hv13⟩
  replace hP := hP.below hv13
  replace hw := hw.trans (hv13.mono hw.size)
  have c7 := hP.cell (i := 7) (v := .int .i64 proto) rfl
  replace hP := Lib.hid hP
  clear hv13 HSU
  generalize sumR sm = sr at HS ⊢
  by_cases h0 : sr = 0
  · by_cases h1 : proto = 17
    · replace HS := Lib.hid (HS.out.trans (if_pos ⟨h0, h1⟩))
      have e0 : (sr == 0) = true := by simp [h0]
      have e1 : (proto == 17) = true := by simp [h1]
      replace h0 := Lib.hid h0
      replace h1 := Lib.hid h1
      go_wp2_with fail
      go_ret
      exact ⟨by rw [HS.out]; rfl, hw⟩
    · replace HS := Lib.hid (HS.out.trans (if_neg (fun h => h1 h.2)))
      have e0 : (sr == 0) = true := by simp [h0]
      have e1 : (proto == 17) = false := by simp [h1]
      replace h0 := Lib.hid h0
      replace h1 := Lib.hid h1
      go_wp2_with fail
      go_ret
      exact ⟨by rw [HS.out]; rfl, hw⟩
  · replace HS := Lib.hid (HS.out.trans (if_neg (fun h => h0 h.1)))
    have e0 : (sr == 0) = false := by simp [h0]
    replace h0 := Lib.hid h0
    go_wp2_with fail
    go_ret
    exact ⟨by rw [HS.out]; rfl, hw⟩
end Go.Proofs.YtijlahgmnpnmfaaGreatDoor
namespace Go.Proofs.YtijlahgmnpnmfaaGreatDoor
open Go.RowKit
set_option linter.unusedVariables false
set_option linter.unusedSimpArgs false

theorem Own.form {B : Nat} {w : World} {v : Value} {bs : List Nat} (h : Own B w v bs) (h0 : 0 < bs.length) : ∃ g cap, v = .slice (some ⟨g, 0, none⟩) bs.length cap ∧ SlB w (some ⟨g, 0, none⟩) bs.length cap bs := by
  obtain ⟨A, cap, rfl, hS, hA⟩ := h.sl
  rcases h.2 with ⟨hv, h1⟩ | ⟨g, c, cur, hv, _⟩
  · omega
  · have e1 : A = some ⟨g, 0, none⟩ := by injection hv
    subst e1
    exact ⟨g, cap, rfl, hS⟩
theorem Kb.two {a b B : Nat} {x y : World} (h : Below B x y) (ha : a < B) (hb : b < B) : Kb [a, b] x y :=
  Kb.below h (by intro p hp; simp at hp; rcases hp with rfl | rfl <;> assumption)
theorem wrapI (x : Int) (h0 : 0 ≤ x) (h1 : x < 9223372036854775808) : IntKind.i64.wrap x = x := by rw [IntKind.wrap_i64]; omega

set_option maxHeartbeats 800000 in
set_option maxRecDepth 100000 in
theorem partOf_lay (q : Pk) (pb : Nat) (A : Option Addr) (n cap : Nat) (pl hz : List Nat) (fn fr sz at' : Nat) (w : World) (hP : Blk w pb (pkL q (.slice A n cap)) 31) (hq : PkOk q) (hS : SlB w A n cap pl) (hA : A = none → cap = 0) (hn : n ≤ 1400) (hb : Byt pl)
    (HL : ∀ w', Calls Tryz.prog 34 #[.int .i64 q.proto] w' (GivesV (.agg #[.int .i64 sz, .int .i64 at', .func (.func fn) #[] #[], .func (.func fr) #[] #[]]) w'))
    (HW : ∀ w', Blk w' pb (pkL q (.slice A n cap)) 31 → Calls Tryz.prog fn #[.pointer (some ⟨pb, 0, none⟩), .int .i64 ((sz : Int) + (n : Int))] w' (GivesB hz w'))
    (hcf : ∀ (args : Array Value) (w' : World), (callFunc fn args).run Tryz.prog w' = .ok (.enter fn args) w') (hzl : hz.length = sz) (hzb : Byt hz) (hat : at' + 2 ≤ sz) (hsz : sz ≤ 20) :
    Calls Tryz.prog 17 #[.pointer (some ⟨pb, 0, none⟩)] w (GivesB (splice (hz ++ pl) at' (be (sumF q (hz ++ pl)).toNat 2)) w) := by
  have hpb := hP.lt
  have hw := Below.refl w.heap.size w
  have hl := hS.len
  have hptb := Lib.hid (Byt.app hzb hb)
  have hptl : (hz ++ pl).length = sz + n := by rw [List.length_append, hzl, hl]
  have wsum := wrapI ((sz : Int) + (n : Int)) (by omega) (by omega)
  have c7 := hP.cell (i := 7) (v := .int .i64 q.proto) rfl
  replace hS := Lib.hid hS
  replace hA := Lib.hid hA
  replace hq := Lib.hid hq
  replace hzl := Lib.hid hzl
  replace hl := Lib.hid hl
  replace hptl := Lib.hid hptl
  replace HL := Lib.hid HL
  replace HW := Lib.hid HW
  clear hb hzb
  go_enter Tryz.func17, Tryz.ntmps17
  go_wp2_with fail
  refine (HL.out _).mono ?_
  rintro e u0 ⟨rfl, hv0⟩
  replace hP := hP.below hv0
  replace hw := hw.trans hv0
  clear hv0 HL c7
  have hLB := Blk.new u0 [.int .i64 sz, .int .i64 at', .func (.func fn) #[] #[], .func (.func fr) #[] #[]] 89
  replace hP := hP.alloc (.cells #[.int .i64 sz, .int .i64 at', .func (.func fn) #[] #[], .func (.func fr) #[] #[]] 89)
  have hlb := hw.size
  replace hw := hw.alloc hw.size (.cells #[.int .i64 sz, .int .i64 at', .func (.func fn) #[] #[], .func (.func fr) #[] #[]] 89)
  go_wp2_with fail
  obtain ⟨lb, hlbe⟩ : ∃ lb, lb = u0.heap.size := ⟨_, rfl⟩
  rw [← hlbe] at hlb hLB ⊢
  clear hlbe
  refine wb_begin ([pb, lb]) [] (by kernel_rfl) (fun u0 hb0' hz0' => ?_)
  replace hP := hP.below hb0'
  replace hLB := hLB.below hb0'
  replace hw := hw.trans (hb0'.mono hw.size)
  clear hb0' hz0'
  refine wb_pure (i := 0) (d := some 10) (v := ?_) (by simp only [List.getElem?_toArray, List.getElem?_cons_succ, List.getElem?_cons_zero] <;> rfl) (by rfl) (by kernel_rfl) (by kernel_rfl) (by kernel_rfl) (fun _ _ _ h => h) (by rfl) ?_ ?_
  rotate_left
  · ((intro u); go_simp; try with_reducible rfl)
  try simp only [Act.put, List.setIfInBounds_toArray, List.set_cons_zero, List.set_cons_succ]
  refine wb_take (i := 1) (d := some 11) (v := ?_) (by simp only [List.getElem?_toArray, List.getElem?_cons_succ, List.getElem?_cons_zero] <;> rfl) (by rfl) (by kernel_rfl) (by kernel_rfl) (by kernel_rfl) (fun _ _ _ h => h) (by rfl) (by kernel_rfl) ?_ ?_
  rotate_left
  · ((intro u hu); have k18 := (hP.kb hu (by simp)).cell (i := 18) (v := .slice A n cap) rfl; have l0 := (hLB.kb hu (by simp)).cell (i := 0) (v := .int .i64 sz) rfl; have l2 := (hLB.kb hu (by simp)).cell (i := 2) (v := .func (.func fn) #[] #[]) rfl; go_simp; try with_reducible rfl)
  try simp only [Act.put, List.setIfInBounds_toArray, List.set_cons_zero, List.set_cons_succ]
  refine wb_pure (i := 2) (d := some 12) (v := ?_) (by simp only [List.getElem?_toArray, List.getElem?_cons_succ, List.getElem?_cons_zero] <;> rfl) (by rfl) (by kernel_rfl) (by kernel_rfl) (by kernel_rfl) (fun _ _ _ h => h) (by rfl) ?_ ?_
  rotate_left
  · ((intro u); go_simp; try with_reducible rfl)
  try simp only [Act.put, List.setIfInBounds_toArray, List.set_cons_zero, List.set_cons_succ]
  refine wb_pure (i := 3) (d := some 13) (v := ?_) (by simp only [List.getElem?_toArray, List.getElem?_cons_succ, List.getElem?_cons_zero] <;> rfl) (by rfl) (by kernel_rfl) (by kernel_rfl) (by kernel_rfl) (fun _ _ _ h => h) (by rfl) ?_ ?_
  rotate_left
  · ((intro u); go_simp; try with_reducible rfl)
  try simp only [Act.put, List.setIfInBounds_toArray, List.set_cons_zero, List.set_cons_succ]
  refine wb_take (i := 4) (d := some 14) (v := ?_) (by simp only [List.getElem?_toArray, List.getElem?_cons_succ, List.getElem?_cons_zero] <;> rfl) (by rfl) (by kernel_rfl) (by kernel_rfl) (by kernel_rfl) (fun _ _ _ h => h) (by rfl) (by kernel_rfl) ?_ ?_
  rotate_left
  · ((intro u hu); have k18 := (hP.kb hu (by simp)).cell (i := 18) (v := .slice A n cap) rfl; have l0 := (hLB.kb hu (by simp)).cell (i := 0) (v := .int .i64 sz) rfl; have l2 := (hLB.kb hu (by simp)).cell (i := 2) (v := .func (.func fn) #[] #[]) rfl; go_simp; try with_reducible rfl)
  try simp only [Act.put, List.setIfInBounds_toArray, List.set_cons_zero, List.set_cons_succ]
  refine wb_pure (i := 5) (d := some 15) (v := ?_) (by simp only [List.getElem?_toArray, List.getElem?_cons_succ, List.getElem?_cons_zero] <;> rfl) (by rfl) (by kernel_rfl) (by kernel_rfl) (by kernel_rfl) (fun _ _ _ h => h) (by rfl) ?_ ?_
  rotate_left
  · ((intro u); go_simp; try with_reducible rfl)
  try simp only [Act.put, List.setIfInBounds_toArray, List.set_cons_zero, List.set_cons_succ]
  refine wb_pure (i := 6) (d := some 16) (v := ?_) (by simp only [List.getElem?_toArray, List.getElem?_cons_succ, List.getElem?_cons_zero] <;> rfl) (by rfl) (by kernel_rfl) (by kernel_rfl) (by kernel_rfl) (fun _ _ _ h => h) (by rfl) ?_ ?_
  rotate_left
  · ((intro u); go_simp; try with_reducible rfl)
  try simp only [Act.put, List.setIfInBounds_toArray, List.set_cons_zero, List.set_cons_succ]
  refine wb_pure (i := 7) (d := some 17) (v := ?_) (by simp only [List.getElem?_toArray, List.getElem?_cons_succ, List.getElem?_cons_zero] <;> rfl) (by rfl) (by kernel_rfl) (by kernel_rfl) (by kernel_rfl) (fun _ _ _ h => h) (by rfl) ?_ ?_
  rotate_left
  · ((intro u); go_simp; try with_reducible rfl)
  try simp only [Act.put, List.setIfInBounds_toArray, List.set_cons_zero, List.set_cons_succ]
  refine wb_take (i := 8) (d := some 18) (v := ?_) (by simp only [List.getElem?_toArray, List.getElem?_cons_succ, List.getElem?_cons_zero] <;> rfl) (by rfl) (by kernel_rfl) (by kernel_rfl) (by kernel_rfl) (fun _ _ _ h => h) (by rfl) (by kernel_rfl) ?_ ?_
  rotate_left
  · ((intro u hu); have k18 := (hP.kb hu (by simp)).cell (i := 18) (v := .slice A n cap) rfl; have l0 := (hLB.kb hu (by simp)).cell (i := 0) (v := .int .i64 sz) rfl; have l2 := (hLB.kb hu (by simp)).cell (i := 2) (v := .func (.func fn) #[] #[]) rfl; go_simp; try with_reducible rfl)
  try simp only [Act.put, List.setIfInBounds_toArray, List.set_cons_zero, List.set_cons_succ]
  refine wb_pure (i := 12) (d := some 22) (v := ?_) (by simp only [List.getElem?_toArray, List.getElem?_cons_succ, List.getElem?_cons_zero] <;> rfl) (by rfl) (by kernel_rfl) (by kernel_rfl) (by kernel_rfl) (fun _ _ _ h => h) (by rfl) ?_ ?_
  rotate_left
  · ((intro u); go_simp; try with_reducible rfl)
  try simp only [Act.put, List.setIfInBounds_toArray, List.set_cons_zero, List.set_cons_succ]
  refine wb_pure (i := 13) (d := some 23) (v := ?_) (by simp only [List.getElem?_toArray, List.getElem?_cons_succ, List.getElem?_cons_zero] <;> rfl) (by rfl) (by kernel_rfl) (by kernel_rfl) (by kernel_rfl) (fun _ _ _ h => h) (by rfl) ?_ ?_
  rotate_left
  · ((intro u); go_simp; try with_reducible rfl)
  try simp only [Act.put, List.setIfInBounds_toArray, List.set_cons_zero, List.set_cons_succ]
  refine wb_pure (i := 14) (d := some 24) (v := ?_) (by simp only [List.getElem?_toArray, List.getElem?_cons_succ, List.getElem?_cons_zero] <;> rfl) (by rfl) (by kernel_rfl) (by kernel_rfl) (by kernel_rfl) (fun _ _ _ h => h) (by rfl) ?_ ?_
  rotate_left
  · ((intro u); go_simp; try with_reducible rfl)
  try simp only [Act.put, List.setIfInBounds_toArray, List.set_cons_zero, List.set_cons_succ]
  refine wb_take (i := 15) (d := some 25) (v := ?_) (by simp only [List.getElem?_toArray, List.getElem?_cons_succ, List.getElem?_cons_zero] <;> rfl) (by rfl) (by kernel_rfl) (by kernel_rfl) (by kernel_rfl) (fun _ _ _ h => h) (by rfl) (by kernel_rfl) ?_ ?_
  rotate_left
  · ((intro u hu); have k18 := (hP.kb hu (by simp)).cell (i := 18) (v := .slice A n cap) rfl; have l0 := (hLB.kb hu (by simp)).cell (i := 0) (v := .int .i64 sz) rfl; have l2 := (hLB.kb hu (by simp)).cell (i := 2) (v := .func (.func fn) #[] #[]) rfl; go_simp; try with_reducible rfl)
  try simp only [Act.put, List.setIfInBounds_toArray, List.set_cons_zero, List.set_cons_succ]
  refine wb_one (i := 9) (by simp only [List.getElem?_toArray, List.getElem?_cons_succ, List.getElem?_cons_zero] <;> rfl) (by kernel_rfl) (by rfl) (fun K hK => ?_)
  go_simp
  refine hK.out _ _ (Kb.refl _ _) ?_
  clear hK K
  try simp only [Act.put, List.setIfInBounds_toArray, List.set_cons_zero, List.set_cons_succ]
  refine wb_pure (i := 10) (d := some 20) (v := ?_) (by simp only [List.getElem?_toArray, List.getElem?_cons_succ, List.getElem?_cons_zero] <;> rfl) (by rfl) (by kernel_rfl) (by kernel_rfl) (by kernel_rfl) (fun _ _ _ h => h) (by rfl) ?_ ?_
  rotate_left
  · ((intro u); go_simp; try with_reducible rfl)
  try simp only [Act.put, List.setIfInBounds_toArray, List.set_cons_zero, List.set_cons_succ]
  refine wb_one (i := 11) (by simp only [List.getElem?_toArray, List.getElem?_cons_succ, List.getElem?_cons_zero] <;> rfl) (by kernel_rfl) (by rfl) (fun K hK => ?_)
  go_simp
  have hlt := hLB.lt
  refine (HW.out _ hP).mono ?_
  rintro e u11 ⟨v11, rfl, o11, hv11⟩
  refine hK.out _ _ (Kb.two hv11 (by omega) (by omega)) ?_
  replace hP := hP.below hv11
  replace hLB := hLB.below hv11
  replace hw := hw.trans (hv11.mono hw.size)
  replace o11 := o11.mono (B := lb + 1) hlt
  clear hK K hv11 hlt
  try simp only [Act.put, List.setIfInBounds_toArray, List.set_cons_zero, List.set_cons_succ]
  refine wb_one (i := 16) (by simp only [List.getElem?_toArray, List.getElem?_cons_succ, List.getElem?_cons_zero] <;> rfl) (by kernel_rfl) (by rfl) (fun K hK => ?_)
  have hlt := hLB.lt
  refine wp_append_slB _ _ rfl (lb + 1) _ hz rfl o11 A n cap pl rfl (hS.out.below hw) hA.out (by rw [hzl.out]; omega) hlt ?_
  intro v16 u16 o16 hg16
  have hv16 := own_next hg16 o11 hlt
  refine hK.out _ _ (Kb.two hv16 (by omega) (by omega)) ?_
  replace hP := hP.upB (by omega) hv16
  replace hLB := hLB.upB (Nat.lt_succ_self _) hv16
  replace hw := hw.trans (hv16.mono (by omega))
  clear hK K hv16 hg16 hlt o11
  try simp only [Act.put, List.setIfInBounds_toArray, List.set_cons_zero, List.set_cons_succ]
  refine wb_pure (i := 17) (d := some 4) (v := ?_) (by simp only [List.getElem?_toArray, List.getElem?_cons_succ, List.getElem?_cons_zero] <;> rfl) (by rfl) (by kernel_rfl) (by kernel_rfl) (by kernel_rfl) (fun _ _ _ h => h) (by rfl) ?_ ?_
  rotate_left
  · ((intro u); go_simp; try with_reducible rfl)
  try simp only [Act.put, List.setIfInBounds_toArray, List.set_cons_zero, List.set_cons_succ]
  refine wb_done (by kernel_rfl) ?_ _
  skip
  obtain ⟨pt, hpt⟩ : ∃ pt, pt = hz ++ pl := ⟨_, rfl⟩
  rw [← hpt] at o16 hptb hptl ⊢
  try rw [← hpt]
  obtain ⟨g16, c16, rfl, hS16⟩ := o16.form (by have := hptl.out; omega)
  have hmn : Hid (pt.length = sz + n) := hptl
  replace hS16 := Lib.hid hS16
  replace o16 := Lib.hid o16
  replace hpt := Lib.hid hpt
  clear hptl hl hzl wsum hS hA
  go_wp2_with fail
  refine wb_begin ([pb, lb]) [] (by kernel_rfl) (fun u0 hb0' hz0' => ?_)
  replace hP := hP.below hb0'
  replace hLB := hLB.below hb0'
  replace hw := hw.trans (hb0'.mono hw.size)
  replace o16 := Lib.hid (o16.out.below hb0')
  replace hS16 := Lib.hid (hS16.out.below hb0')
  clear hb0' hz0'
  refine wb_pure (i := 0) (d := some 27) (v := ?_) (by simp only [List.getElem?_toArray, List.getElem?_cons_succ, List.getElem?_cons_zero] <;> rfl) (by rfl) (by kernel_rfl) (by kernel_rfl) (by kernel_rfl) (fun _ _ _ h => h) (by rfl) ?_ ?_
  rotate_left
  · ((intro u); go_simp; try with_reducible rfl)
  try simp only [Act.put, List.setIfInBounds_toArray, List.set_cons_zero, List.set_cons_succ]
  refine wb_pure (i := 1) (d := some 28) (v := ?_) (by simp only [List.getElem?_toArray, List.getElem?_cons_succ, List.getElem?_cons_zero] <;> rfl) (by rfl) (by kernel_rfl) (by kernel_rfl) (by kernel_rfl) (fun _ _ _ h => h) (by rfl) ?_ ?_
  rotate_left
  · ((intro u); go_simp; try with_reducible rfl)
  try simp only [Act.put, List.setIfInBounds_toArray, List.set_cons_zero, List.set_cons_succ]
  refine wb_take (i := 2) (d := some 29) (v := ?_) (by simp only [List.getElem?_toArray, List.getElem?_cons_succ, List.getElem?_cons_zero] <;> rfl) (by rfl) (by kernel_rfl) (by kernel_rfl) (by kernel_rfl) (fun _ _ _ h => h) (by rfl) (by kernel_rfl) ?_ ?_
  rotate_left
  · ((intro u hu); have l1 := (hLB.kb hu (by simp)).cell (i := 1) (v := .int .i64 at') rfl; go_simp; try with_reducible rfl)
  try simp only [Act.put, List.setIfInBounds_toArray, List.set_cons_zero, List.set_cons_succ]
  refine wb_pure (i := 3) (d := some 30) (v := ?_) (by simp only [List.getElem?_toArray, List.getElem?_cons_succ, List.getElem?_cons_zero] <;> rfl) (by rfl) (by kernel_rfl) (by kernel_rfl) (by kernel_rfl) (fun _ _ _ h => h) (by rfl) ?_ ?_
  rotate_left
  · ((intro u); go_simp; try with_reducible rfl)
  try simp only [Act.put, List.setIfInBounds_toArray, List.set_cons_zero, List.set_cons_succ]
  refine wb_pure (i := 4) (d := some 31) (v := ?_) (by simp only [List.getElem?_toArray, List.getElem?_cons_succ, List.getElem?_cons_zero] <;> rfl) (by rfl) (by kernel_rfl) (by kernel_rfl) (by kernel_rfl) (fun _ _ _ h => h) (by rfl) ?_ ?_
  rotate_left
  · ((intro u); go_simp; try with_reducible rfl)
  try simp only [Act.put, List.setIfInBounds_toArray, List.set_cons_zero, List.set_cons_succ]
  refine wb_one (i := 5) (by simp only [List.getElem?_toArray, List.getElem?_cons_succ, List.getElem?_cons_zero] <;> rfl) (by kernel_rfl) (by rfl) (fun K hK => ?_)
  go_simp
  have hlt := hLB.lt
  refine (sumOf_any q _ pb _ pt.length c16 pt _ hP hq.out hS16.out (fun h => by cases h) (by have := hmn.out; omega) (by have := hmn.out; omega) hptb.out).mono ?_
  rintro e u5 ⟨rfl, hv5⟩
  refine hK.out _ _ (Kb.two hv5 (by omega) (by omega)) ?_
  replace hP := hP.below hv5
  replace hLB := hLB.below hv5
  replace hw := hw.trans (hv5.mono hw.size)
  replace o16 := Lib.hid (o16.out.below hv5)
  clear hK K hv5 hlt
  try simp only [Act.put, List.setIfInBounds_toArray, List.set_cons_zero, List.set_cons_succ]
  refine wb_one (i := 6) (by simp only [List.getElem?_toArray, List.getElem?_cons_succ, List.getElem?_cons_zero] <;> rfl) (by kernel_rfl) (by rfl) (fun K hK => ?_)
  go_simp
  have hlt := hLB.lt
  refine (putSum_any (lb + 1) g16 c16 pt.length at' pt (sumF q pt) _ o16.out (by have := hmn.out; omega) (sumF_in q pt).1 (sumF_in q pt).2 hlt).mono ?_
  rintro e u6 ⟨rfl, o6, hv6⟩
  refine hK.out _ _ (Kb.two hv6 (by omega) (by omega)) ?_
  replace hw := hw.trans (hv6.mono (by omega))
  clear hK K hv6 hlt
  try simp only [Act.put, List.setIfInBounds_toArray, List.set_cons_zero, List.set_cons_succ]
  refine wb_done (by kernel_rfl) ?_ _
  skip
  go_wp2_with fail
  go_ret
  exact ⟨_, rfl, by first | exact o6.mono (B := w.heap.size) (by omega) | (rw [← hpt.out]; exact o6.mono (B := w.heap.size) (by omega)), hw⟩
theorem cf70 (args : Array Value) (w' : World) : (callFunc 58 args).run Tryz.prog w' = .ok (.enter 58 args) w' := by go_simp
theorem cf72 (args : Array Value) (w' : World) : (callFunc 60 args).run Tryz.prog w' = .ok (.enter 60 args) w' := by go_simp
theorem cf74 (args : Array Value) (w' : World) : (callFunc 62 args).run Tryz.prog w' = .ok (.enter 62 args) w' := by go_simp
end Go.Proofs.YtijlahgmnpnmfaaGreatDoor
