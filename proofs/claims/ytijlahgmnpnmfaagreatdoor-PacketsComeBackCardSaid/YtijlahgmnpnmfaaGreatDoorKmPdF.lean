/- Packets that are read: equal bytes. -/
import Derived.Test.YtijlahgmnpnmfaaGreatDoorKmPdD
import Derived.Laws.IdiomStrings
namespace Go.Proofs.YtijlahgmnpnmfaaGreatDoor
open Go.RowKit
set_option linter.unusedVariables false
set_option linter.unusedSimpArgs false

theorem Own.sln {B n : Nat} {w : World} {v : Value} {bs : List Nat} (h : Own B w v bs) (hn : bs.length = n) : ∃ A cap, v = .slice A n cap ∧ SlB w A n cap bs ∧ (A = none → cap = 0) := by
  subst hn; exact h.sl
theorem SlB.head {w : World} {g off n cap : Nat} {bs : List Nat} (h : SlB w (some ⟨g, off, none⟩) n cap bs) (k : Nat) (hk : k ≤ n) : SlB w (some ⟨g, off, none⟩) k cap (bs.take k) := by
  have := h.part 0 k cap (by omega) (by have := h.2.1; omega)
  rwa [List.drop_zero] at this
theorem byt_splice {bs gs : List Nat} (h : Byt bs) (k : Byt gs) (i : Nat) : Byt (splice bs i gs) := by
  unfold splice
  exact Byt.app (fun b hb => h b (List.mem_of_mem_take hb)) (Byt.app k (fun b hb => h b (List.mem_of_mem_drop hb)))
theorem byt_00 : Byt [0, 0] := by intro b hb; simp at hb; omega
theorem nb_sub0 (bs : List Nat) (i k m : Nat) (h : m ≤ k) : nb ((bs.drop i).take k) 0 m = nb bs i m := by
  unfold nb; rw [List.drop_zero, List.take_take, Nat.min_eq_left h]
theorem nb_sub8 (bs : List Nat) (i : Nat) : nb ((bs.drop i).take 16) 8 8 = nb bs (i + 8) 8 := by
  unfold nb; rw [List.drop_take, List.drop_drop, List.take_take]; rfl
theorem fourE_sum {bs : List Nat} (h : ¬ sumR (splice (bs.take 20) 10 [0, 0]) = (nb bs 10 2 : Int)) : fourE bs = 15 := if_pos h
theorem fourE_form {bs : List Nat} (h : sumR (splice (bs.take 20) 10 [0, 0]) = (nb bs 10 2 : Int)) (k : nb bs 2 2 ≠ bs.length ∨ bs.getD 1 0 ≠ 0 ∨ nb bs 4 4 ≠ 0) : fourE bs = 3 := by
  unfold fourE; rw [if_neg (fun x => x h), if_pos k]
theorem fourE_kind {bs : List Nat} (h : sumR (splice (bs.take 20) 10 [0, 0]) = (nb bs 10 2 : Int)) (k : ¬ (nb bs 2 2 ≠ bs.length ∨ bs.getD 1 0 ≠ 0 ∨ nb bs 4 4 ≠ 0)) : fourE bs = if protoN false (bs.getD 9 0) = 0 then 4 else 0 := by
  unfold fourE; rw [if_neg (fun x => x h), if_neg k]
theorem sixE_form {bs : List Nat} (k : bs.length < 40 ∨ (nb bs 4 2 : Int) ≠ bs.length - 40 ∨ nb bs 1 3 ≠ 0) : sixE bs = 3 := if_pos k
theorem sixE_kind {bs : List Nat} (k : ¬ (bs.length < 40 ∨ (nb bs 4 2 : Int) ≠ bs.length - 40 ∨ nb bs 1 3 ≠ 0)) : sixE bs = if protoN true (bs.getD 6 0) = 0 then 4 else 0 := if_neg k

set_option maxHeartbeats 2000000 in
set_option maxRecDepth 100000 in
theorem carried_any (q : Pk) (v : Value) (pb c h : Nat) (w : World) (hX : Blk w pb (pkL q v) 31) (hc : c < 256) (hh : h < 256) :
    Calls Tryz.prog 44 #[.int .u8 c, .int .u8 h, .pointer (some ⟨pb, 0, none⟩)] w fun e w' => ∃ q' ev, e = .returned (.int .i64 ev) ∧ Hid (ev = if protoN q.fs c = 0 then 4 else 0) ∧ RdP w pb q' v w' ∧ (¬ protoN q.fs c = 0 → q' = { q with proto := protoN q.fs c, hops := h }) := by
  have HP := Lib.hid (protoOf_any c q.fs w hc)
  have c0 := hX.cell (i := 0) (v := .bool q.fs) rfl
  have c6 := hX.cell (i := 6) (v := .int .i64 q.hops) rfl
  have c7 := hX.cell (i := 7) (v := .int .i64 q.proto) rfl
  have f6 := hX.free 6
  have f7 := hX.free 7
  replace hX := Lib.hid (RdP.refl hX)
  obtain ⟨y, hy⟩ : ∃ y : Int, y = h := ⟨_, rfl⟩
  have hwy : IntKind.i64.wrap y = y := by rw [IntKind.wrap_i64]; omega
  rw [← hy]
  clear hy hh hc
  generalize protoN q.fs c = N at HP ⊢
  by_cases hN : N = 0
  · have hd : decide (N = 0) = true := decide_eq_true hN
    rw [hd] at HP
    rw [if_pos hN]
    clear hd
    replace hN := Lib.hid hN
    go_enter Tryz.func44, Tryz.ntmps44
    go_wp2_with fail
    refine HP.out.mono ?_
    rintro e w1 ⟨rfl, rfl⟩
    go_wp2_with fail
    go_ret
    exact ⟨q, 4, rfl, Lib.hid rfl, hX.out, fun h => absurd hN.out h⟩
  · have hd : decide (N = 0) = false := decide_eq_false hN
    rw [hd] at HP
    rw [if_neg hN]
    clear hd
    replace hN := Lib.hid hN
    go_enter Tryz.func44, Tryz.ntmps44
    go_wp2_with fail
    refine HP.out.mono ?_
    rintro e w1 ⟨rfl, rfl⟩
    go_wp2_with fail
    go_ret
    exact ⟨{ q with proto := N, hops := y }, 0, rfl, Lib.hid rfl, (hX.out.set (q' := { q with proto := N }) 7 (.int .i64 N) rfl).set 6 (.int .i64 y) rfl, fun _ => rfl⟩

set_option maxHeartbeats 4000000 in
set_option maxRecDepth 100000 in
theorem readFour_any (q : Pk) (v : Value) (pb g off n cap : Nat) (bs : List Nat) (w : World) (hX : Blk w pb (pkL q v) 31) (hS : SlB w (some ⟨g, off, none⟩) n cap bs) (hne : g ≠ pb) (hn : 20 ≤ n) (hn2 : n ≤ 1000) (hb : Byt bs) :
    Calls Tryz.prog 19 #[.slice (some ⟨g, off, none⟩) n cap, .pointer (some ⟨pb, 0, none⟩)] w fun e w' => ∃ q', e = .returned (.int .i64 (fourE bs)) ∧ RdP w pb q' v w' ∧ (fourE bs = 0 → q' = { q with fs := false, fh := 0, fl := nb bs 12 4, ts := false, th := 0, tl := nb bs 16 4, proto := protoN false (bs.getD 9 0), hops := (bs.getD 8 0 : Nat) }) := by
  have hcap := hS.2.1
  have hl := Lib.hid hS.len
  have h20 : (20 : Int) ≤ cap := by omega
  have h12 : (12 : Int) ≤ cap := by omega
  have h4 : (4 : Int) ≤ cap := by omega
  have h8 : (8 : Int) ≤ cap := by omega
  have h16 : (16 : Int) ≤ cap := by omega
  have z10 : ¬ cap = 10 := by omega
  have z2 : ¬ cap = 2 := by omega
  have z4 : ¬ cap = 4 := by omega
  have z12 : ¬ cap = 12 := by omega
  have z16 : ¬ cap = 16 := by omega
  have n1 : (1 : Int) < n := by omega
  have n8 : (8 : Int) < n := by omega
  have n9 : (9 : Int) < n := by omega
  have m1 : 1 < n := by omega
  have m8 : 8 < n := by omega
  have m9 : 9 < n := by omega
  obtain ⟨hd, hhd⟩ : ∃ hd, hd = splice (bs.take 20) 10 [0, 0] := ⟨_, rfl⟩
  have hhl : Hid (hd.length = 20) := Lib.hid (by rw [hhd, splice_len' _ _ _ (by simp; have := hl.out; omega)]; simp; have := hl.out; omega)
  have hhb : Hid (Byt hd) := Lib.hid (by rw [hhd]; exact byt_splice (fun b hb' => hb b (List.mem_of_mem_take hb')) byt_00 _)
  have hE1 := Lib.hid (fourE_sum (bs := bs))
  have hE2 := Lib.hid (fourE_form (bs := bs))
  have hE3 := Lib.hid (fourE_kind (bs := bs))
  rw [← hhd] at hE1 hE2 hE3
  replace hhd := Lib.hid hhd
  replace hX := Lib.hid (RdP.refl hX)
  replace hS := Lib.hid hS
  replace hb := Lib.hid hb
  go_enter Tryz.func19, Tryz.ntmps19
  go_wp2_with fail
  refine wb_begin ([]) [] (by kernel_rfl) (fun u0 hb0' hz0' => ?_)
  replace hS := Lib.hid (hS.out.below hb0')
  replace hX := Lib.hid (hX.out.below hb0')
  clear hb0' hz0'
  refine wb_pure (i := 0) (d := some 8) (v := ?_) (by simp only [List.getElem?_toArray, List.getElem?_cons_succ, List.getElem?_cons_zero] <;> rfl) (by rfl) (by kernel_rfl) (by kernel_rfl) (by kernel_rfl) (fun _ _ _ h => h) (by rfl) ?_ ?_
  rotate_left
  · ((intro u); go_simp; try with_reducible rfl)
  try simp only [Act.put, List.setIfInBounds_toArray, List.set_cons_zero, List.set_cons_succ]
  refine wb_pure (i := 3) (d := some 11) (v := ?_) (by simp only [List.getElem?_toArray, List.getElem?_cons_succ, List.getElem?_cons_zero] <;> rfl) (by rfl) (by kernel_rfl) (by kernel_rfl) (by kernel_rfl) (fun _ _ _ h => h) (by rfl) ?_ ?_
  rotate_left
  · ((intro u); go_simp; try with_reducible rfl)
  try simp only [Act.put, List.setIfInBounds_toArray, List.set_cons_zero, List.set_cons_succ]
  refine wb_pure (i := 4) (d := some 12) (v := ?_) (by simp only [List.getElem?_toArray, List.getElem?_cons_succ, List.getElem?_cons_zero] <;> rfl) (by rfl) (by kernel_rfl) (by kernel_rfl) (by kernel_rfl) (fun _ _ _ h => h) (by rfl) ?_ ?_
  rotate_left
  · ((intro u); go_simp; try with_reducible rfl)
  try simp only [Act.put, List.setIfInBounds_toArray, List.set_cons_zero, List.set_cons_succ]
  refine wb_one (i := 1) (by simp only [List.getElem?_toArray, List.getElem?_cons_succ, List.getElem?_cons_zero] <;> rfl) (by kernel_rfl) (by rfl) (fun K hK => ?_)
  go_simp
  refine (withoutSum_any _ 20 cap 10 (bs.take 20) _ (SlB.head hS.out 20 (by omega)) (by omega) (by omega)).mono ?_
  rw [← hhd.out]
  rintro e u1 ⟨v1, rfl, o1, hv1⟩
  obtain ⟨A1, c1, rfl, hS1, hA1⟩ := o1.sln hhl.out
  replace hS1 := Lib.hid hS1
  refine hK.out _ _ (fun p hp => by cases hp) ?_
  clear o1 hA1
  replace hS := Lib.hid (hS.out.below hv1)
  replace hX := Lib.hid (hX.out.below hv1)
  clear hK K hv1
  try simp only [Act.put, List.setIfInBounds_toArray, List.set_cons_zero, List.set_cons_succ]
  refine wb_one (i := 2) (by simp only [List.getElem?_toArray, List.getElem?_cons_succ, List.getElem?_cons_zero] <;> rfl) (by kernel_rfl) (by rfl) (fun K hK => ?_)
  go_simp
  refine (sum_any A1 20 c1 hd _ hS1.out (by omega) hhb.out).mono ?_
  rintro e u2 ⟨rfl, hv2⟩
  refine hK.out _ _ (fun p hp => by cases hp) ?_
  replace hS := Lib.hid (hS.out.below hv2)
  replace hX := Lib.hid (hX.out.below hv2)
  clear hK K hv2
  try simp only [Act.put, List.setIfInBounds_toArray, List.set_cons_zero, List.set_cons_succ]
  refine wb_one (i := 5) (by simp only [List.getElem?_toArray, List.getElem?_cons_succ, List.getElem?_cons_zero] <;> rfl) (by kernel_rfl) (by rfl) (fun K hK => ?_)
  go_simp
  refine (int_part _ _ _ _ _ bs _ hS.out 10 2 (by omega) (by omega) (by omega) hb.out).mono ?_
  rintro e u5 ⟨rfl, hv5⟩
  refine hK.out _ _ (fun p hp => by cases hp) ?_
  replace hS := Lib.hid (hS.out.below hv5)
  replace hX := Lib.hid (hX.out.below hv5)
  try replace hS1 := Lib.hid (hS1.out.below hv5)
  clear hK K hv5
  try simp only [Act.put, List.setIfInBounds_toArray, List.set_cons_zero, List.set_cons_succ]
  refine wb_pure (i := 6) (d := some 14) (v := ?_) (by simp only [List.getElem?_toArray, List.getElem?_cons_succ, List.getElem?_cons_zero] <;> rfl) (by rfl) (by kernel_rfl) (by kernel_rfl) (by kernel_rfl) (fun _ _ _ h => h) (by rfl) ?_ ?_
  rotate_left
  · ((intro u); go_simp; try with_reducible rfl)
  try simp only [Act.put, List.setIfInBounds_toArray, List.set_cons_zero, List.set_cons_succ]
  refine wb_done (by kernel_rfl) ?_ _
  generalize sumR hd = S at hE1 hE2 hE3 ⊢
  by_cases hs : S = (nb bs 10 2 : Int)
  · replace hE2 := Lib.hid (hE2.out hs)
    replace hE3 := Lib.hid (hE3.out hs)
    clear hE1
    go_wp2_with fail
    refine (int_part _ _ _ _ _ bs _ hS.out 2 2 (by omega) (by omega) (by omega) hb.out).mono ?_
    rintro e w1 ⟨rfl, hv1⟩
    replace hS := Lib.hid (hS.out.below hv1)
    replace hX := Lib.hid (hX.out.below hv1)
    clear hv1
    obtain ⟨c1, hgl⟩ := hS.out.byte 1 (by omega)
    obtain ⟨X2, hX2⟩ : ∃ X : Int, X = (nb bs 2 2 : Nat) := ⟨_, rfl⟩
    rw [← hX2]
    replace hX2 := Lib.hid hX2
    obtain ⟨x1, hx1⟩ : ∃ x : Int, x = (bs.getD 1 0 : Nat) := ⟨_, rfl⟩
    rw [← hx1] at c1
    replace hx1 := Lib.hid hx1
    by_cases k1 : X2 = n
    · have k1' := Lib.hid (show nb bs 2 2 = bs.length by have := hX2.out; have := hl.out; omega)
      subst k1
      by_cases k2 : x1 = 0
      · have k2' := Lib.hid (show bs.getD 1 0 = 0 by have := hx1.out; omega)
        subst k2
        by_cases k3 : nb bs 4 4 = 0
        · have HZ := Lib.hid (isZero_any _ 4 (cap - 4) _ _ (hS.out.part 4 4 (cap - 4) (by omega) (by omega)) (by omega) (hb.out.sub 4 4))
          rw [decide_eq_true (show numF ((bs.drop 4).take 4) = 0 from k3)] at HZ
          have hE := Lib.hid (hE3.out (by rintro (h | h | h); exact h k1'.out; exact h k2'.out; exact h k3))
          clear hE2 hE3 k3
          go_wp2_with fail
          refine HZ.out.mono ?_
          rintro e w2 ⟨rfl, rfl⟩
          clear HZ c1 hgl
          go_wp2_with fail
          refine wb_begin ([]) [] (by kernel_rfl) (fun u0 hb0' hz0' => ?_)
          replace hS := Lib.hid (hS.out.below hb0')
          replace hX := Lib.hid (hX.out.below hb0')
          clear hb0' hz0'
          refine wb_pure (i := 0) (d := some 33) (v := ?_) (by simp only [List.getElem?_toArray, List.getElem?_cons_succ, List.getElem?_cons_zero] <;> rfl) (by rfl) (by kernel_rfl) (by kernel_rfl) (by kernel_rfl) (fun _ _ _ h => h) (by rfl) ?_ ?_
          rotate_left
          · ((intro u); go_simp; try with_reducible rfl)
          try simp only [Act.put, List.setIfInBounds_toArray, List.set_cons_zero, List.set_cons_succ]
          refine wb_pure (i := 1) (d := some 34) (v := ?_) (by simp only [List.getElem?_toArray, List.getElem?_cons_succ, List.getElem?_cons_zero] <;> rfl) (by rfl) (by kernel_rfl) (by kernel_rfl) (by kernel_rfl) (fun _ _ _ h => h) (by rfl) ?_ ?_
          rotate_left
          · ((intro u); go_simp; try with_reducible rfl)
          try simp only [Act.put, List.setIfInBounds_toArray, List.set_cons_zero, List.set_cons_succ]
          refine wb_pure (i := 2) (d := some 35) (v := ?_) (by simp only [List.getElem?_toArray, List.getElem?_cons_succ, List.getElem?_cons_zero] <;> rfl) (by rfl) (by kernel_rfl) (by kernel_rfl) (by kernel_rfl) (fun _ _ _ h => h) (by rfl) ?_ ?_
          rotate_left
          · ((intro u); go_simp; try with_reducible rfl)
          try simp only [Act.put, List.setIfInBounds_toArray, List.set_cons_zero, List.set_cons_succ]
          refine wb_pure (i := 3) (d := some 36) (v := ?_) (by simp only [List.getElem?_toArray, List.getElem?_cons_succ, List.getElem?_cons_zero] <;> rfl) (by rfl) (by kernel_rfl) (by kernel_rfl) (by kernel_rfl) (fun _ _ _ h => h) (by rfl) ?_ ?_
          rotate_left
          · ((intro u); go_simp; try with_reducible rfl)
          try simp only [Act.put, List.setIfInBounds_toArray, List.set_cons_zero, List.set_cons_succ]
          refine wb_pure (i := 5) (d := some 38) (v := ?_) (by simp only [List.getElem?_toArray, List.getElem?_cons_succ, List.getElem?_cons_zero] <;> rfl) (by rfl) (by kernel_rfl) (by kernel_rfl) (by kernel_rfl) (fun _ _ _ h => h) (by rfl) ?_ ?_
          rotate_left
          · ((intro u); go_simp; try with_reducible rfl)
          try simp only [Act.put, List.setIfInBounds_toArray, List.set_cons_zero, List.set_cons_succ]
          refine wb_pure (i := 6) (d := some 39) (v := ?_) (by simp only [List.getElem?_toArray, List.getElem?_cons_succ, List.getElem?_cons_zero] <;> rfl) (by rfl) (by kernel_rfl) (by kernel_rfl) (by kernel_rfl) (fun _ _ _ h => h) (by rfl) ?_ ?_
          rotate_left
          · ((intro u); go_simp; try with_reducible rfl)
          try simp only [Act.put, List.setIfInBounds_toArray, List.set_cons_zero, List.set_cons_succ]
          refine wb_one (i := 4) (by simp only [List.getElem?_toArray, List.getElem?_cons_succ, List.getElem?_cons_zero] <;> rfl) (by kernel_rfl) (by rfl) (fun K hK => ?_)
          go_simp
          refine (addr4_any _ _ ((bs.drop 12).take 4) _ (hS.out.part 12 4 _ (by omega) (by omega)) (hb.out.sub 12 4)).mono ?_
          rintro e u4 ⟨rfl, hv4⟩
          refine hK.out _ _ (fun p hp => by cases hp) ?_
          replace hS := Lib.hid (hS.out.below hv4)
          replace hX := Lib.hid (hX.out.below hv4)
          clear hK K hv4
          try simp only [Act.put, List.setIfInBounds_toArray, List.set_cons_zero, List.set_cons_succ]
          refine wb_one (i := 7) (by simp only [List.getElem?_toArray, List.getElem?_cons_succ, List.getElem?_cons_zero] <;> rfl) (by kernel_rfl) (by rfl) (fun K hK => ?_)
          go_simp
          refine (addr4_any _ _ ((bs.drop 16).take 4) _ (hS.out.part 16 4 _ (by omega) (by omega)) (hb.out.sub 16 4)).mono ?_
          rintro e u7 ⟨rfl, hv7⟩
          refine hK.out _ _ (fun p hp => by cases hp) ?_
          replace hS := Lib.hid (hS.out.below hv7)
          replace hX := Lib.hid (hX.out.below hv7)
          clear hK K hv7
          try simp only [Act.put, List.setIfInBounds_toArray, List.set_cons_zero, List.set_cons_succ]
          refine wb_pure (i := 8) (d := some 41) (v := ?_) (by simp only [List.getElem?_toArray, List.getElem?_cons_succ, List.getElem?_cons_zero] <;> rfl) (by rfl) (by kernel_rfl) (by kernel_rfl) (by kernel_rfl) (fun _ _ _ h => h) (by rfl) ?_ ?_
          rotate_left
          · ((intro u); go_simp; try with_reducible rfl)
          try simp only [Act.put, List.setIfInBounds_toArray, List.set_cons_zero, List.set_cons_succ]
          refine wb_pure (i := 9) (d := some 42) (v := ?_) (by simp only [List.getElem?_toArray, List.getElem?_cons_succ, List.getElem?_cons_zero] <;> rfl) (by rfl) (by kernel_rfl) (by kernel_rfl) (by kernel_rfl) (fun _ _ _ h => h) (by rfl) ?_ ?_
          rotate_left
          · ((intro u); go_simp; try with_reducible rfl)
          try simp only [Act.put, List.setIfInBounds_toArray, List.set_cons_zero, List.set_cons_succ]
          refine wb_one (i := 10) (by simp only [List.getElem?_toArray, List.getElem?_cons_succ, List.getElem?_cons_zero] <;> rfl) (by kernel_rfl) (by rfl) (fun K hK => ?_)
          have f0 := hX.out.blk.free 0
          have c0 := hX.out.blk.cell (i := 0) rfl
          have f1 := hX.out.blk.free 1
          have c1 := hX.out.blk.cell (i := 1) rfl
          have f2 := hX.out.blk.free 2
          have c2 := hX.out.blk.cell (i := 2) rfl
          have f3 := hX.out.blk.free 3
          have c3 := hX.out.blk.cell (i := 3) rfl
          have f4 := hX.out.blk.free 4
          have c4 := hX.out.blk.cell (i := 4) rfl
          have f5 := hX.out.blk.free 5
          have c5 := hX.out.blk.cell (i := 5) rfl
          go_simp
          refine hK.out _ _ (fun p hp => by cases hp) ?_
          replace hX := Lib.hid (((hX.out.set (q' := { q with fs := false }) 0 (.bool false) rfl).set (q' := { q with fs := false, fh := 0 }) 1 (.int .u64 0) rfl).set (q' := { q with fs := false, fh := 0, fl := nb bs 12 4 }) 2 (.int .u64 (nb bs 12 4)) rfl)
          replace hS := Lib.hid (((hS.out.setPk hne 0 (.bool false)).setPk hne 1 (.int .u64 0)).setPk hne 2 (.int .u64 (nb bs 12 4)))
          clear hK K f0 c0 f1 c1 f2 c2
          try simp only [Act.put, List.setIfInBounds_toArray, List.set_cons_zero, List.set_cons_succ]
          refine wb_pure (i := 11) (d := some 43) (v := ?_) (by simp only [List.getElem?_toArray, List.getElem?_cons_succ, List.getElem?_cons_zero] <;> rfl) (by rfl) (by kernel_rfl) (by kernel_rfl) (by kernel_rfl) (fun _ _ _ h => h) (by rfl) ?_ ?_
          rotate_left
          · ((intro u); go_simp; try with_reducible rfl)
          try simp only [Act.put, List.setIfInBounds_toArray, List.set_cons_zero, List.set_cons_succ]
          refine wb_pure (i := 12) (d := some 44) (v := ?_) (by simp only [List.getElem?_toArray, List.getElem?_cons_succ, List.getElem?_cons_zero] <;> rfl) (by rfl) (by kernel_rfl) (by kernel_rfl) (by kernel_rfl) (fun _ _ _ h => h) (by rfl) ?_ ?_
          rotate_left
          · ((intro u); go_simp; try with_reducible rfl)
          try simp only [Act.put, List.setIfInBounds_toArray, List.set_cons_zero, List.set_cons_succ]
          refine wb_one (i := 13) (by simp only [List.getElem?_toArray, List.getElem?_cons_succ, List.getElem?_cons_zero] <;> rfl) (by kernel_rfl) (by rfl) (fun K hK => ?_)
          go_simp
          refine hK.out _ _ (fun p hp => by cases hp) ?_
          replace hX := Lib.hid (((hX.out.set (q' := { q with fs := false, fh := 0, fl := nb bs 12 4, ts := false }) 3 (.bool false) rfl).set (q' := { q with fs := false, fh := 0, fl := nb bs 12 4, ts := false, th := 0 }) 4 (.int .u64 0) rfl).set (q' := { q with fs := false, fh := 0, fl := nb bs 12 4, ts := false, th := 0, tl := nb bs 16 4 }) 5 (.int .u64 (nb bs 16 4)) rfl)
          replace hS := Lib.hid (((hS.out.setPk hne 3 (.bool false)).setPk hne 4 (.int .u64 0)).setPk hne 5 (.int .u64 (nb bs 16 4)))
          clear hK K f3 c3 f4 c4 f5 c5
          try simp only [Act.put, List.setIfInBounds_toArray, List.set_cons_zero, List.set_cons_succ]
          refine wb_done (by kernel_rfl) ?_ _
          go_wp2_with fail
          refine wb_begin ([g]) [] (by kernel_rfl) (fun u0 hb0' hz0' => ?_)
          replace hS := Lib.hid (hS.out.below hb0')
          replace hX := Lib.hid (hX.out.below hb0')
          clear hb0' hz0'
          obtain ⟨ca, hgl⟩ := hS.out.byte 9 (by omega)
          obtain ⟨cb, _⟩ := hS.out.byte 8 (by omega)
          refine wb_pure (i := 0) (d := some 45) (v := ?_) (by simp only [List.getElem?_toArray, List.getElem?_cons_succ, List.getElem?_cons_zero] <;> rfl) (by rfl) (by kernel_rfl) (by kernel_rfl) (by kernel_rfl) (fun _ _ _ h => h) (by rfl) ?_ ?_
          rotate_left
          · ((intro u); go_simp; try with_reducible rfl)
          try simp only [Act.put, List.setIfInBounds_toArray, List.set_cons_zero, List.set_cons_succ]
          refine wb_pure (i := 1) (d := some 46) (v := ?_) (by simp only [List.getElem?_toArray, List.getElem?_cons_succ, List.getElem?_cons_zero] <;> rfl) (by rfl) (by kernel_rfl) (by kernel_rfl) (by kernel_rfl) (fun _ _ _ h => h) (by rfl) ?_ ?_
          rotate_left
          · ((intro u); go_simp; try with_reducible rfl)
          try simp only [Act.put, List.setIfInBounds_toArray, List.set_cons_zero, List.set_cons_succ]
          refine wb_take (i := 2) (d := some 47) (v := ?_) (by simp only [List.getElem?_toArray, List.getElem?_cons_succ, List.getElem?_cons_zero] <;> rfl) (by rfl) (by kernel_rfl) (by kernel_rfl) (by kernel_rfl) (fun _ _ _ h => h) (by rfl) (by kernel_rfl) ?_ ?_
          rotate_left
          · ((intro u hu); have k6 := Kb.cellB hu (by simp) ca; have k7 := Kb.cellB hu (by simp) cb; go_simp; try with_reducible rfl)
          try simp only [Act.put, List.setIfInBounds_toArray, List.set_cons_zero, List.set_cons_succ]
          refine wb_pure (i := 3) (d := some 48) (v := ?_) (by simp only [List.getElem?_toArray, List.getElem?_cons_succ, List.getElem?_cons_zero] <;> rfl) (by rfl) (by kernel_rfl) (by kernel_rfl) (by kernel_rfl) (fun _ _ _ h => h) (by rfl) ?_ ?_
          rotate_left
          · ((intro u); go_simp; try with_reducible rfl)
          try simp only [Act.put, List.setIfInBounds_toArray, List.set_cons_zero, List.set_cons_succ]
          refine wb_pure (i := 4) (d := some 49) (v := ?_) (by simp only [List.getElem?_toArray, List.getElem?_cons_succ, List.getElem?_cons_zero] <;> rfl) (by rfl) (by kernel_rfl) (by kernel_rfl) (by kernel_rfl) (fun _ _ _ h => h) (by rfl) ?_ ?_
          rotate_left
          · ((intro u); go_simp; try with_reducible rfl)
          try simp only [Act.put, List.setIfInBounds_toArray, List.set_cons_zero, List.set_cons_succ]
          refine wb_take (i := 5) (d := some 50) (v := ?_) (by simp only [List.getElem?_toArray, List.getElem?_cons_succ, List.getElem?_cons_zero] <;> rfl) (by rfl) (by kernel_rfl) (by kernel_rfl) (by kernel_rfl) (fun _ _ _ h => h) (by rfl) (by kernel_rfl) ?_ ?_
          rotate_left
          · ((intro u hu); have k6 := Kb.cellB hu (by simp) ca; have k7 := Kb.cellB hu (by simp) cb; go_simp; try with_reducible rfl)
          try simp only [Act.put, List.setIfInBounds_toArray, List.set_cons_zero, List.set_cons_succ]
          refine wb_pure (i := 6) (d := some 51) (v := ?_) (by simp only [List.getElem?_toArray, List.getElem?_cons_succ, List.getElem?_cons_zero] <;> rfl) (by rfl) (by kernel_rfl) (by kernel_rfl) (by kernel_rfl) (fun _ _ _ h => h) (by rfl) ?_ ?_
          rotate_left
          · ((intro u); go_simp; try with_reducible rfl)
          try simp only [Act.put, List.setIfInBounds_toArray, List.set_cons_zero, List.set_cons_succ]
          refine wb_one (i := 7) (by simp only [List.getElem?_toArray, List.getElem?_cons_succ, List.getElem?_cons_zero] <;> rfl) (by kernel_rfl) (by rfl) (fun K hK => ?_)
          go_simp
          refine (carried_any { q with fs := false, fh := 0, fl := nb bs 12 4, ts := false, th := 0, tl := nb bs 16 4 } v pb (bs.getD 9 0) (bs.getD 8 0) _ hX.out.blk (hb.out.getD 9) (hb.out.getD 8)).mono ?_
          rintro e w7 ⟨q', ev, rfl, hev, h7, hq7⟩
          refine hK.out _ _ (fun p hp => by simp at hp; subst hp; exact h7.gb.block _ hgl (by intro e; cases e; exact hne rfl)) ?_
          replace hX := Lib.hid (hX.out.trans h7)
          replace hq7 := Lib.hid hq7
          clear hK K h7
          try simp only [Act.put, List.setIfInBounds_toArray, List.set_cons_zero, List.set_cons_succ]
          refine wb_pure (i := 8) (d := some 4) (v := ?_) (by simp only [List.getElem?_toArray, List.getElem?_cons_succ, List.getElem?_cons_zero] <;> rfl) (by rfl) (by kernel_rfl) (by kernel_rfl) (by kernel_rfl) (fun _ _ _ h => h) (by rfl) ?_ ?_
          rotate_left
          · ((intro u); go_simp; try with_reducible rfl)
          try simp only [Act.put, List.setIfInBounds_toArray, List.set_cons_zero, List.set_cons_succ]
          refine wb_done (by kernel_rfl) ?_ _
          clear ca cb hS
          go_wp2_with fail
          go_ret
          exact ⟨by rw [hE.out]; exact congrArg (fun x => Ending.returned (Value.int .i64 x)) hev.out, q', hX.out, fun h => by rw [hE.out] at h; exact hq7.out (fun e => by rw [if_pos (show protoN false (bs.getD 9 0) = 0 from e)] at h; cases h)⟩
        · have HZ := Lib.hid (isZero_any _ 4 (cap - 4) _ _ (hS.out.part 4 4 (cap - 4) (by omega) (by omega)) (by omega) (hb.out.sub 4 4))
          rw [decide_eq_false (show ¬ numF ((bs.drop 4).take 4) = 0 from k3)] at HZ
          have hE := Lib.hid (hE2.out (.inr (.inr k3)))
          clear hE2 hE3 k3
          go_wp2_with fail
          refine HZ.out.mono ?_
          rintro e w2 ⟨rfl, rfl⟩
          go_wp2_with fail
          go_ret
          exact ⟨q, by rw [hE.out]; rfl, hX.out, fun h => by rw [hE.out] at h; cases h⟩
      · have hE := Lib.hid (hE2.out (.inr (.inl (by have := hx1.out; omega))))
        clear hE2 hE3
        go_wp2_with fail
        go_ret
        exact ⟨q, by rw [hE.out]; rfl, hX.out, fun h => by rw [hE.out] at h; cases h⟩
    · have hE := Lib.hid (hE2.out (.inl (by have := hX2.out; have := hl.out; omega)))
      clear hE2 hE3
      go_wp2_with fail
      go_ret
      exact ⟨q, by rw [hE.out]; rfl, hX.out, fun h => by rw [hE.out] at h; cases h⟩
  · have hE := Lib.hid (hE1.out hs)
    clear hE1 hE2 hE3
    go_wp2_with fail
    go_ret
    exact ⟨q, by rw [hE.out]; rfl, hX.out, fun h => by rw [hE.out] at h; cases h⟩
set_option maxHeartbeats 4000000 in
set_option maxRecDepth 100000 in
theorem readSix_any (q : Pk) (v : Value) (pb g off n cap : Nat) (bs : List Nat) (w : World) (hX : Blk w pb (pkL q v) 31) (hS : SlB w (some ⟨g, off, none⟩) n cap bs) (hne : g ≠ pb) (hn : 20 ≤ n) (hn2 : n ≤ 1000) (hb : Byt bs) :
    Calls Tryz.prog 20 #[.slice (some ⟨g, off, none⟩) n cap, .pointer (some ⟨pb, 0, none⟩)] w fun e w' => ∃ q', e = .returned (.int .i64 (sixE bs)) ∧ RdP w pb q' v w' ∧ (sixE bs = 0 → q' = { q with fs := true, fh := nb bs 8 8, fl := nb bs 16 8, ts := true, th := nb bs 24 8, tl := nb bs 32 8, proto := protoN true (bs.getD 6 0), hops := (bs.getD 7 0 : Nat) }) := by
  have hcap := hS.2.1
  have hl := Lib.hid hS.len
  have hE2 := Lib.hid (sixE_form (bs := bs))
  have hE3 := Lib.hid (sixE_kind (bs := bs))
  have hi2 : (n : Int) ≤ 1000 := by omega
  replace hX := Lib.hid (RdP.refl hX)
  replace hS := Lib.hid hS
  replace hb := Lib.hid hb
  by_cases h40 : n < 40
  · have hE := Lib.hid (hE2.out (.inl (by have := hl.out; omega)))
    have h40' : (n : Int) < 40 := by omega
    clear hE2 hE3 hcap hn hn2
    go_enter Tryz.func20, Tryz.ntmps20
    go_wp2_with fail
    go_ret
    exact ⟨q, by rw [hE.out]; rfl, hX.out, fun h => by rw [hE.out] at h; cases h⟩
  have h40' : ¬ (n : Int) < 40 := by omega
  have h40n : 40 ≤ n := by omega
  have h6 : (6 : Int) ≤ cap := by omega
  have h4 : (4 : Int) ≤ cap := by omega
  have h24 : (24 : Int) ≤ cap := by omega
  have h40i : (40 : Int) ≤ cap := by omega
  have z1 : ¬ cap = 1 := by omega
  have z4 : ¬ cap = 4 := by omega
  have z8 : ¬ cap = 8 := by omega
  have z24 : ¬ cap = 24 := by omega
  have n8 : (6 : Int) < n := by omega
  have n9 : (7 : Int) < n := by omega
  have m8 : 6 < n := by omega
  have m9 : 7 < n := by omega
  go_enter Tryz.func20, Tryz.ntmps20
  go_wp2_with fail
  refine (int_part _ _ _ _ _ bs _ hS.out 4 2 (by omega) (by omega) (by omega) hb.out).mono ?_
  rintro e w1 ⟨rfl, hv1⟩
  replace hS := Lib.hid (hS.out.below hv1)
  replace hX := Lib.hid (hX.out.below hv1)
  clear hv1
  obtain ⟨X2, hX2⟩ : ∃ X : Int, X = (nb bs 4 2 : Nat) := ⟨_, rfl⟩
  rw [← hX2]
  replace hX2 := Lib.hid hX2
  by_cases k1 : X2 = (n : Int) - 40
  · have k1' := Lib.hid (show (nb bs 4 2 : Int) = bs.length - 40 by have := hX2.out; have := hl.out; omega)
    subst k1
    by_cases k3 : nb bs 1 3 = 0
    · have HZ := Lib.hid (isZero_any _ 3 (cap - 1) _ _ (hS.out.part 1 3 (cap - 1) (by omega) (by omega)) (by omega) (hb.out.sub 1 3))
      rw [decide_eq_true (show numF ((bs.drop 1).take 3) = 0 from k3)] at HZ
      have hE := Lib.hid (hE3.out (by rintro (h | h | h); exact absurd hl.out (by omega); exact h k1'.out; exact h k3))
      clear hE2 hE3 k3 hX2 k1'
      go_wp2_with fail
      refine HZ.out.mono ?_
      rintro e w2 ⟨rfl, rfl⟩
      clear HZ
      go_wp2_with fail
      refine wb_begin ([]) [] (by kernel_rfl) (fun u0 hb0' hz0' => ?_)
      replace hS := Lib.hid (hS.out.below hb0')
      replace hX := Lib.hid (hX.out.below hb0')
      clear hb0' hz0'
      refine wb_pure (i := 0) (d := some 23) (v := ?_) (by simp only [List.getElem?_toArray, List.getElem?_cons_succ, List.getElem?_cons_zero] <;> rfl) (by rfl) (by kernel_rfl) (by kernel_rfl) (by kernel_rfl) (fun _ _ _ h => h) (by rfl) ?_ ?_
      rotate_left
      · ((intro u); go_simp; try with_reducible rfl)
      try simp only [Act.put, List.setIfInBounds_toArray, List.set_cons_zero, List.set_cons_succ]
      refine wb_pure (i := 1) (d := some 24) (v := ?_) (by simp only [List.getElem?_toArray, List.getElem?_cons_succ, List.getElem?_cons_zero] <;> rfl) (by rfl) (by kernel_rfl) (by kernel_rfl) (by kernel_rfl) (fun _ _ _ h => h) (by rfl) ?_ ?_
      rotate_left
      · ((intro u); go_simp; try with_reducible rfl)
      try simp only [Act.put, List.setIfInBounds_toArray, List.set_cons_zero, List.set_cons_succ]
      refine wb_pure (i := 2) (d := some 25) (v := ?_) (by simp only [List.getElem?_toArray, List.getElem?_cons_succ, List.getElem?_cons_zero] <;> rfl) (by rfl) (by kernel_rfl) (by kernel_rfl) (by kernel_rfl) (fun _ _ _ h => h) (by rfl) ?_ ?_
      rotate_left
      · ((intro u); go_simp; try with_reducible rfl)
      try simp only [Act.put, List.setIfInBounds_toArray, List.set_cons_zero, List.set_cons_succ]
      refine wb_pure (i := 3) (d := some 26) (v := ?_) (by simp only [List.getElem?_toArray, List.getElem?_cons_succ, List.getElem?_cons_zero] <;> rfl) (by rfl) (by kernel_rfl) (by kernel_rfl) (by kernel_rfl) (fun _ _ _ h => h) (by rfl) ?_ ?_
      rotate_left
      · ((intro u); go_simp; try with_reducible rfl)
      try simp only [Act.put, List.setIfInBounds_toArray, List.set_cons_zero, List.set_cons_succ]
      refine wb_pure (i := 5) (d := some 28) (v := ?_) (by simp only [List.getElem?_toArray, List.getElem?_cons_succ, List.getElem?_cons_zero] <;> rfl) (by rfl) (by kernel_rfl) (by kernel_rfl) (by kernel_rfl) (fun _ _ _ h => h) (by rfl) ?_ ?_
      rotate_left
      · ((intro u); go_simp; try with_reducible rfl)
      try simp only [Act.put, List.setIfInBounds_toArray, List.set_cons_zero, List.set_cons_succ]
      refine wb_pure (i := 6) (d := some 29) (v := ?_) (by simp only [List.getElem?_toArray, List.getElem?_cons_succ, List.getElem?_cons_zero] <;> rfl) (by rfl) (by kernel_rfl) (by kernel_rfl) (by kernel_rfl) (fun _ _ _ h => h) (by rfl) ?_ ?_
      rotate_left
      · ((intro u); go_simp; try with_reducible rfl)
      try simp only [Act.put, List.setIfInBounds_toArray, List.set_cons_zero, List.set_cons_succ]
      refine wb_one (i := 4) (by simp only [List.getElem?_toArray, List.getElem?_cons_succ, List.getElem?_cons_zero] <;> rfl) (by kernel_rfl) (by rfl) (fun K hK => ?_)
      go_simp
      refine (addr16_any g (off + 8) _ ((bs.drop 8).take 16) _ (hS.out.part 8 16 _ (by omega) (by omega)) (hb.out.sub 8 16)).mono ?_
      rintro e u4 ⟨rfl, hv4⟩
      rw [nb_sub0 bs 8 16 8 (by omega), nb_sub8 bs 8]
      refine hK.out _ _ (fun p hp => by cases hp) ?_
      replace hS := Lib.hid (hS.out.below hv4)
      replace hX := Lib.hid (hX.out.below hv4)
      clear hK K hv4
      try simp only [Act.put, List.setIfInBounds_toArray, List.set_cons_zero, List.set_cons_succ]
      refine wb_one (i := 7) (by simp only [List.getElem?_toArray, List.getElem?_cons_succ, List.getElem?_cons_zero] <;> rfl) (by kernel_rfl) (by rfl) (fun K hK => ?_)
      go_simp
      refine (addr16_any g (off + 24) _ ((bs.drop 24).take 16) _ (hS.out.part 24 16 _ (by omega) (by omega)) (hb.out.sub 24 16)).mono ?_
      rintro e u7 ⟨rfl, hv7⟩
      rw [nb_sub0 bs 24 16 8 (by omega), nb_sub8 bs 24]
      refine hK.out _ _ (fun p hp => by cases hp) ?_
      replace hS := Lib.hid (hS.out.below hv7)
      replace hX := Lib.hid (hX.out.below hv7)
      clear hK K hv7
      try simp only [Act.put, List.setIfInBounds_toArray, List.set_cons_zero, List.set_cons_succ]
      refine wb_pure (i := 8) (d := some 31) (v := ?_) (by simp only [List.getElem?_toArray, List.getElem?_cons_succ, List.getElem?_cons_zero] <;> rfl) (by rfl) (by kernel_rfl) (by kernel_rfl) (by kernel_rfl) (fun _ _ _ h => h) (by rfl) ?_ ?_
      rotate_left
      · ((intro u); go_simp; try with_reducible rfl)
      try simp only [Act.put, List.setIfInBounds_toArray, List.set_cons_zero, List.set_cons_succ]
      refine wb_pure (i := 9) (d := some 32) (v := ?_) (by simp only [List.getElem?_toArray, List.getElem?_cons_succ, List.getElem?_cons_zero] <;> rfl) (by rfl) (by kernel_rfl) (by kernel_rfl) (by kernel_rfl) (fun _ _ _ h => h) (by rfl) ?_ ?_
      rotate_left
      · ((intro u); go_simp; try with_reducible rfl)
      try simp only [Act.put, List.setIfInBounds_toArray, List.set_cons_zero, List.set_cons_succ]
      refine wb_one (i := 10) (by simp only [List.getElem?_toArray, List.getElem?_cons_succ, List.getElem?_cons_zero] <;> rfl) (by kernel_rfl) (by rfl) (fun K hK => ?_)
      have f0 := hX.out.blk.free 0
      have c0 := hX.out.blk.cell (i := 0) rfl
      have f1 := hX.out.blk.free 1
      have c1 := hX.out.blk.cell (i := 1) rfl
      have f2 := hX.out.blk.free 2
      have c2 := hX.out.blk.cell (i := 2) rfl
      have f3 := hX.out.blk.free 3
      have c3 := hX.out.blk.cell (i := 3) rfl
      have f4 := hX.out.blk.free 4
      have c4 := hX.out.blk.cell (i := 4) rfl
      have f5 := hX.out.blk.free 5
      have c5 := hX.out.blk.cell (i := 5) rfl
      go_simp
      refine hK.out _ _ (fun p hp => by cases hp) ?_
      replace hX := Lib.hid (((hX.out.set (q' := { q with fs := true }) 0 (.bool true) rfl).set (q' := { q with fs := true, fh := nb bs 8 8 }) 1 (.int .u64 (nb bs 8 8)) rfl).set (q' := { q with fs := true, fh := nb bs 8 8, fl := nb bs 16 8 }) 2 (.int .u64 (nb bs 16 8)) rfl)
      replace hS := Lib.hid (((hS.out.setPk hne 0 (.bool true)).setPk hne 1 (.int .u64 (nb bs 8 8))).setPk hne 2 (.int .u64 (nb bs 16 8)))
      clear hK K f0 c0 f1 c1 f2 c2
      try simp only [Act.put, List.setIfInBounds_toArray, List.set_cons_zero, List.set_cons_succ]
      refine wb_pure (i := 11) (d := some 33) (v := ?_) (by simp only [List.getElem?_toArray, List.getElem?_cons_succ, List.getElem?_cons_zero] <;> rfl) (by rfl) (by kernel_rfl) (by kernel_rfl) (by kernel_rfl) (fun _ _ _ h => h) (by rfl) ?_ ?_
      rotate_left
      · ((intro u); go_simp; try with_reducible rfl)
      try simp only [Act.put, List.setIfInBounds_toArray, List.set_cons_zero, List.set_cons_succ]
      refine wb_pure (i := 12) (d := some 34) (v := ?_) (by simp only [List.getElem?_toArray, List.getElem?_cons_succ, List.getElem?_cons_zero] <;> rfl) (by rfl) (by kernel_rfl) (by kernel_rfl) (by kernel_rfl) (fun _ _ _ h => h) (by rfl) ?_ ?_
      rotate_left
      · ((intro u); go_simp; try with_reducible rfl)
      try simp only [Act.put, List.setIfInBounds_toArray, List.set_cons_zero, List.set_cons_succ]
      refine wb_one (i := 13) (by simp only [List.getElem?_toArray, List.getElem?_cons_succ, List.getElem?_cons_zero] <;> rfl) (by kernel_rfl) (by rfl) (fun K hK => ?_)
      go_simp
      refine hK.out _ _ (fun p hp => by cases hp) ?_
      replace hX := Lib.hid (((hX.out.set (q' := { q with fs := true, fh := nb bs 8 8, fl := nb bs 16 8, ts := true }) 3 (.bool true) rfl).set (q' := { q with fs := true, fh := nb bs 8 8, fl := nb bs 16 8, ts := true, th := nb bs 24 8 }) 4 (.int .u64 (nb bs 24 8)) rfl).set (q' := { q with fs := true, fh := nb bs 8 8, fl := nb bs 16 8, ts := true, th := nb bs 24 8, tl := nb bs 32 8 }) 5 (.int .u64 (nb bs 32 8)) rfl)
      replace hS := Lib.hid (((hS.out.setPk hne 3 (.bool true)).setPk hne 4 (.int .u64 (nb bs 24 8))).setPk hne 5 (.int .u64 (nb bs 32 8)))
      clear hK K f3 c3 f4 c4 f5 c5
      try simp only [Act.put, List.setIfInBounds_toArray, List.set_cons_zero, List.set_cons_succ]
      refine wb_done (by kernel_rfl) ?_ _
      go_wp2_with fail
      refine wb_begin ([g]) [] (by kernel_rfl) (fun u0 hb0' hz0' => ?_)
      replace hS := Lib.hid (hS.out.below hb0')
      replace hX := Lib.hid (hX.out.below hb0')
      clear hb0' hz0'
      obtain ⟨ca, hgl⟩ := hS.out.byte 6 (by omega)
      obtain ⟨cb, _⟩ := hS.out.byte 7 (by omega)
      refine wb_pure (i := 0) (d := some 35) (v := ?_) (by simp only [List.getElem?_toArray, List.getElem?_cons_succ, List.getElem?_cons_zero] <;> rfl) (by rfl) (by kernel_rfl) (by kernel_rfl) (by kernel_rfl) (fun _ _ _ h => h) (by rfl) ?_ ?_
      rotate_left
      · ((intro u); go_simp; try with_reducible rfl)
      try simp only [Act.put, List.setIfInBounds_toArray, List.set_cons_zero, List.set_cons_succ]
      refine wb_pure (i := 1) (d := some 36) (v := ?_) (by simp only [List.getElem?_toArray, List.getElem?_cons_succ, List.getElem?_cons_zero] <;> rfl) (by rfl) (by kernel_rfl) (by kernel_rfl) (by kernel_rfl) (fun _ _ _ h => h) (by rfl) ?_ ?_
      rotate_left
      · ((intro u); go_simp; try with_reducible rfl)
      try simp only [Act.put, List.setIfInBounds_toArray, List.set_cons_zero, List.set_cons_succ]
      refine wb_take (i := 2) (d := some 37) (v := ?_) (by simp only [List.getElem?_toArray, List.getElem?_cons_succ, List.getElem?_cons_zero] <;> rfl) (by rfl) (by kernel_rfl) (by kernel_rfl) (by kernel_rfl) (fun _ _ _ h => h) (by rfl) (by kernel_rfl) ?_ ?_
      rotate_left
      · ((intro u hu); have k6 := Kb.cellB hu (by simp) ca; have k7 := Kb.cellB hu (by simp) cb; go_simp; try with_reducible rfl)
      try simp only [Act.put, List.setIfInBounds_toArray, List.set_cons_zero, List.set_cons_succ]
      refine wb_pure (i := 3) (d := some 38) (v := ?_) (by simp only [List.getElem?_toArray, List.getElem?_cons_succ, List.getElem?_cons_zero] <;> rfl) (by rfl) (by kernel_rfl) (by kernel_rfl) (by kernel_rfl) (fun _ _ _ h => h) (by rfl) ?_ ?_
      rotate_left
      · ((intro u); go_simp; try with_reducible rfl)
      try simp only [Act.put, List.setIfInBounds_toArray, List.set_cons_zero, List.set_cons_succ]
      refine wb_pure (i := 4) (d := some 39) (v := ?_) (by simp only [List.getElem?_toArray, List.getElem?_cons_succ, List.getElem?_cons_zero] <;> rfl) (by rfl) (by kernel_rfl) (by kernel_rfl) (by kernel_rfl) (fun _ _ _ h => h) (by rfl) ?_ ?_
      rotate_left
      · ((intro u); go_simp; try with_reducible rfl)
      try simp only [Act.put, List.setIfInBounds_toArray, List.set_cons_zero, List.set_cons_succ]
      refine wb_take (i := 5) (d := some 40) (v := ?_) (by simp only [List.getElem?_toArray, List.getElem?_cons_succ, List.getElem?_cons_zero] <;> rfl) (by rfl) (by kernel_rfl) (by kernel_rfl) (by kernel_rfl) (fun _ _ _ h => h) (by rfl) (by kernel_rfl) ?_ ?_
      rotate_left
      · ((intro u hu); have k6 := Kb.cellB hu (by simp) ca; have k7 := Kb.cellB hu (by simp) cb; go_simp; try with_reducible rfl)
      try simp only [Act.put, List.setIfInBounds_toArray, List.set_cons_zero, List.set_cons_succ]
      refine wb_pure (i := 6) (d := some 41) (v := ?_) (by simp only [List.getElem?_toArray, List.getElem?_cons_succ, List.getElem?_cons_zero] <;> rfl) (by rfl) (by kernel_rfl) (by kernel_rfl) (by kernel_rfl) (fun _ _ _ h => h) (by rfl) ?_ ?_
      rotate_left
      · ((intro u); go_simp; try with_reducible rfl)
      try simp only [Act.put, List.setIfInBounds_toArray, List.set_cons_zero, List.set_cons_succ]
      refine wb_one (i := 7) (by simp only [List.getElem?_toArray, List.getElem?_cons_succ, List.getElem?_cons_zero] <;> rfl) (by kernel_rfl) (by rfl) (fun K hK => ?_)
      go_simp
      refine (carried_any { q with fs := true, fh := nb bs 8 8, fl := nb bs 16 8, ts := true, th := nb bs 24 8, tl := nb bs 32 8 } v pb (bs.getD 6 0) (bs.getD 7 0) _ hX.out.blk (hb.out.getD 6) (hb.out.getD 7)).mono ?_
      rintro e w7 ⟨q', ev, rfl, hev, h7, hq7⟩
      refine hK.out _ _ (fun p hp => by simp at hp; subst hp; exact h7.gb.block _ hgl (by intro e; cases e; exact hne rfl)) ?_
      replace hX := Lib.hid (hX.out.trans h7)
      replace hq7 := Lib.hid hq7
      clear hK K h7
      try simp only [Act.put, List.setIfInBounds_toArray, List.set_cons_zero, List.set_cons_succ]
      refine wb_pure (i := 8) (d := some 4) (v := ?_) (by simp only [List.getElem?_toArray, List.getElem?_cons_succ, List.getElem?_cons_zero] <;> rfl) (by rfl) (by kernel_rfl) (by kernel_rfl) (by kernel_rfl) (fun _ _ _ h => h) (by rfl) ?_ ?_
      rotate_left
      · ((intro u); go_simp; try with_reducible rfl)
      try simp only [Act.put, List.setIfInBounds_toArray, List.set_cons_zero, List.set_cons_succ]
      refine wb_done (by kernel_rfl) ?_ _
      clear ca cb hS
      go_wp2_with fail
      go_ret
      exact ⟨by rw [hE.out]; exact congrArg (fun x => Ending.returned (Value.int .i64 x)) hev.out, q', hX.out, fun h => by rw [hE.out] at h; exact hq7.out (fun e => by rw [if_pos (show protoN true (bs.getD 6 0) = 0 from e)] at h; cases h)⟩
    · have HZ := Lib.hid (isZero_any _ 3 (cap - 1) _ _ (hS.out.part 1 3 (cap - 1) (by omega) (by omega)) (by omega) (hb.out.sub 1 3))
      rw [decide_eq_false (show ¬ numF ((bs.drop 1).take 3) = 0 from k3)] at HZ
      have hE := Lib.hid (hE2.out (.inr (.inr k3)))
      clear hE2 hE3 k3 hX2 k1'
      go_wp2_with fail
      refine HZ.out.mono ?_
      rintro e w2 ⟨rfl, rfl⟩
      go_wp2_with fail
      go_ret
      exact ⟨q, by rw [hE.out]; rfl, hX.out, fun h => by rw [hE.out] at h; cases h⟩
  · have hE := Lib.hid (hE2.out (.inr (.inl (by have := hX2.out; have := hl.out; omega))))
    clear hE2 hE3
    go_wp2_with fail
    go_ret
    exact ⟨q, by rw [hE.out]; rfl, hX.out, fun h => by rw [hE.out] at h; cases h⟩
end Go.Proofs.YtijlahgmnpnmfaaGreatDoor
namespace Go.Proofs.YtijlahgmnpnmfaaGreatDoor
open Go.RowKit
set_option linter.unusedVariables false
set_option linter.unusedSimpArgs false

/-- Bytes as a string. -/
def strB (bs : List Nat) : ByteArray := ⟨(bs.map UInt8.ofNat).toArray⟩
theorem strB_inj {xs ys : List Nat} (hx : Byt xs) (hy : Byt ys) (h : strB xs = strB ys) : xs = ys := by
  have h1 : (xs.map UInt8.ofNat).toArray = (ys.map UInt8.ofNat).toArray := congrArg ByteArray.data h
  have h2 : xs.map UInt8.ofNat = ys.map UInt8.ofNat := by simpa using h1
  have h3 := congrArg (List.map UInt8.toNat) h2
  rw [List.map_map, List.map_map] at h3
  have key : ∀ l : List Nat, Byt l → l.map (UInt8.toNat ∘ UInt8.ofNat) = l := by
    intro l hl
    conv => rhs; rw [← List.map_id l]
    apply List.map_congr_left
    intro b hb
    show (UInt8.ofNat b).toNat = b
    rw [UInt8.toNat_ofNat']
    exact Nat.mod_eq_of_lt (hl b hb)
  rwa [key xs hx, key ys hy] at h3
theorem conv_bytes (g off n cap : Nat) (bs : List Nat) (w : World) (hS : SlB w (some ⟨g, off, none⟩) n cap bs) (hb : Byt bs) : (convert 29 9 (.slice (some ⟨g, off, none⟩) n cap)).run Tryz.prog w = .ok (.string (strB bs)) w := by
  have hl := hS.len
  have h := run_convert_bytes_back (P := Tryz.prog) w 29 9 5 ⟨g, off, none⟩ cap (bs.map UInt8.ofNat) Tryz.underlying29 (by kernel_rfl) (by kernel_rfl) (fun j hj => by
    have hj' : j < bs.length := by simpa using hj
    have e : Addr.add ⟨g, off, none⟩ j = ⟨g, off + j, none⟩ := by
      unfold Addr.add
      split
      · rename_i h; subst h; rfl
      · rfl
    rw [e, (hS.byte j (by omega)).1]
    have : bs.getD j 0 = bs[j] := by simp [hj']
    rw [this, List.getElem_map]
    show some (Value.int .u8 (bs[j] : Nat)) = some (Value.int .u8 ((UInt8.ofNat bs[j]).toNat : Nat))
    rw [UInt8.toNat_ofNat', Nat.mod_eq_of_lt (hb _ (List.getElem_mem hj'))])
  rw [List.length_map, ← hl] at h
  exact h
set_option maxHeartbeats 1000000 in
theorem equalB_any (g off n cap g' off' n' cap' : Nat) (xs ys : List Nat) (w : World) (h1 : SlB w (some ⟨g, off, none⟩) n cap xs) (h2 : SlB w (some ⟨g', off', none⟩) n' cap' ys) (hx : Byt xs) (hy : Byt ys) :
    Calls Tryz.prog 45 #[.slice (some ⟨g, off, none⟩) n cap, .slice (some ⟨g', off', none⟩) n' cap'] w fun e w' => e = .returned (.bool (decide (xs = ys))) ∧ w = w' := by
  have c1 := conv_bytes g off n cap xs w h1 hx
  have c2 := conv_bytes g' off' n' cap' ys w h2 hy
  have hi : strB xs = strB ys ↔ xs = ys := ⟨strB_inj hx hy, fun h => by rw [h]⟩
  have hd : decide (xs = ys) = ((strB xs).toList == (strB ys).toList) := by
    apply Bool.eq_iff_iff.2
    rw [decide_eq_true_iff, beq_iff_eq, ByteArray.toList_eq, ByteArray.toList_eq]
    exact ⟨fun h => by rw [h], fun h => hi.1 (by have := Array.toList_inj.1 h; unfold strB at *; rw [ByteArray.mk.injEq]; exact this)⟩
  rw [hd]
  clear hi hd h1 h2 hx hy
  generalize strB xs = s at c1 ⊢
  generalize strB ys = t at c2 ⊢
  go_enter Tryz.func45, Tryz.ntmps45
  go_wp2_with fail
  go_ret
  exact ⟨rfl, rfl⟩
end Go.Proofs.YtijlahgmnpnmfaaGreatDoor
