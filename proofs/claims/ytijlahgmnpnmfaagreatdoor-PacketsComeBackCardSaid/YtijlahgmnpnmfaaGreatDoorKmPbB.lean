/- PacketsComeBack: the law. -/
import Derived.Test.YtijlahgmnpnmfaaGreatDoorKmPbA
import Derived.Test.YtijlahgmnpnmfaaGreatDoorKmPdT
import Derived.Test.YtijlahgmnpnmfaaGreatDoorKmPdN
import Derived.Test.YtijlahgmnpnmfaaGreatDoorKmRwA
namespace Go.Proofs.YtijlahgmnpnmfaaGreatDoor
open Go.RowKit
set_option linter.unusedVariables false
set_option linter.unusedSimpArgs false

/-- A packet that is laid into a new block. -/
theorem new_pk (u : World) (q : Pk) (v : Value) :
    Blk ((u.alloc (.cells zeroPk.toArray 31)).setRow u.heap.size (pkL q v).toArray) u.heap.size (pkL q v) 31 ∧
    Below u.heap.size u ((u.alloc (.cells zeroPk.toArray 31)).setRow u.heap.size (pkL q v).toArray) :=
  ⟨setRow_heap _ _ _ _ _ _ (Blk.new u zeroPk 31), below_rowP ((Below.refl _ _).alloc (Nat.le_refl _) _) (Nat.le_refl _) _⟩
theorem bytesL_len {q : Pk} {pl : List Nat} (hn : pl.length ≤ 20) : 0 < (bytesL q pl).length ∧ (bytesL q pl).length ≤ 300 := by
  have h1 := headL_len q (partL q pl).length
  have h2 := partL_len q pl
  have h3 := (atP_fits q pl.length)
  unfold bytesL
  rw [List.length_append]
  omega

set_option maxRecDepth 100000 in
set_option maxHeartbeats 8000000 in
theorem packetsComeBack_walk (a : Option Addr) (len cap : Nat) (w : World) (hY : Rdy w) (hs0 : Str (w.alloc (.cells #[.slice a len cap, .int .i64 0] 25)) w.heap.size 1000) :
    Calls Tryz.prog 3 #[.slice a len cap] w fun e w' => e = .returned (.bool true) ∧ Below w.heap.size w w' := by
  have HRY := Lib.hid (fun W (h : Below w.heap.size w W) => ready_any W (Rdy.below hY h))
  clear hY
  have hB0 : Below w.heap.size w (w.alloc (.cells #[.slice a len cap, .int .i64 0] 25)) := (Below.refl _ _).alloc (Nat.le_refl _) _
  have HPK := Lib.hid (rightPacket_ok _ w.heap.size 900 (hs0.le (by omega)))
  clear hs0
  go_enter Tryz.func3, Tryz.ntmps3
  go_wp2_with fail
  obtain ⟨b, hb⟩ : ∃ b, b = w.heap.size := ⟨_, rfl⟩
  rw [← hb] at HPK ⊢
  refine HPK.out.mono ?_
  rintro e w1 ⟨q, A, n, c, pl, rfl, hq, hSl, hA, hby, hn20, hblk, hs1, hg1⟩
  have hB1 := hB0.trans (gb_toBelow hg1 (Nat.le_of_eq hb.symm) (by rw [hb]; simp))
  obtain ⟨n1, n2⟩ := new_pk w1 q (.slice A n c)
  have S1 := stPk_run (q := q) (v := .slice A n c) (Blk.new w1 zeroPk 31) rfl rfl
  replace hSl := hSl.below n2
  replace hs1 := hs1.below n2
  replace hB1 := hB1.trans (n2.mono hB1.size)
  replace hb := Lib.hid hb
  clear HPK hB0 hg1 hblk n2
  go_upto_region 3 with fail
  clear S1
  obtain ⟨p1, hp1⟩ : ∃ p, p = w1.heap.size := ⟨_, rfl⟩
  rw [← hp1] at n1 hSl hs1 hB1 ⊢
  generalize (w1.alloc (.cells zeroPk.toArray 31)).setRow p1 (pkL q (.slice A n c)).toArray = w2 at *
  clear hp1
  have hnl := hSl.len
  have hpk := rt_zero hq (n := n) (by omega)
  have hbl := bytesL_len (q := q) (pl := pl) (by omega)
  have HC := Lib.hid (come_back (q := q) (pl := pl) (by rw [← hnl]; exact hpk) hq.1.f hq.1.t hby)
  have HBy : Hid (Byt (bytesL q pl)) := Lib.hid (bytesL_byt hq.1 hby)
  have HW := Lib.hid (write_ok q A n c pl w2 hpk hq.1.f hq.1.t hSl hA hby)
  have l1 := ldPk_run n1
  generalize bytesL q pl = bs at *
  clear hpk hq
  replace hA := Lib.hid hA
  replace hby := Lib.hid hby
  replace hnl := Lib.hid hnl
  replace hSl := Lib.hid hSl
  have hlt2 := hs1.lt
  replace hs1 := Lib.hid hs1
  go_wp2_with fail
  refine HW.out.mono ?_
  rintro e w3 ⟨v5, rfl, ho5, hv⟩
  replace hSl := Lib.hid (hSl.out.below hv)
  replace hs1 := Lib.hid (hs1.out.below hv)
  replace n1 := n1.below hv
  replace ho5 := ho5.mono (show b + 1 ≤ w2.heap.size from hlt2)
  replace hB1 := hB1.trans (hv.mono hB1.size)
  clear hv HW l1 hlt2
  obtain ⟨L, hL⟩ : ∃ L, L = bs.length := ⟨_, rfl⟩
  rw [← hL] at hbl
  obtain ⟨hL0, hL1⟩ := hbl
  obtain ⟨A5, c5, rfl, hS5, hA5⟩ := ho5.sln hL.symm
  replace ho5 := Lib.hid ho5
  replace hL := Lib.hid hL
  have HRP := Lib.hid (readPacket_any A5 L c5 bs w3 hS5 (by omega) HBy.out)
  rw [HC.out.1] at HRP
  clear hS5
  go_wp2_with fail
  refine HRP.out.mono ?_
  rintro e w4 ⟨q', v', rfl, hv, _, hqv⟩
  obtain ⟨e1, A7, n7, c7, rfl, ho7⟩ := hqv (by trivial)
  have e2 : q' = q := by have := HC.out.2.1; unfold qX at this; rw [if_pos HC.out.1] at this; rw [e1, this]
  have e3 : (bs.drop (headN bs)).drop (szP (headQ bs)) = pl := by have := HC.out.2.2; unfold plX at this; rwa [if_pos HC.out.1] at this
  rw [e3] at ho7
  clear e1 e3 hqv
  subst e2
  replace hSl := Lib.hid (hSl.out.below hv)
  replace hs1 := Lib.hid (hs1.out.below hv)
  replace n1 := n1.below hv
  replace ho5 := Lib.hid (ho5.out.below hv)
  replace hB1 := hB1.trans (hv.mono hB1.size)
  have hS7 := ho7.slv
  obtain rfl : n = n7 := hnl.out.trans hS7.len.symm
  obtain ⟨n3, n4⟩ := new_pk w4 q' (.slice A7 n c7)
  have S1 := stPk_run (q := q') (v := .slice A7 n c7) (Blk.new w4 zeroPk 31) rfl rfl
  replace hSl := Lib.hid (hSl.out.below n4)
  replace hs1 := Lib.hid (hs1.out.below n4)
  replace n1 := n1.below n4
  replace ho5 := Lib.hid (ho5.out.below n4)
  replace hS7 := hS7.below n4
  replace hB1 := hB1.trans (n4.mono hB1.size)
  clear hv n4 HRP ho7 HC
  go_upto_region 5 with fail
  clear S1
  obtain ⟨p2, hp2⟩ : ∃ p, p = w4.heap.size := ⟨_, rfl⟩
  rw [← hp2] at n1 n3 hSl hs1 hS7 hB1 ho5 ⊢
  generalize (w4.alloc (.cells zeroPk.toArray 31)).setRow p2 (pkL q' (.slice A7 n c7)).toArray = w5 at *
  clear hp2
  have HS := Lib.hid (same_any q' A A7 n c c7 pl w5 hSl.out hS7 (by omega))
  have l1 := ldPk_run n1
  have l2 := ldPk_run n3
  clear hS7 hSl
  go_wp2_with fail
  refine HS.out.mono ?_
  rintro e w6 ⟨rfl, hv⟩
  replace hs1 := Lib.hid (hs1.out.below hv)
  replace ho5 := Lib.hid (ho5.out.below hv)
  replace hB1 := hB1.trans (hv.mono hB1.size)
  clear hv HS l1 l2 n1 n3
  have HCL := Lib.hid (cloneB_any A5 L c5 bs w6 ho5.out.slv (by omega))
  go_wp2_with fail
  refine HCL.out.mono ?_
  rintro e w7 ⟨vx, rfl, hox, hv⟩
  have hb6 := hs1.out.lt
  obtain ⟨gx, cx, rfl⟩ := hox.formn hL.out hL0
  have hA : Hid (AtG w6 b 900 (.slice (some ⟨gx, 0, none⟩) L cx) bs w7) := Lib.hid ⟨hs1.out.below hv, hox, gbB hv, hb6⟩
  have hBy := HBy
  clear HBy HCL hs1 hv hox
  have hLw : IntKind.i64.wrap (L : Int) = L := wrapI _ (by omega) (by omega)
  go_wp2_with fail
  refine wb_begin ([gx]) [12] (by kernel_rfl) (fun u0 hb0' hz0' => ?_)
  replace hA := Lib.hid (hA.out.below hb0')
  clear hb0' hz0'
  refine wb_pure (i := 0) (d := some 43) (v := ?_) (by simp only [List.getElem?_toArray, List.getElem?_cons_succ, List.getElem?_cons_zero] <;> rfl) (by rfl) (by kernel_rfl) (by kernel_rfl) (by kernel_rfl) (fun _ _ _ h => h) (by rfl) ?_ ?_
  rotate_left
  · ((intro u); go_simp; try with_reducible rfl)
  try simp only [Act.put, List.setIfInBounds_toArray, List.set_cons_zero, List.set_cons_succ]
  refine wb_pure (i := 1) (d := some 44) (v := ?_) (by simp only [List.getElem?_toArray, List.getElem?_cons_succ, List.getElem?_cons_zero] <;> rfl) (by rfl) (by kernel_rfl) (by kernel_rfl) (by kernel_rfl) (fun _ _ _ h => h) (by rfl) ?_ ?_
  rotate_left
  · ((intro u); go_simp; try with_reducible rfl)
  try simp only [Act.put, List.setIfInBounds_toArray, List.set_cons_zero, List.set_cons_succ]
  refine wb_pure (i := 2) (d := some 45) (v := ?_) (by simp only [List.getElem?_toArray, List.getElem?_cons_succ, List.getElem?_cons_zero] <;> rfl) (by rfl) (by kernel_rfl) (by kernel_rfl) (by kernel_rfl) (fun _ _ _ h => h) (by rfl) ?_ ?_
  rotate_left
  · ((intro u); go_simp; try with_reducible rfl)
  try simp only [Act.put, List.setIfInBounds_toArray, List.set_cons_zero, List.set_cons_succ]
  refine wb_take (i := 3) (d := some 46) (v := ?_) (by simp only [List.getElem?_toArray, List.getElem?_cons_succ, List.getElem?_cons_zero] <;> rfl) (by rfl) (by kernel_rfl) (by kernel_rfl) (by kernel_rfl) (fun _ _ _ h => h) (by rfl) (by kernel_rfl) ?_ ?_
  rotate_left
  · ((intro u hu); (try have kx := Kb.cellB hu (by simp) kx0); go_simp; try with_reducible rfl)
  try simp only [Act.put, List.setIfInBounds_toArray, List.set_cons_zero, List.set_cons_succ]
  refine wb_pure (i := 7) (d := some 50) (v := ?_) (by simp only [List.getElem?_toArray, List.getElem?_cons_succ, List.getElem?_cons_zero] <;> rfl) (by rfl) (by kernel_rfl) (by kernel_rfl) (by kernel_rfl) (fun _ _ _ h => h) (by rfl) ?_ ?_
  rotate_left
  · ((intro u); go_simp; try with_reducible rfl)
  try simp only [Act.put, List.setIfInBounds_toArray, List.set_cons_zero, List.set_cons_succ]
  refine wb_one (i := 4) (by simp only [List.getElem?_toArray, List.getElem?_cons_succ, List.getElem?_cons_zero] <;> rfl) (by kernel_rfl) (by rfl) (fun K hK => ?_)
  go_simp
  refine (next_any (L : Int) _ b 801 (by omega) (by omega) (hA.out.s.le (by omega))).mono ?_
  rintro e u4 ⟨r4, ⟨h40, h41⟩, rfl, hs4, hg4⟩
  refine hK _ _ (Kb.gb hg4 (by intro p hp; simp at hp; subst hp; exact ⟨hA.out.o.atB.2, by intro e; cases e; have := hA.out.lt; have := hA.out.o.atB.1; omega⟩)) ?_
  replace hA := Lib.hid (hA.out.step hs4 hg4)
  obtain ⟨j, rfl⟩ := Int.eq_ofNat_of_zero_le h40
  have hj : j < L := by omega
  have kx0 := hA.out.o.cellB j hj
  have hji : (j : Int) < L := by omega
  have hjc : (j : Int) < cx := by have := hA.out.o.cap.2.1; omega
  clear hK K hs4 hg4 h40 h41
  try simp only [Act.put, List.setIfInBounds_toArray, List.set_cons_zero, List.set_cons_succ]
  refine wb_take (i := 5) (d := some 48) (v := ?_) (by simp only [List.getElem?_toArray, List.getElem?_cons_succ, List.getElem?_cons_zero] <;> rfl) (by rfl) (by kernel_rfl) (by kernel_rfl) (by kernel_rfl) (fun _ _ _ h => h) (by rfl) (by kernel_rfl) ?_ ?_
  rotate_left
  · ((intro u hu); (try have kx := Kb.cellB hu (by simp) kx0); go_simp; try with_reducible rfl)
  try simp only [Act.put, List.setIfInBounds_toArray, List.set_cons_zero, List.set_cons_succ]
  refine wb_take (i := 6) (d := some 49) (v := ?_) (by simp only [List.getElem?_toArray, List.getElem?_cons_succ, List.getElem?_cons_zero] <;> rfl) (by rfl) (by kernel_rfl) (by kernel_rfl) (by kernel_rfl) (fun _ _ _ h => h) (by rfl) (by kernel_rfl) ?_ ?_
  rotate_left
  · ((intro u hu); (try have kx := Kb.cellB hu (by simp) kx0); go_simp; try with_reducible rfl)
  try simp only [Act.put, List.setIfInBounds_toArray, List.set_cons_zero, List.set_cons_succ]
  refine wb_one (i := 8) (by simp only [List.getElem?_toArray, List.getElem?_cons_succ, List.getElem?_cons_zero] <;> rfl) (by kernel_rfl) (by rfl) (fun K hK => ?_)
  go_simp
  refine (next_any 8 _ b 800 (by omega) (by omega) (hA.out.s.le (by omega))).mono ?_
  rintro e u5 ⟨r5, ⟨h50, h51⟩, rfl, hs5, hg5⟩
  refine hK _ _ (Kb.gb hg5 (by intro p hp; simp at hp; subst hp; exact ⟨hA.out.o.atB.2, by intro e; cases e; have := hA.out.lt; have := hA.out.o.atB.1; omega⟩)) ?_
  replace hA := Lib.hid (hA.out.step hs5 hg5)
  obtain ⟨z, rfl⟩ := Int.eq_ofNat_of_zero_le h50
  have hz8 : z < 8 := by omega
  have hz63 : (z : Int) < 64 := by omega
  clear hK K hs5 hg5 h50 h51
  try simp only [Act.put, List.setIfInBounds_toArray, List.set_cons_zero, List.set_cons_succ]
  refine wb_pure (i := 9) (d := some 52) (v := ?_) (by simp only [List.getElem?_toArray, List.getElem?_cons_succ, List.getElem?_cons_zero] <;> rfl) (by rfl) (by kernel_rfl) (by kernel_rfl) (by kernel_rfl) (fun _ _ _ h => h) (by rfl) ?_ ?_
  rotate_left
  · ((intro u); go_simp; try with_reducible rfl)
  try simp only [Act.put, List.setIfInBounds_toArray, List.set_cons_zero, List.set_cons_succ]
  refine wb_pure (i := 10) (d := some 53) (v := ?_) (by simp only [List.getElem?_toArray, List.getElem?_cons_succ, List.getElem?_cons_zero] <;> rfl) (by rfl) (by kernel_rfl) (by kernel_rfl) (by kernel_rfl) (fun _ _ _ h => h) (by rfl) ?_ ?_
  rotate_left
  · ((intro u); go_simp; try with_reducible rfl)
  try simp only [Act.put, List.setIfInBounds_toArray, List.set_cons_zero, List.set_cons_succ]
  refine wb_take (i := 11) (d := some 54) (v := ?_) (by simp only [List.getElem?_toArray, List.getElem?_cons_succ, List.getElem?_cons_zero] <;> rfl) (by rfl) (by kernel_rfl) (by kernel_rfl) (by kernel_rfl) (fun _ _ _ h => h) (by rfl) (by kernel_rfl) ?_ ?_
  rotate_left
  · ((intro u hu); (try have kx := Kb.cellB hu (by simp) kx0); go_simp; try with_reducible rfl)
  try simp only [Act.put, List.setIfInBounds_toArray, List.set_cons_zero, List.set_cons_succ]
  refine wb_store (i := 12) (by simp only [List.getElem?_toArray, List.getElem?_cons_succ, List.getElem?_cons_zero] <;> rfl) (by kernel_rfl) (by rfl) (by kernel_rfl) (fun K hK => ?_)
  have hbj : bs.getD j 0 < 256 := by
    have hjl : j < bs.length := by have := hL.out; omega
    rw [List.getD_eq_getElem?_getD, List.getElem?_eq_getElem hjl]
    exact hBy.out _ (List.getElem_mem hjl)
  have hfl := flip_ne (bs.getD j 0) z hbj hz8
  obtain ⟨y, hy, hy8⟩ := xor_any ((bs.getD j 0 : Nat) : Int) (IntKind.u8.wrap ((2 : Int) ^ z))
  rw [hy] at hfl
  have hyb : y ≠ bs.getD j 0 := fun e => hfl (by rw [e])
  rw [List.getD_eq_getElem?_getD] at hy
  rw [hy]
  have f9 := hA.out.o.freeB j
  have c9 := hA.out.o.cellB j (by omega)
  go_simp
  refine hK _ _ ?_
  have hA9 := Lib.hid (hA.out.set j y (by omega))
  have hb9 : Hid (Byt (bs.set j y)) := Lib.hid (hBy.out.set j y hy8)
  have hn9 : Hid (bs.set j y ≠ bs) := Lib.hid (set_ne (b := bs.getD j 0) (by
    have hjl : j < bs.length := by have := hL.out; omega
    rw [List.getD_eq_getElem?_getD, List.getElem?_eq_getElem hjl]; rfl) hyb)
  have hl9 : Hid (L = (bs.set j y).length) := Lib.hid (by rw [List.length_set]; exact hL.out)
  generalize bs.set j y = cs at *
  clear hK K hA f9 c9 hy hfl hyb hbj
  try simp only [Act.put, List.setIfInBounds_toArray, List.set_cons_zero, List.set_cons_succ]
  refine wb_done (by kernel_rfl) ?_ _
  clear kx0
  have ho5' : Hid (Own (b + 1) (WCUR hA9.out) (.slice A5 L c5) bs) := Lib.hid (ho5.out.gbb hA9.out.g (Nat.lt_succ_self b))
  have hB9 : Hid (Below w.heap.size w (WCUR hA9.out)) := Lib.hid (hB1.trans (gb_toBelow hA9.out.g (Nat.le_of_eq hb.out.symm) (Nat.le_of_lt hb6)))
  replace hA9 := Lib.hid hA9.out.o
  clear ho5 hB1
  go_upto_region 9 with fail
  have HRP := Lib.hid (readPacket_any _ L cx cs _ hA9.out.cap.2.2 (by omega) hb9.out)
  obtain ⟨E, hE⟩ : ∃ E, E = rdE cs := ⟨_, rfl⟩
  rw [← hE] at HRP
  replace hE := Lib.hid hE
  by_cases hE0 : E = 0
  · subst hE0
    go_wp2_with fail
    refine HRP.out.mono ?_
    rintro e w10 ⟨q2, v2, rfl, hv, _, hqv⟩
    obtain ⟨e1, A8, n8, c8, rfl, ho8⟩ := hqv (by trivial)
    obtain ⟨g1, g2, g3, g4, g5⟩ := go_back hb9.out (by have := hl9.out; omega) hE.out.symm
    have e2 : qX cs = q2 := by unfold qX; rw [if_pos hE.out.symm]; exact e1.symm
    have e3 : plX cs = (cs.drop (headN cs)).drop (szP (headQ cs)) := by unfold plX; rw [if_pos hE.out.symm]
    rw [← e3] at ho8
    rw [e2] at g1 g2 g3 g4
    generalize plX cs = pl2 at *
    clear e1 e2 e3 hqv
    have hbw := hB9.out.trans (hv.mono hB9.out.size)
    have hx := hA9.out.below hv
    have h5 := ho5'.out.below hv
    obtain ⟨A8', c8', e8, hS8, hA8⟩ := ho8.sln (n := n8) ho8.slv.len.symm
    cases e8
    obtain ⟨n3, n4⟩ := new_pk w10 q2 (.slice A8 n8 c8)
    have S1 := stPk_run (q := q2) (v := .slice A8 n8 c8) (Blk.new w10 zeroPk 31) rfl rfl
    replace hS8 := hS8.below n4
    replace hx := Lib.hid (hx.below n4)
    replace h5 := Lib.hid (h5.below n4)
    replace hbw := hbw.trans (n4.mono hbw.size)
    have hn8 := Lib.hid hS8.len
    clear hv n4 HRP ho8 hB9 hA9 ho5'
    go_upto_region 10 with fail
    clear S1
    obtain ⟨p2, hp2⟩ : ∃ p, p = w10.heap.size := ⟨_, rfl⟩
    rw [← hp2] at n3 hS8 hx h5 hbw ⊢
    generalize (w10.alloc (.cells zeroPk.toArray 31)).setRow p2 (pkL q2 (.slice A8 n8 c8)).toArray = w11 at *
    clear hp2
    have HW := Lib.hid (write_ok q2 A8 n8 c8 pl2 w11 (by rw [hn8.out]; exact g1) g3 g4 hS8 hA8 g5)
    rw [g2] at HW
    have l1 := ldPk_run n3
    clear g1 g2 g3 g4 g5 hn8 hS8 hA8
    go_wp2_with fail
    refine HW.out.mono ?_
    rintro e w12 ⟨v12, rfl, ho12, hv⟩
    replace hx := hx.out.below hv
    replace h5 := h5.out.below hv
    replace hbw := hbw.trans (hv.mono hbw.size)
    obtain ⟨A12, c12, rfl, hS12, _⟩ := ho12.sln hl9.out.symm
    have HE1 := Lib.hid (equalS_any A12 _ L L c12 cx cs cs w12 hS12 hx.slv (by omega) true (by simp))
    clear hv HW l1 n3 ho12 hS12
    replace hx := Lib.hid hx
    replace h5 := Lib.hid h5
    go_wp2_with fail
    refine HE1.out.mono ?_
    rintro e w13 ⟨rfl, hv⟩
    have HE2 := Lib.hid (equalS_any _ A5 L L cx c5 cs bs w13 (hx.out.below hv).slv (h5.out.below hv).slv (by omega) false (by rw [decide_eq_false hn9.out]))
    replace hbw := hbw.trans (hv.mono hbw.size)
    clear hv HE1
    go_wp2_with fail
    refine HE2.out.mono ?_
    rintro e w14 ⟨rfl, hv⟩
    replace hbw := hbw.trans (hv.mono hbw.size)
    clear hv HE2
    go_wp2_with fail
    refine (HRY.out _ hbw).mono ?_
    rintro e w15 ⟨rfl, hv⟩
    replace hbw := hbw.trans (hv.mono hbw.size)
    go_wp2_with fail
    go_ret
    exact ⟨rfl, hbw⟩
  · have b0 : (E == 0) = false := by simp [hE0]
    go_wp2_with fail
    refine HRP.out.mono ?_
    rintro e w10 ⟨q2, v2, rfl, hv, hz, _⟩
    obtain ⟨rfl, rfl⟩ := hz hE0
    have hbw := hB9.out.trans (hv.mono hB9.out.size)
    obtain ⟨n3, n4⟩ := new_pk w10 zq (.slice none 0 0)
    have S1 := stPk_run (q := zq) (v := .slice none 0 0) (Blk.new w10 zeroPk 31) rfl rfl
    replace hbw := hbw.trans (n4.mono hbw.size)
    clear hv n4 HRP ho5' hA9 hB9
    go_upto_region 10 with fail
    clear S1
    generalize World.setRow _ _ _ = w11 at *
    clear n3 hE0
    go_wp2_with fail
    refine (HRY.out _ hbw).mono ?_
    rintro e w15 ⟨rfl, hv⟩
    replace hbw := hbw.trans (hv.mono hbw.size)
    go_wp2_with fail
    go_ret
    exact ⟨rfl, hbw⟩
end Go.Proofs.YtijlahgmnpnmfaaGreatDoor
