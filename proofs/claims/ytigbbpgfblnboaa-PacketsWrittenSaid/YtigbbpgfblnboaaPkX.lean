/- PacketsWritten: the law. -/
import Derived.Test.YtigbbpgfblnboaaPkW
namespace Go.Proofs.Ytigbbpgfblnboaa
open Go.RowKit
set_option linter.unusedVariables false
set_option linter.unusedSimpArgs false

theorem filtered_any (w : World) : Calls Try.prog 16 #[] w (GivesV (.bool true) w) := by
  have hS := slB_lit w [0, 1] 2 _ rfl rfl
  have hs : sumR [0, 1] = 65534 := by decide
  have HS := Lib.hid (sum_any _ 2 2 [0, 1] _ hS (by omega) (by intro b hb; simp at hb; omega))
  rw [hs] at HS
  clear hS hs
  go_enter Try.func16, Try.ntmps16
  go_wp2_with fail
  refine HS.out.mono ?_
  rintro e w1 ⟨rfl, hb1⟩
  go_wp2_with fail
  go_ret
  exact ⟨rfl, ((Below.refl _ _).alloc (Nat.le_refl _) _).trans (hb1.mono (by simp))⟩
theorem kb2 {a b B : Nat} {x y : World} (h : Below B x y) (ha : a < B) (hb : b < B) : Kb [a, b] x y := Kb.two h ha hb
/-- What stands when the packet is there. -/
structure AtP (w0 : World) (pa : Nat) (q : Pk) (A : Option Addr) (n c : Nat) (pl : List Nat) (w : World) : Prop where
  blk : Blk w pa (pkL q (.slice A n c)) 45
  sl : SlB w A n c pl
  base : Below w0.heap.size w0 w
theorem AtP.below {w0 w w' : World} {pa n c : Nat} {q : Pk} {A : Option Addr} {pl : List Nat} (h : AtP w0 pa q A n c pl w) (hb : Below w.heap.size w w') : AtP w0 pa q A n c pl w' := ⟨h.blk.below hb, h.sl.below hb, h.base.trans (hb.mono h.base.size)⟩
theorem AtP.gb {w0 w w' : World} {pa n c b : Nat} {q : Pk} {A : Option Addr} {pl : List Nat} (h : AtP w0 pa q A n c pl w) (hg : w.grownBy w' (some b)) (hb : b < pa) (h0 : w0.heap.size ≤ b) (hap : ∀ k, (Value.slice A n c).ownBlock = some k → k ≠ b) : AtP w0 pa q A n c pl w' :=
  ⟨h.blk.gb hg hb, h.sl.gb hg hap, h.base.trans (gb_toBelow hg h0 (by have := h.blk.lt; omega))⟩
/-- And its flow. -/
structure AtF (w0 : World) (pa fb : Nat) (q : Pk) (A : Option Addr) (n c : Nat) (pl : List Nat) (fl : List Value) (w : World) : Prop where
  blk : Blk w pa (pkL q (.slice A n c)) 45
  sl : SlB w A n c pl
  base : Below w0.heap.size w0 w
  fl : Blk w fb fl 51
theorem AtF.below {w0 w w' : World} {pa fb n c : Nat} {q : Pk} {A : Option Addr} {pl : List Nat} {fl : List Value} (h : AtF w0 pa fb q A n c pl fl w) (hb : Below w.heap.size w w') : AtF w0 pa fb q A n c pl fl w' := ⟨h.blk.below hb, h.sl.below hb, h.base.trans (hb.mono h.base.size), h.fl.below hb⟩

set_option maxHeartbeats 2000000 in
set_option maxRecDepth 100000 in
theorem packetsWritten_walk (a : Option Addr) (len cap : Nat) (w : World) (hs : Str (w.alloc (.cells #[.slice a len cap, .int .i64 0] 25)) w.heap.size 1000) :
    Calls Try.prog 4 #[.slice a len cap] w fun e w' => e = .returned (.bool true) ∧ Below w.heap.size w w' := by
  have hB0 : Below w.heap.size w (w.alloc (.cells #[.slice a len cap, .int .i64 0] 25)) := (Below.refl _ _).alloc (Nat.le_refl _) _
  have HPK := Lib.hid (packet_any _ w.heap.size 800 (hs.le (by omega)))
  clear hs
  go_enter Try.func4, Try.ntmps4
  go_wp2_with fail
  refine HPK.out.mono ?_
  rintro e u1 ⟨q, A, n, c, pl, rfl, hW1, hW2, hSl, hA, hby, hn20, hblk, hs1, hg1⟩
  have hB1 := hB0.trans (gb_toBelow hg1 (Nat.le_refl _) (by simp))
  have S := stPk_run (q := q) (v := .slice A n c) (Blk.new u1 zeroP 45) rfl rfl
  have hrow : World.grownBy (u1.alloc (.cells zeroP.toArray 45)) ((u1.alloc (.cells zeroP.toArray 45)).setRow u1.heap.size (pkL q (.slice A n c)).toArray) (some u1.heap.size) := ⟨rfl, rfl, rfl, by simp [World.setRow], fun p hp hne => setRow_other _ u1.heap.size p _ (fun e => hne (by rw [e]))⟩
  have hX : AtP w u1.heap.size q A n c pl ((u1.alloc (.cells zeroP.toArray 45)).setRow u1.heap.size (pkL q (.slice A n c)).toArray) :=
    ⟨setRow_heap _ _ _ _ _ _ (Blk.new u1 zeroP 45), SlB.gb (hSl.below ((Below.refl _ _).alloc (Nat.le_refl _) _)) hrow (fun k hk => by have := (hblk k hk).2; omega), (hB1.alloc hB1.size _).trans (gb_toBelow (B := w.heap.size) hrow hB1.size (by simp))⟩
  have hst : Str ((u1.alloc (.cells zeroP.toArray 45)).setRow u1.heap.size (pkL q (.slice A n c)).toArray) w.heap.size 800 := (hs1.alloc _).upto (fun j hj => setRow_other _ _ j _ (by have := hs1.lt; omega))
  have hlt := hs1.lt
  have hapart : ∀ k, (Value.slice A n c).ownBlock = some k → k ≠ w.heap.size := fun k hk => by have := (hblk k hk).1; simp at this; omega
  replace hX := Lib.hid hX
  replace hst := Lib.hid hst
  replace hapart := Lib.hid hapart
  clear HPK hB0 hB1 hs1 hg1 hrow hSl hblk
  go_wp2_with fail
  refine (flip_any 25 _ _ 799 (by omega) (by omega) hst.out).mono ?_
  rintro e u2 ⟨r2, rfl, hs2, hg2⟩
  have hX := hX.out.gb hg2 hlt (Nat.le_refl _) hapart.out
  obtain ⟨pa, hpa⟩ : ∃ pa, pa = u1.heap.size := ⟨_, rfl⟩
  rw [← hpa] at hX hlt ⊢
  replace hpa := Lib.hid hpa
  clear hst S hg2
  go_upto_if 16 with fail
  go_cut [] (fun wx => ∃ A1 n1 c1 pl1, Hid (AtP w pa q A1 n1 c1 pl1 wx) ∧ Hid (A1 = none → c1 = 0) ∧ Hid (Byt pl1) ∧ n1 ≤ 1401)
  case first =>
    cases r2
    · go_wp2_with fail
      go_meet
      exact ⟨A, n, c, pl, Lib.hid hX, Lib.hid hA, Lib.hid hby, by omega⟩
    · obtain ⟨i0, hi0, hz0, hz1, hz2⟩ := info_parts8 info_u8
      go_wp2_with fail
      refine (pick_lit_at _ w.heap.size 798 _ _ [1400, 1401] _ _ (by simp) (by simp) hs2 (by simp) (by simp) (fun z => 1400 ≤ z ∧ z ≤ 1401) (by simp)).mono ?_
      rintro e u3 ⟨x, ⟨x0, x1⟩, rfl, hs3, hg3⟩
      replace hX := (hX.below ((Below.refl _ _).alloc (Nat.le_refl _) (.cells (([1400, 1401] : List Int).map (Value.int .i64)).toArray 3))).gb hg3 hlt (Nat.le_refl _) hapart.out
      obtain ⟨m, rfl⟩ := Int.eq_ofNat_of_zero_le (show 0 ≤ x by omega)
      have hm1 : m ≤ 1401 := by omega
      replace x0 := Lib.hid x0
      replace x1 := Lib.hid x1
      replace hm1 := Lib.hid hm1
      clear hs2 hs3 hg3
      replace hX := Lib.hid hX
      go_wp2_with (refine wpList_make_full _ rfl _ _ 43 rfl u3.heap.size 5 i0 (.int .u8 0) 1 Try.underlying43 hi0 hz0 hz1 .i64 .i64 _ _ m rfl rfl rfl rfl (by rw [hz2]; have := hm1.out; omega) (by unfold maxLen; have := hm1.out; omega) (Nat.le_refl _) ?_)
      intro u4 hown hgr
      have hX4 := hX.out.below (gb2B hgr)
      have hlt4 := hX.out.blk.lt
      have hO : Own u3.heap.size u4 (.slice (some ⟨u3.heap.size, 0, none⟩) m m) (List.replicate m 0) := by
        unfold Own
        rw [List.length_replicate, show bV (List.replicate m 0) = (madeCells #[Value.int .u8 0] m).toList by
          rw [toList_madeCells_one]; unfold bV; rw [List.map_replicate]; rfl]
        exact hown
      have f18 := hX4.blk.free 18
      have c18 := hX4.blk.cell (i := 18) (v := .slice A n c) rfl
      replace hX4 := Lib.hid hX4
      replace hO := Lib.hid hO
      clear hown hgr
      go_wp2_with fail
      go_meet
      refine ⟨some ⟨u3.heap.size, 0, none⟩, m, m, List.replicate m 0, Lib.hid ⟨hX4.out.blk.set 18 _, ?_, hX4.out.base.setCell (p := ⟨pa, 18, none⟩) (by show w.heap.size ≤ pa; omega) _⟩, Lib.hid (fun h => by cases h), Lib.hid (fun z hz => by rw [List.eq_of_mem_replicate hz]; omega), hm1.out⟩
      have hS := (hO.out.setOther (p := pa) (i := 18) (x := .slice (some ⟨u3.heap.size, 0, none⟩) m m) hlt4).cap.2.2
      exact hS
  case rest =>
  clear hX hs2 hapart hlt hA hby hn20
  obtain ⟨A1, n1, c1, pl1, hX, hA1, hby, hn1⟩ := hcut
  replace hX := hX.out
  by_cases hN : pkF q n1 = 0
  · obtain ⟨hq, hn2⟩ := pkF_zero hN hW1 hW2
    have HWr := Lib.hid (fun w' h => write_ok q A1 n1 c1 pl1 w' hN hW1 hW2 h hA1.out hby.out)
    have HFo := Lib.hid (fun w' => flowOf_ok q A1 n1 c1 w' hN)
    have HPF := Lib.hid (fun w' => packetFault_any q A1 n1 c1 w' hW1.1 hW2.1)
    have HCk := Lib.hid (fun w' => checkPacket_any q A1 n1 c1 w')
    have HPB := Lib.hid (fun w' h => packetBytes_any q A1 n1 c1 pl1 w' hq h hA1.out hn2 hby.out)
    have HFF := Lib.hid (fun w' => flowFrom_any q (.slice A1 n1 c1) w')
    have hbll : Hid ((bytesL q pl1).length ≤ 100000) := Lib.hid (by
      unfold bytesL
      rw [List.length_append]
      have h1 := headL_len q (partL q pl1).length
      have h2 := partL_len q pl1
      have h3 := (atP_fits q pl1.length).2
      have h4 := hX.sl.len
      omega)
    rw [hN] at HPF HCk
    unfold flowV at HFo HFF
    generalize bytesL q pl1 = bl at HWr HPB hbll
    clear hq hN
    have L := ldPk_run hX.blk
    replace hX := Lib.hid hX
    go_wp2_with fail
    refine (HWr.out _ hX.out.sl).mono ?_
    rintro e u5 ⟨v5, rfl, o5, hv5⟩
    replace hX := Lib.hid (hX.out.below hv5)
    obtain ⟨A5, c5, rfl, hS5, _⟩ := o5.sl
    obtain ⟨l5, hl5⟩ : ∃ l, l = bl.length := ⟨_, rfl⟩
    rw [← hl5] at hS5 hbll ⊢
    replace hl5 := Lib.hid hl5
    have hlb := hbll
    replace hS5 := Lib.hid hS5
    clear L hv5 o5 HWr hbll
    have L := ldPk_run hX.out.blk
    go_wp2_with fail
    refine (HFo.out _).mono ?_
    rintro e u6 ⟨rfl, hv6⟩
    replace hX := Lib.hid (hX.out.below hv6)
    replace hS5 := Lib.hid (hS5.out.below hv6)
    clear L hv6 HFo
    have hfl := Blk.new u6 [.int .i64 q.proto, .bool q.fs, .int .u64 q.fh, .int .u64 q.fl, .bool q.ts, .int .u64 q.th, .int .u64 q.tl, .int .i64 q.fp, .int .i64 q.tp] 51
    have hvA := (Below.refl u6.heap.size u6).alloc (Nat.le_refl _) (.cells #[.int .i64 q.proto, .bool q.fs, .int .u64 q.fh, .int .u64 q.fl, .bool q.ts, .int .u64 q.th, .int .u64 q.tl, .int .i64 q.fp, .int .i64 q.tp] 51)
    replace hX := Lib.hid (hX.out.below hvA)
    replace hS5 := Lib.hid (hS5.out.below hvA)
    have L := ldPk_run hX.out.blk
    obtain ⟨fb, hfb⟩ : ∃ fb, fb = u6.heap.size := ⟨_, rfl⟩
    rw [← hfb] at hfl
    replace hfl := Lib.hid hfl
    clear hvA
    go_wp2_with fail
    rw [← hfb]
    replace hfb := Lib.hid hfb
    refine (HPF.out _).mono ?_
    rintro e u7 ⟨rfl, hv7⟩
    replace hX := Lib.hid (hX.out.below hv7)
    replace hS5 := Lib.hid (hS5.out.below hv7)
    replace hfl := Lib.hid (hfl.out.below hv7)
    clear L hv7 HPF
    have L := ldPk_run hX.out.blk
    go_wp2_with fail
    refine (HCk.out _).mono ?_
    rintro e u8 ⟨rfl, hv8⟩
    replace hX := Lib.hid (hX.out.below hv8)
    replace hS5 := Lib.hid (hS5.out.below hv8)
    replace hfl := Lib.hid (hfl.out.below hv8)
    clear L hv8 HCk
    replace hX : AtF w pa fb q A1 n1 c1 pl1 [.int .i64 q.proto, .bool q.fs, .int .u64 q.fh, .int .u64 q.fl, .bool q.ts, .int .u64 q.th, .int .u64 q.tl, .int .i64 q.fp, .int .i64 q.tp] u8 := ⟨hX.out.blk, hX.out.sl, hX.out.base, hfl.out⟩
    clear hfl
    go_wp2_with fail
    refine wb_begin ([pa, fb]) [] (by kernel_rfl) (fun u0 hb0' hz0' => ?_)
    replace hX := hX.below hb0'
    replace hS5 := Lib.hid (hS5.out.below hb0')
    clear hb0' hz0'
    refine wb_pure (i := 0) (d := some 61) (v := ?_) (by simp only [List.getElem?_toArray, List.getElem?_cons_succ, List.getElem?_cons_zero] <;> rfl) (by rfl) (by kernel_rfl) (by kernel_rfl) (by kernel_rfl) (fun _ _ _ h => h) (by rfl) ?_ ?_
    rotate_left
    · ((intro u); go_simp; try with_reducible rfl)
    try simp only [Act.put, List.setIfInBounds_toArray, List.set_cons_zero, List.set_cons_succ]
    refine wb_take (i := 1) (d := some 62) (v := ?_) (by simp only [List.getElem?_toArray, List.getElem?_cons_succ, List.getElem?_cons_zero] <;> rfl) (by rfl) (by kernel_rfl) (by kernel_rfl) (by kernel_rfl) (fun _ _ _ h => h) (by rfl) (by kernel_rfl) ?_ ?_
    rotate_left
    · ((intro u hu); have L := ldPk_run (hX.blk.kb hu (by simp)); have k18 := (hX.blk.kb hu (by simp)).cell (i := 18) (v := .slice A1 n1 c1) rfl; obtain ⟨r0, r1, r2, r3, r4, r5, r6, r7, r8⟩ := (hX.fl.kb hu (by simp)).nineP; go_simp; try with_reducible rfl)
    try simp only [Act.put, List.setIfInBounds_toArray, List.set_cons_zero, List.set_cons_succ]
    refine wb_one (i := 2) (by simp only [List.getElem?_toArray, List.getElem?_cons_succ, List.getElem?_cons_zero] <;> rfl) (by kernel_rfl) (by rfl) (fun K hK => ?_)
    go_simp
    refine (HPB.out _ hX.sl).mono ?_
    rintro e u2 ⟨v2, rfl, o2, hv2⟩
    refine hK.out _ _ (kb2 hv2 hX.blk.lt hX.fl.lt) ?_
    replace hX := hX.below hv2
    replace hS5 := Lib.hid (hS5.out.below hv2)
    obtain ⟨A2, c2, rfl, hS2, _⟩ := o2.sl
    obtain ⟨l2, hl2⟩ : ∃ l, l = bl.length := ⟨_, rfl⟩
    rw [← hl2] at hS2 ⊢
    have hl25 : l2 = l5 := hl2.trans hl5.out.symm
    rw [hl25] at hS2 ⊢
    replace hS2 := Lib.hid hS2
    clear hK K hv2 o2 hl2 hl25
    try simp only [Act.put, List.setIfInBounds_toArray, List.set_cons_zero, List.set_cons_succ]
    refine wb_one (i := 3) (by simp only [List.getElem?_toArray, List.getElem?_cons_succ, List.getElem?_cons_zero] <;> rfl) (by kernel_rfl) (by rfl) (fun K hK => ?_)
    go_simp
    refine (equal_same A5 A2 l5 c5 c2 bl _ hS5.out hS2.out hlb.out).mono ?_
    rintro e u3 ⟨rfl, hv3⟩
    refine hK.out _ _ (kb2 hv3 hX.blk.lt hX.fl.lt) ?_
    replace hX := hX.below hv3
    clear hK K hv3
    try simp only [Act.put, List.setIfInBounds_toArray, List.set_cons_zero, List.set_cons_succ]
    refine wb_pure (i := 4) (d := some 65) (v := ?_) (by simp only [List.getElem?_toArray, List.getElem?_cons_succ, List.getElem?_cons_zero] <;> rfl) (by rfl) (by kernel_rfl) (by kernel_rfl) (by kernel_rfl) (fun _ _ _ h => h) (by rfl) ?_ ?_
    rotate_left
    · ((intro u); go_simp; try with_reducible rfl)
    try simp only [Act.put, List.setIfInBounds_toArray, List.set_cons_zero, List.set_cons_succ]
    refine wb_take (i := 5) (d := some 66) (v := ?_) (by simp only [List.getElem?_toArray, List.getElem?_cons_succ, List.getElem?_cons_zero] <;> rfl) (by rfl) (by kernel_rfl) (by kernel_rfl) (by kernel_rfl) (fun _ _ _ h => h) (by rfl) (by kernel_rfl) ?_ ?_
    rotate_left
    · ((intro u hu); have L := ldPk_run (hX.blk.kb hu (by simp)); have k18 := (hX.blk.kb hu (by simp)).cell (i := 18) (v := .slice A1 n1 c1) rfl; obtain ⟨r0, r1, r2, r3, r4, r5, r6, r7, r8⟩ := (hX.fl.kb hu (by simp)).nineP; go_simp; try with_reducible rfl)
    try simp only [Act.put, List.setIfInBounds_toArray, List.set_cons_zero, List.set_cons_succ]
    refine wb_take (i := 6) (d := some 67) (v := ?_) (by simp only [List.getElem?_toArray, List.getElem?_cons_succ, List.getElem?_cons_zero] <;> rfl) (by rfl) (by kernel_rfl) (by kernel_rfl) (by kernel_rfl) (fun _ _ _ h => h) (by rfl) (by kernel_rfl) ?_ ?_
    rotate_left
    · ((intro u hu); have L := ldPk_run (hX.blk.kb hu (by simp)); have k18 := (hX.blk.kb hu (by simp)).cell (i := 18) (v := .slice A1 n1 c1) rfl; obtain ⟨r0, r1, r2, r3, r4, r5, r6, r7, r8⟩ := (hX.fl.kb hu (by simp)).nineP; go_simp; try with_reducible rfl)
    try simp only [Act.put, List.setIfInBounds_toArray, List.set_cons_zero, List.set_cons_succ]
    refine wb_one (i := 7) (by simp only [List.getElem?_toArray, List.getElem?_cons_succ, List.getElem?_cons_zero] <;> rfl) (by kernel_rfl) (by rfl) (fun K hK => ?_)
    go_simp
    refine (HFF.out _).mono ?_
    rintro e u7 ⟨rfl, hv7⟩
    refine hK.out _ _ (kb2 hv7 hX.blk.lt hX.fl.lt) ?_
    replace hX := hX.below hv7
    clear hK K hv7
    try simp only [Act.put, List.setIfInBounds_toArray, List.set_cons_zero, List.set_cons_succ]
    refine wb_pure (i := 8) (d := some 69) (v := ?_) (by simp only [List.getElem?_toArray, List.getElem?_cons_succ, List.getElem?_cons_zero] <;> rfl) (by rfl) (by kernel_rfl) (by kernel_rfl) (by kernel_rfl) (fun _ _ _ h => h) (by rfl) ?_ ?_
    rotate_left
    · ((intro u); go_simp; try with_reducible rfl)
    try simp only [Act.put, List.setIfInBounds_toArray, List.set_cons_zero, List.set_cons_succ]
    refine wb_pure (i := 9) (d := some 70) (v := ?_) (by simp only [List.getElem?_toArray, List.getElem?_cons_succ, List.getElem?_cons_zero] <;> rfl) (by rfl) (by kernel_rfl) (by kernel_rfl) (by kernel_rfl) (fun _ _ _ h => h) (by rfl) ?_ ?_
    rotate_left
    · ((intro u); go_simp; try with_reducible rfl)
    try simp only [Act.put, List.setIfInBounds_toArray, List.set_cons_zero, List.set_cons_succ]
    refine wb_pure (i := 10) (d := some 71) (v := ?_) (by simp only [List.getElem?_toArray, List.getElem?_cons_succ, List.getElem?_cons_zero] <;> rfl) (by rfl) (by kernel_rfl) (by kernel_rfl) (by kernel_rfl) (fun _ _ _ h => h) (by rfl) ?_ ?_
    rotate_left
    · ((intro u); go_simp; try with_reducible rfl)
    try simp only [Act.put, List.setIfInBounds_toArray, List.set_cons_zero, List.set_cons_succ]
    refine wb_pure (i := 11) (d := some 72) (v := ?_) (by simp only [List.getElem?_toArray, List.getElem?_cons_succ, List.getElem?_cons_zero] <;> rfl) (by rfl) (by kernel_rfl) (by kernel_rfl) (by kernel_rfl) (fun _ _ _ h => h) (by rfl) ?_ ?_
    rotate_left
    · ((intro u); go_simp; try with_reducible rfl)
    try simp only [Act.put, List.setIfInBounds_toArray, List.set_cons_zero, List.set_cons_succ]
    refine wb_take (i := 12) (d := some 73) (v := ?_) (by simp only [List.getElem?_toArray, List.getElem?_cons_succ, List.getElem?_cons_zero] <;> rfl) (by rfl) (by kernel_rfl) (by kernel_rfl) (by kernel_rfl) (fun _ _ _ h => h) (by rfl) (by kernel_rfl) ?_ ?_
    rotate_left
    · ((intro u hu); have L := ldPk_run (hX.blk.kb hu (by simp)); have k18 := (hX.blk.kb hu (by simp)).cell (i := 18) (v := .slice A1 n1 c1) rfl; obtain ⟨r0, r1, r2, r3, r4, r5, r6, r7, r8⟩ := (hX.fl.kb hu (by simp)).nineP; go_simp; try with_reducible rfl)
    try simp only [Act.put, List.setIfInBounds_toArray, List.set_cons_zero, List.set_cons_succ]
    refine wb_pure (i := 14) (d := some 75) (v := ?_) (by simp only [List.getElem?_toArray, List.getElem?_cons_succ, List.getElem?_cons_zero] <;> rfl) (by rfl) (by kernel_rfl) (by kernel_rfl) (by kernel_rfl) (fun _ _ _ h => h) (by rfl) ?_ ?_
    rotate_left
    · ((intro u); go_simp; try with_reducible rfl)
    try simp only [Act.put, List.setIfInBounds_toArray, List.set_cons_zero, List.set_cons_succ]
    refine wb_take (i := 15) (d := some 76) (v := ?_) (by simp only [List.getElem?_toArray, List.getElem?_cons_succ, List.getElem?_cons_zero] <;> rfl) (by rfl) (by kernel_rfl) (by kernel_rfl) (by kernel_rfl) (fun _ _ _ h => h) (by rfl) (by kernel_rfl) ?_ ?_
    rotate_left
    · ((intro u hu); have L := ldPk_run (hX.blk.kb hu (by simp)); have k18 := (hX.blk.kb hu (by simp)).cell (i := 18) (v := .slice A1 n1 c1) rfl; obtain ⟨r0, r1, r2, r3, r4, r5, r6, r7, r8⟩ := (hX.fl.kb hu (by simp)).nineP; go_simp; try with_reducible rfl)
    try simp only [Act.put, List.setIfInBounds_toArray, List.set_cons_zero, List.set_cons_succ]
    refine wb_one (i := 13) (by simp only [List.getElem?_toArray, List.getElem?_cons_succ, List.getElem?_cons_zero] <;> rfl) (by kernel_rfl) (by rfl) (fun K hK => ?_)
    go_simp
    refine (sum_any A1 n1 c1 pl1 _ hX.sl (by omega) hby.out).mono ?_
    rintro e u13 ⟨rfl, hv13⟩
    refine hK.out _ _ (kb2 hv13 hX.blk.lt hX.fl.lt) ?_
    replace hX := hX.below hv13
    clear hK K hv13
    try simp only [Act.put, List.setIfInBounds_toArray, List.set_cons_zero, List.set_cons_succ]
    refine wb_one (i := 16) (by simp only [List.getElem?_toArray, List.getElem?_cons_succ, List.getElem?_cons_zero] <;> rfl) (by kernel_rfl) (by rfl) (fun K hK => ?_)
    go_simp
    refine (checkSumOf_any A1 n1 c1 pl1 _ hX.sl (by omega) hby.out).mono ?_
    rintro e u16 ⟨rfl, hv16⟩
    refine hK.out _ _ (kb2 hv16 hX.blk.lt hX.fl.lt) ?_
    replace hX := hX.below hv16
    clear hK K hv16
    try simp only [Act.put, List.setIfInBounds_toArray, List.set_cons_zero, List.set_cons_succ]
    refine wb_pure (i := 17) (d := some 78) (v := ?_) (by simp only [List.getElem?_toArray, List.getElem?_cons_succ, List.getElem?_cons_zero] <;> rfl) (by rfl) (by kernel_rfl) (by kernel_rfl) (by kernel_rfl) (fun _ _ _ h => h) (by rfl) ?_ ?_
    rotate_left
    · ((intro u); go_simp; try with_reducible rfl)
    try simp only [Act.put, List.setIfInBounds_toArray, List.set_cons_zero, List.set_cons_succ]
    refine wb_pure (i := 18) (d := some 79) (v := ?_) (by simp only [List.getElem?_toArray, List.getElem?_cons_succ, List.getElem?_cons_zero] <;> rfl) (by rfl) (by kernel_rfl) (by kernel_rfl) (by kernel_rfl) (fun _ _ _ h => h) (by rfl) ?_ ?_
    rotate_left
    · ((intro u); go_simp; try with_reducible rfl)
    try simp only [Act.put, List.setIfInBounds_toArray, List.set_cons_zero, List.set_cons_succ]
    refine wb_pure (i := 19) (d := some 80) (v := ?_) (by simp only [List.getElem?_toArray, List.getElem?_cons_succ, List.getElem?_cons_zero] <;> rfl) (by rfl) (by kernel_rfl) (by kernel_rfl) (by kernel_rfl) (fun _ _ _ h => h) (by rfl) ?_ ?_
    rotate_left
    · ((intro u); go_simp; try with_reducible rfl)
    try simp only [Act.put, List.setIfInBounds_toArray, List.set_cons_zero, List.set_cons_succ]
    refine wb_one (i := 20) (by simp only [List.getElem?_toArray, List.getElem?_cons_succ, List.getElem?_cons_zero] <;> rfl) (by kernel_rfl) (by rfl) (fun K hK => ?_)
    go_simp
    refine (filtered_any _).mono ?_
    rintro e u20 ⟨rfl, hv20⟩
    refine hK.out _ _ (kb2 hv20 hX.blk.lt hX.fl.lt) ?_
    replace hX := hX.below hv20
    clear hK K hv20
    try simp only [Act.put, List.setIfInBounds_toArray, List.set_cons_zero, List.set_cons_succ]
    refine wb_pure (i := 21) (d := some 82) (v := ?_) (by simp only [List.getElem?_toArray, List.getElem?_cons_succ, List.getElem?_cons_zero] <;> rfl) (by rfl) (by kernel_rfl) (by kernel_rfl) (by kernel_rfl) (fun _ _ _ h => h) (by rfl) ?_ ?_
    rotate_left
    · ((intro u); go_simp; try with_reducible rfl)
    try simp only [Act.put, List.setIfInBounds_toArray, List.set_cons_zero, List.set_cons_succ]
    refine wb_pure (i := 22) (d := some 2) (v := ?_) (by simp only [List.getElem?_toArray, List.getElem?_cons_succ, List.getElem?_cons_zero] <;> rfl) (by rfl) (by kernel_rfl) (by kernel_rfl) (by kernel_rfl) (fun _ _ _ h => h) (by rfl) ?_ ?_
    rotate_left
    · ((intro u); go_simp; try with_reducible rfl)
    try simp only [Act.put, List.setIfInBounds_toArray, List.set_cons_zero, List.set_cons_succ]
    refine wb_done (by kernel_rfl) ?_ _
    go_wp2_with fail
    go_ret
    exact ⟨rfl, hX.base⟩
  · have HWr := Lib.hid (fun w' => write_bad q A1 n1 c1 w' hN)
    have HFo := Lib.hid (fun w' => flowOf_bad q A1 n1 c1 w' hN)
    have HPF := Lib.hid (fun w' => packetFault_any q A1 n1 c1 w' hW1.1 hW2.1)
    have HCk := Lib.hid (fun w' => checkPacket_any q A1 n1 c1 w')
    unfold zeroFV at HFo
    generalize pkF q n1 = N at HWr HFo HPF HCk hN
    have e0 : (N != 0) = true := by simp [hN]
    replace hN := Lib.hid hN
    have L := ldPk_run hX.blk
    replace hX := Lib.hid hX
    go_wp2_with fail
    refine (HWr.out _).mono ?_
    rintro e u5 ⟨rfl, hv5⟩
    replace hX := Lib.hid (hX.out.below hv5)
    clear L hv5 HWr
    have L := ldPk_run hX.out.blk
    go_wp2_with fail
    refine (HFo.out _).mono ?_
    rintro e u6 ⟨rfl, hv6⟩
    replace hX := Lib.hid (hX.out.below hv6)
    clear L hv6 HFo
    have hfl := Blk.new u6 [.int .i64 0, .bool false, .int .u64 0, .int .u64 0, .bool false, .int .u64 0, .int .u64 0, .int .i64 0, .int .i64 0] 51
    have hvA := (Below.refl u6.heap.size u6).alloc (Nat.le_refl _) (.cells #[.int .i64 0, .bool false, .int .u64 0, .int .u64 0, .bool false, .int .u64 0, .int .u64 0, .int .i64 0, .int .i64 0] 51)
    replace hX := Lib.hid (hX.out.below hvA)
    have L := ldPk_run hX.out.blk
    replace hfl := Lib.hid hfl
    clear hvA
    go_wp2_with fail
    refine (HPF.out _).mono ?_
    rintro e u7 ⟨rfl, hv7⟩
    replace hX := Lib.hid (hX.out.below hv7)
    replace hfl := Lib.hid (hfl.out.below hv7)
    clear L hv7 HPF
    have L := ldPk_run hX.out.blk
    go_wp2_with fail
    refine (HCk.out _).mono ?_
    rintro e u8 ⟨rfl, hv8⟩
    replace hX := Lib.hid (hX.out.below hv8)
    replace hfl := Lib.hid (hfl.out.below hv8)
    clear L hv8 HCk
    obtain ⟨r0, r1, r2, r3, r4, r5, r6, r7, r8⟩ := hfl.out.nineP
    go_wp2_with fail
    refine (filtered_any _).mono ?_
    rintro e u9 ⟨rfl, hv9⟩
    go_wp2_with fail
    go_ret
    exact ⟨rfl, hX.out.base.trans (hv9.mono hX.out.base.size)⟩
end Go.Proofs.Ytigbbpgfblnboaa
