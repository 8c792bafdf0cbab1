/- Packets that are right: their making. -/
import Derived.Test.YtijlahgmnpnmfaaGreatDoorKmPdZ
import Derived.Test.YtijlahgmnpnmfaaGreatDoorKmPcFl
import Derived.Deep.CutBlock
namespace Go.Proofs.YtijlahgmnpnmfaaGreatDoor
open Go.RowKit
set_option linter.unusedVariables false
set_option linter.unusedSimpArgs false

theorem blk_ex {w : World} {p b rq : Nat} {cs : List Value} {t : TypeId} (h : Blk w p cs t) (hb : b < p) (hr : rq < p) : ∃ p', Blk w p' cs t ∧ b < p' ∧ rq < p' ∧ p = p' := ⟨p, h, hb, hr, rfl⟩
abbrev zeroPk : List Value := [.bool false, .int .u64 0, .int .u64 0, .bool false, .int .u64 0, .int .u64 0, .int .i64 0, .int .i64 0, .int .i64 0, .int .i64 0, .bool false, .bool false, .bool false, .bool false, .int .i64 0, .int .i64 0, .bool false, .int .i64 0, .slice none 0 0]
theorem pk_one (q : Pk) (v : Value) (hv : v.oneCell' = true) : (pkL q v).toArray.all (·.oneCell') = true := by simp [Value.oneCell'] at hv ⊢; exact hv
/-- The packet that is begun with. -/
abbrev q0 (fs : Bool) (fh fl : Int) (ts : Bool) (th tl hops proto : Int) : Pk := ⟨fs, fh, fl, ts, th, tl, hops, proto, 0, 0, false, false, false, false, 0, 0, false, 0⟩
/-- A packet that is made, in its block, beside the stream. -/
structure PreP (w0 : World) (b R rq pa : Nat) (q : Pk) (v : Value) (w : World) : Prop where
  str : Str w b R
  blk : Blk w pa (pkL q v) 31
  res : Blk w rq zeroPk 31
  base : w0.grownBy w (some b)
  lt : b < rq ∧ w0.heap.size ≤ rq ∧ rq < pa
theorem PreP.row {w0 w : World} {b R rq pa : Nat} {q : Pk} {v : Value} {old : List Value} (hs : Str w b R) (hR : Blk w rq zeroPk 31) (hL : Blk w pa old 31) (hg : w0.grownBy w (some b)) (h1 : b < rq) (h2 : w0.heap.size ≤ rq) (h3 : rq < pa) : PreP w0 b R rq pa q v (w.setRow pa (pkL q v).toArray) :=
  ⟨hs.upto (fun j hj => setRow_other _ pa j _ (by omega)), setRow_heap _ pa _ _ _ _ hL, (setRow_other _ pa rq _ (by omega)).trans hR,
   ⟨hg.os, hg.tape, hg.output, by rw [show (w.setRow pa (pkL q v).toArray).heap.size = w.heap.size by simp [World.setRow]]; exact hg.size, fun k hk hne => (setRow_other _ pa k _ (by omega)).trans (hg.block k hk hne)⟩, h1, h2, h3⟩
theorem PreP.alloc {w0 w : World} {b R rq pa : Nat} {q : Pk} {v : Value} (h : PreP w0 b R rq pa q v w) (o : Obj) : PreP w0 b R rq pa q v (w.alloc o) := ⟨h.str.alloc o, h.blk.alloc o, h.res.alloc o, gb_alloc h.base o, h.lt⟩
theorem PreP.step {w0 w w' : World} {b R R' rq pa : Nat} {q : Pk} {v : Value} (h : PreP w0 b R rq pa q v w) (hs : Str w' b R') (hg : w.grownBy w' (some b)) : PreP w0 b R' rq pa q v w' := ⟨hs, h.blk.gb hg (by have := h.lt; omega), h.res.gb hg h.lt.1, gb_trans h.base hg, h.lt⟩
theorem PreP.le {w0 w : World} {b R R' rq pa : Nat} {q : Pk} {v : Value} (h : PreP w0 b R rq pa q v w) (hR : R' ≤ R) : PreP w0 b R' rq pa q v w := ⟨h.str.le hR, h.blk, h.res, h.base, h.lt⟩
theorem PreP.below {w0 w w' : World} {b R rq pa : Nat} {q : Pk} {v : Value} (h : PreP w0 b R rq pa q v w) (hb : Below w.heap.size w w') : PreP w0 b R rq pa q v w' := ⟨h.str.below hb, h.blk.below hb, h.res.below hb, gb_below h.base hb, h.lt⟩
theorem PreP.set {w0 w : World} {b R rq pa : Nat} {q : Pk} {v : Value} (h : PreP w0 b R rq pa q v w) (i : Nat) (x : Value) (q' : Pk) (v' : Value) (he : (pkL q v).set i x = pkL q' v') : PreP w0 b R rq pa q' v' (w.setCell ⟨pa, i, none⟩ x) :=
  ⟨h.str.setCell (by have := h.lt; show b < pa; omega) x, he ▸ h.blk.set i x, h.res.other (by have := h.lt; show rq ≠ pa; omega) x, gb_setNew h.base (by have := h.lt; show w0.heap.size ≤ pa; omega) x, h.lt⟩
theorem PreP.upB {w0 w w' : World} {b R rq pa : Nat} {q : Pk} {v : Value} (h : PreP w0 b R rq pa q v w) (hb : Below (pa + 1) w w') : PreP w0 b R rq pa q v w' :=
  ⟨h.str.upto (fun j hj => hb.block j (by have := h.lt; omega)), h.blk.upB (Nat.lt_succ_self _) hb, h.res.upB (by have := h.lt; omega) hb,
   ⟨hb.os.trans h.base.os, hb.tape.trans h.base.tape, hb.output.trans h.base.output, Nat.le_trans h.base.size hb.size, fun k hk hne => (hb.block k (by have := h.lt; omega)).trans (h.base.block k hk hne)⟩, h.lt⟩
theorem Own.gbb {B b : Nat} {w w' : World} {v : Value} {bs : List Nat} (h : Own B w v bs) (hg : w.grownBy w' (some b)) (hb : b < B) : Own B w' v bs :=
  World.ownsRow.kept h hg (by
    cases hv : v.ownBlock with
    | none => exact .inl rfl
    | some k => exact .inr (by intro e; cases e; have := (h.lt b hv).1; omega))
theorem Own.setOther {B p i : Nat} {w : World} {v x : Value} {bs : List Nat} (h : Own B w v bs) (hp : p < B) : Own B (w.setCell ⟨p, i, none⟩ x) v bs :=
  h.gbb (b := p) ⟨rfl, rfl, rfl, by simp, fun k _ hne => Below.heap_setCell _ _ _ _ (fun e => hne (by rw [e]))⟩ hp
/-- The store of a packet, as one step. -/
def stPk (p x : Value) : Sem Next := do
  Instr.storeAt 31 p x
  pure .skip
@[go_sem ↓ high] theorem execOp_stPk (ρ : Operand → Value) (dst : Option Tmp) (x y : Operand) (ty : TypeId) (pos : String) (after : Array Edge) (guard : Option (Nat × Bool)) :
    execOp ρ ⟨dst, .store 31 x y, ty, pos, after, guard⟩ = stPk (ρ x) (ρ y) := rfl
@[go_sem high] theorem execOp_stPk' (ρ : Operand → Value) (dst : Option Tmp) (x y : Operand) (ty : TypeId) (pos : String) (after : Array Edge) (guard : Option (Nat × Bool)) :
    execOp ρ ⟨dst, .store 31 x y, ty, pos, after, guard⟩ = stPk (ρ x) (ρ y) := rfl
theorem stPk_run {w : World} {p : Nat} {q : Pk} {v : Value} {old : List Value} {t : TypeId} (h : Blk w p old t) (ho : old.length = 19) (hv : v.oneCell' = true) : (stPk (.pointer (some ⟨p, 0, none⟩)) (pkV q v)).run Tryz.prog w = .ok .skip (w.setRow p (pkL q v).toArray) := by
  unfold stPk
  have hl := run_storeVar_row (P := Tryz.prog) w p t 31 old.toArray (pkL q v).toArray h (by kernel_rfl) (by simp [ho]) (pk_one q v hv)
  simp only [Instr.storeAt, Instr.sureAddr, Sem.run_bind, Sem.run_pure, Result.andThen_ok, hl]
theorem own_slice {B : Nat} {w : World} {v : Value} {bs : List Nat} (h : Own B w v bs) : ∃ A n c, v = .slice A n c := by
  obtain ⟨A, c, rfl, _⟩ := h.sl; exact ⟨_, _, _, rfl⟩
theorem own_one {B : Nat} {w : World} {v : Value} {bs : List Nat} (h : Own B w v bs) : v.oneCell' = true := by
  obtain ⟨A, c, rfl, _⟩ := h.sl; rfl
/-- A packet with which nothing is wrong. -/
def RtP (q : Pk) : Prop := PkOk q ∧ fldB q = true ∧ adF q.fs q.fh q.fl = 0 ∧ adF q.ts q.th q.tl = 0
/-- A right packet is returned. -/
def PkPostR (b R : Nat) (w : World) (e : Ending) (w' : World) : Prop := ∃ q A n cap pl, e = .returned (pkV q (.slice A n cap)) ∧ RtP q ∧ SlB w' A n cap pl ∧ (A = none → cap = 0) ∧ Byt pl ∧ n ≤ 20 ∧ (∀ k, (Value.slice A n cap).ownBlock = some k → w.heap.size ≤ k ∧ k < w'.heap.size) ∧ Str w' b R ∧ w.grownBy w' (some b)
theorem ok_mk {fs ts syn fin rst has reply : Bool} {fh fl th tl hops proto fp tp seq ack id : Int} (hW : Wd fh fl ∧ Wd th tl) (h6 : 0 ≤ hops ∧ hops ≤ 255) (hp : proto = 1 ∨ proto = 6 ∨ proto = 17) (hfp : 0 ≤ fp ∧ fp ≤ 65535) (htp : 0 ≤ tp ∧ tp ≤ 65535) (hs : 0 ≤ seq ∧ seq ≤ 4294967295) (hi : proto = 1 → seq ≤ 65535) (ha : 0 ≤ ack ∧ ack ≤ 4294967295) (hd : 0 ≤ id ∧ id ≤ 65535) (ht : fs = ts) :
    PkOk ⟨fs, fh, fl, ts, th, tl, hops, proto, fp, tp, syn, fin, rst, has, seq, ack, reply, id⟩ :=
  ⟨hW.1, hW.2, h6.1, h6.2, hp, hfp.1, hfp.2, htp.1, htp.2, hs.1, hs.2, hi, ha.1, ha.2, hd.1, hd.2, ht⟩
/-- A packet without payload. -/
def AnyP (w0 : World) (b R rq pa : Nat) (w : World) : Prop := ∃ q, RtP q ∧ PreP w0 b R rq pa q (.slice none 0 0) w
theorem pick_blkP (w : World) (b R p n : Nat) (zs : List Int) (t : TypeId) (cap : Nat) (hs : Str w b (R + 1)) (hL : Blk w p (zs.map (Value.int .i64)) t) (hb : b < p) (hn : n = zs.length) (h1 : 1 ≤ zs.length) (h2 : zs.length ≤ 1000)
    (P : Int → Prop) (hP : ∀ z ∈ zs, P z) :
    Calls Tryz.prog 13 #[.pointer (some ⟨b, 0, none⟩), .slice (some ⟨p, 0, none⟩) n cap] w (NumPost P b R w) := by
  subst hn
  refine pick_any w b R p zs.length cap zs hs hb h1 h2 (fun i hi => ?_) P (fun i hi => ?_)
  · have e : (zs.map (Value.int .i64))[i]? = some (.int .i64 (zs.getD i 0)) := by
      rw [List.getElem?_map, List.getElem?_eq_getElem hi, List.getD_eq_getElem?_getD, List.getElem?_eq_getElem hi]; rfl
    exact hL.cell e
  · rw [List.getD_eq_getElem?_getD, List.getElem?_eq_getElem hi]
    exact hP _ (List.getElem_mem hi)

set_option maxHeartbeats 2000000 in
set_option maxRecDepth 100000 in
theorem rightPacket_ok (w : World) (b R : Nat) (hs : Str w b (R + 70)) :
    Calls Tryz.prog 4 #[.pointer (some ⟨b, 0, none⟩)] w (PkPostR b R w) := by
  have hR := Blk.new w zeroPk 31
  have hg := gb_alloc (gb_refl w (some b)) (.cells #[.bool false, .int .u64 0, .int .u64 0, .bool false, .int .u64 0, .int .u64 0, .int .i64 0, .int .i64 0, .int .i64 0, .int .i64 0, .bool false, .bool false, .bool false, .bool false, .int .i64 0, .int .i64 0, .bool false, .int .i64 0, .slice none 0 0] 31)
  have hb0 := hs.lt
  replace hs := hs.alloc (.cells #[.bool false, .int .u64 0, .int .u64 0, .bool false, .int .u64 0, .int .u64 0, .int .i64 0, .int .i64 0, .int .i64 0, .int .i64 0, .bool false, .bool false, .bool false, .bool false, .int .i64 0, .int .i64 0, .bool false, .int .i64 0, .slice none 0 0] 31)
  go_enter Tryz.func4, Tryz.ntmps4
  go_wp2_with fail
  refine (rightFlowR_any _ b (R + 60) hs).mono ?_
  rintro e u1 ⟨pr, fs, fh, fl, ts, th, tl, fa, fc, ⟨hU, hft⟩, rfl, hs1, hg1⟩
  replace hft := Lib.hid hft
  replace hR := hR.gb hg1 hb0
  replace hg := gb_trans hg hg1
  replace hs := hs1
  clear hs1 hg1
  have hF := Blk.new u1 (flL pr fs fh fl ts th tl fa fc) 45
  replace hR := hR.alloc (.cells #[.int .i64 pr, .bool fs, .int .u64 fh, .int .u64 fl, .bool ts, .int .u64 th, .int .u64 tl, .int .i64 fa, .int .i64 fc] 45)
  have hbf := hs.lt
  replace hs := (hs.alloc (.cells #[.int .i64 pr, .bool fs, .int .u64 fh, .int .u64 fl, .bool ts, .int .u64 th, .int .u64 tl, .int .i64 fa, .int .i64 fc] 45)).le (R' := (R + 50) + 2) (by omega)
  replace hg := gb_alloc hg (.cells #[.int .i64 pr, .bool fs, .int .u64 fh, .int .u64 fl, .bool ts, .int .u64 th, .int .u64 tl, .int .i64 fa, .int .i64 fc] 45)
  go_upto_region 2 with fail
  obtain ⟨fb, hfb⟩ : ∃ fb, fb = u1.heap.size := ⟨_, rfl⟩
  rw [← hfb] at hF hbf ⊢
  replace hfb := Lib.hid hfb
  go_cut [4] (fun s4 wx => ∃ pa r6 r9 : _, ((r9 = (1 : Int) ∨ r9 = 6 ∨ r9 = 17) ∧ (0 ≤ r6 ∧ r6 ≤ 255)) ∧ s4 = .pointer (some ⟨pa, 0, none⟩) ∧ (U64 fh ∧ U64 fl ∧ U64 th ∧ U64 tl) ∧ Hid (PreP w b (R + 50) w.heap.size pa (q0 fs fh fl ts th tl r6 r9) (.slice none 0 0) wx))
  case first =>
    refine wb_begin ([fb]) [] (by kernel_rfl) (fun u0 hb0' hz0' => ?_)
    replace hs := hs.below hb0'
    replace hF := hF.below hb0'
    replace hR := hR.below hb0'
    replace hg := gb_below hg hb0'
    clear hb0' hz0'
    refine wb_pure (i := 0) (d := some 7) (v := ?_) (by simp only [List.getElem?_toArray, List.getElem?_cons_succ, List.getElem?_cons_zero] <;> rfl) (by rfl) (by kernel_rfl) (by kernel_rfl) (by kernel_rfl) (fun _ _ _ h => h) (by rfl) ?_ ?_
    rotate_left
    · ((intro u); go_simp; try with_reducible rfl)
    try simp only [Act.put, List.setIfInBounds_toArray, List.set_cons_zero, List.set_cons_succ]
    refine wb_take (i := 1) (d := some 8) (v := ?_) (by simp only [List.getElem?_toArray, List.getElem?_cons_succ, List.getElem?_cons_zero] <;> rfl) (by rfl) (by kernel_rfl) (by kernel_rfl) (by kernel_rfl) (fun _ _ _ h => h) (by rfl) (by kernel_rfl) ?_ ?_
    rotate_left
    · ((intro u hu); obtain ⟨c0, c1, c2, c3, c4, c5, c6, c7, c8⟩ := (hF.kb hu (by simp)).nine; go_simp; try with_reducible rfl)
    try simp only [Act.put, List.setIfInBounds_toArray, List.set_cons_zero, List.set_cons_succ]
    refine wb_pure (i := 2) (d := some 9) (v := ?_) (by simp only [List.getElem?_toArray, List.getElem?_cons_succ, List.getElem?_cons_zero] <;> rfl) (by rfl) (by kernel_rfl) (by kernel_rfl) (by kernel_rfl) (fun _ _ _ h => h) (by rfl) ?_ ?_
    rotate_left
    · ((intro u); go_simp; try with_reducible rfl)
    try simp only [Act.put, List.setIfInBounds_toArray, List.set_cons_zero, List.set_cons_succ]
    refine wb_take (i := 3) (d := some 10) (v := ?_) (by simp only [List.getElem?_toArray, List.getElem?_cons_succ, List.getElem?_cons_zero] <;> rfl) (by rfl) (by kernel_rfl) (by kernel_rfl) (by kernel_rfl) (fun _ _ _ h => h) (by rfl) (by kernel_rfl) ?_ ?_
    rotate_left
    · ((intro u hu); obtain ⟨c0, c1, c2, c3, c4, c5, c6, c7, c8⟩ := (hF.kb hu (by simp)).nine; go_simp; try with_reducible rfl)
    try simp only [Act.put, List.setIfInBounds_toArray, List.set_cons_zero, List.set_cons_succ]
    refine wb_pure (i := 4) (d := some 11) (v := ?_) (by simp only [List.getElem?_toArray, List.getElem?_cons_succ, List.getElem?_cons_zero] <;> rfl) (by rfl) (by kernel_rfl) (by kernel_rfl) (by kernel_rfl) (fun _ _ _ h => h) (by rfl) ?_ ?_
    rotate_left
    · ((intro u); go_simp; try with_reducible rfl)
    try simp only [Act.put, List.setIfInBounds_toArray, List.set_cons_zero, List.set_cons_succ]
    refine wb_pure (i := 7) (d := some 14) (v := ?_) (by simp only [List.getElem?_toArray, List.getElem?_cons_succ, List.getElem?_cons_zero] <;> rfl) (by rfl) (by kernel_rfl) (by kernel_rfl) (by kernel_rfl) (fun _ _ _ h => h) (by rfl) ?_ ?_
    rotate_left
    · ((intro u); go_simp; try with_reducible rfl)
    try simp only [Act.put, List.setIfInBounds_toArray, List.set_cons_zero, List.set_cons_succ]
    refine wb_three (i := 5) (k := 8) (l := 11) (by simp only [List.getElem?_toArray, List.getElem?_cons_succ, List.getElem?_cons_zero] <;> rfl) (by simp only [List.getElem?_toArray, List.getElem?_cons_succ, List.getElem?_cons_zero] <;> rfl) (by simp only [List.getElem?_toArray, List.getElem?_cons_succ, List.getElem?_cons_zero] <;> rfl) (by kernel_rfl) (by rfl) (by rfl) (by rfl) (fun K hK => ?_) (fun K hK => ?_) (fun K hK => ?_)
    · go_simp
      refine hK.out _ _ (Kb.gb (World.grownBy_alloc _ _ none) (by intro p hp; rw [List.mem_singleton.1 hp]; exact ⟨hF.lt, by simp⟩)) ?_
      refine wb_new (cs := ([0, 1, 64, 255] : List Int).map (Value.int .i64)) (t := 3) (fun u5 hv5 hL5' hz5 => ?_)
      have hbp5 := hs.lt
      have hrp5 := hR.lt
      obtain ⟨p5, hL5, hlt5, hrq5, hE5⟩ := blk_ex hL5' hbp5 hrp5
      rw [hE5]
      replace hs := hs.below hv5
      replace hg := gb_below hg hv5
      try (replace hF := hF.below hv5)
      try (replace hR := hR.below hv5)
      skip
      try (replace hL8 := hL8.below hv5)
      try (replace hL11 := hL11.below hv5)
      clear hK K hv5 hz5 hL5' hE5 hbp5 hrp5
      try simp only [Act.put, List.setIfInBounds_toArray, List.set_cons_zero, List.set_cons_succ]
      refine wb_three (i := 6) (k := 8) (l := 11) (by simp only [List.getElem?_toArray, List.getElem?_cons_succ, List.getElem?_cons_zero] <;> rfl) (by simp only [List.getElem?_toArray, List.getElem?_cons_succ, List.getElem?_cons_zero] <;> rfl) (by simp only [List.getElem?_toArray, List.getElem?_cons_succ, List.getElem?_cons_zero] <;> rfl) (by kernel_rfl) (by rfl) (by rfl) (by rfl) (fun K hK => ?_) (fun K hK => ?_) (fun K hK => ?_)
      · go_simp
        refine (pick_blkP _ b ((R + 50) + 1) p5 4 [0, 1, 64, 255] _ _ hs hL5 hlt5 (by simp) (by simp) (by simp) (fun z => 0 ≤ z ∧ z ≤ 255) (by simp)).mono ?_
        rintro e u6 ⟨r6, hr6, rfl, hs1, hg1⟩
        refine hK.out _ _ (Kb.gb hg1 (by intro p hp; rw [List.mem_singleton.1 hp]; exact ⟨hF.lt, by intro e; cases e; omega⟩)) ?_
        replace hs := hs1
        replace hg := gb_trans hg hg1
        try (replace hF := hF.gb hg1 (by omega))
        try (replace hR := hR.gb hg1 (by omega))
        try (replace hL5 := hL5.gb hg1 (by omega))
        try (replace hL8 := hL8.gb hg1 (by omega))
        try (replace hL11 := hL11.gb hg1 (by omega))
        clear hK K hs1 hg1
        try simp only [Act.put, List.setIfInBounds_toArray, List.set_cons_zero, List.set_cons_succ]
        refine wb_two (i := 8) (k := 11) (by simp only [List.getElem?_toArray, List.getElem?_cons_succ, List.getElem?_cons_zero] <;> rfl) (by simp only [List.getElem?_toArray, List.getElem?_cons_succ, List.getElem?_cons_zero] <;> rfl) (by kernel_rfl) (by rfl) (by rfl) (fun K hK => ?_) (fun K hK => ?_)
        · go_simp
          refine hK.out _ _ (Kb.gb (World.grownBy_alloc _ _ none) (by intro p hp; rw [List.mem_singleton.1 hp]; exact ⟨hF.lt, by simp⟩)) ?_
          refine wb_new (cs := ([6, 6, 17, 1] : List Int).map (Value.int .i64)) (t := 3) (fun u8 hv8 hL8' hz8 => ?_)
          have hbp8 := hs.lt
          have hrp8 := hR.lt
          obtain ⟨p8, hL8, hlt8, hrq8, hE8⟩ := blk_ex hL8' hbp8 hrp8
          rw [hE8]
          replace hs := hs.below hv8
          replace hg := gb_below hg hv8
          try (replace hF := hF.below hv8)
          try (replace hR := hR.below hv8)
          try (replace hL5 := hL5.below hv8)
          skip
          try (replace hL11 := hL11.below hv8)
          clear hK K hv8 hz8 hL8' hE8 hbp8 hrp8
          try simp only [Act.put, List.setIfInBounds_toArray, List.set_cons_zero, List.set_cons_succ]
          refine wb_two (i := 9) (k := 11) (by simp only [List.getElem?_toArray, List.getElem?_cons_succ, List.getElem?_cons_zero] <;> rfl) (by simp only [List.getElem?_toArray, List.getElem?_cons_succ, List.getElem?_cons_zero] <;> rfl) (by kernel_rfl) (by rfl) (by rfl) (fun K hK => ?_) (fun K hK => ?_)
          · go_simp
            refine (pick_blkP _ b (R + 50) p8 4 [6, 6, 17, 1] _ _ hs hL8 hlt8 (by simp) (by simp) (by simp) (fun z => z = 1 ∨ z = 6 ∨ z = 17) (by simp)).mono ?_
            rintro e u9 ⟨r9, hr9, rfl, hs1, hg1⟩
            refine hK.out _ _ (Kb.gb hg1 (by intro p hp; rw [List.mem_singleton.1 hp]; exact ⟨hF.lt, by intro e; cases e; omega⟩)) ?_
            replace hs := hs1
            replace hg := gb_trans hg hg1
            try (replace hF := hF.gb hg1 (by omega))
            try (replace hR := hR.gb hg1 (by omega))
            try (replace hL5 := hL5.gb hg1 (by omega))
            try (replace hL8 := hL8.gb hg1 (by omega))
            try (replace hL11 := hL11.gb hg1 (by omega))
            clear hK K hs1 hg1
            try simp only [Act.put, List.setIfInBounds_toArray, List.set_cons_zero, List.set_cons_succ]
            refine wb_pure (i := 10) (d := some 17) (v := ?_) (by simp only [List.getElem?_toArray, List.getElem?_cons_succ, List.getElem?_cons_zero] <;> rfl) (by rfl) (by kernel_rfl) (by kernel_rfl) (by kernel_rfl) (fun _ _ _ h => h) (by rfl) ?_ ?_
            rotate_left
            · ((intro u); go_simp; try with_reducible rfl)
            try simp only [Act.put, List.setIfInBounds_toArray, List.set_cons_zero, List.set_cons_succ]
            refine wb_one (i := 11) (by simp only [List.getElem?_toArray, List.getElem?_cons_succ, List.getElem?_cons_zero] <;> rfl) (by kernel_rfl) (by rfl) (fun K hK => ?_)
            go_simp
            refine hK.out _ _ (Kb.gb (World.grownBy_alloc _ _ none) (by intro p hp; rw [List.mem_singleton.1 hp]; exact ⟨hF.lt, by simp⟩)) ?_
            refine wb_new (cs := [.bool false, .int .u64 0, .int .u64 0, .bool false, .int .u64 0, .int .u64 0, .int .i64 0, .int .i64 0, .int .i64 0, .int .i64 0, .bool false, .bool false, .bool false, .bool false, .int .i64 0, .int .i64 0, .bool false, .int .i64 0, .slice none 0 0]) (t := 31) (fun u11 hv11 hL11' hz11 => ?_)
            have hbp11 := hs.lt
            have hrp11 := hR.lt
            obtain ⟨p11, hL11, hlt11, hrq11, hE11⟩ := blk_ex hL11' hbp11 hrp11
            rw [hE11]
            replace hs := hs.below hv11
            replace hg := gb_below hg hv11
            try (replace hF := hF.below hv11)
            try (replace hR := hR.below hv11)
            try (replace hL5 := hL5.below hv11)
            try (replace hL8 := hL8.below hv11)
            skip
            clear hK K hv11 hz11 hL11' hE11 hbp11 hrp11
            try simp only [Act.put, List.setIfInBounds_toArray, List.set_cons_zero, List.set_cons_succ]
            refine wb_one (i := 12) (by simp only [List.getElem?_toArray, List.getElem?_cons_succ, List.getElem?_cons_zero] <;> rfl) (by kernel_rfl) (by rfl) (fun K hK => ?_)
            refine wp_store_row 31 _ _ rfl p11 (pkL (q0 fs fh fl ts th tl r6 r9) (.slice none 0 0)).toArray rfl rfl 31 _ hL11 (by kernel_rfl) rfl (pk_one _ _ rfl) ?_
            have hX := PreP.row (q := q0 fs fh fl ts th tl r6 r9) (v := .slice none 0 0) hs hR hL11 hg hb0 (Nat.le_refl _) hrq11
            refine hK.out _ _ ?_ ?_
            · intro p hp; rw [List.mem_singleton.1 hp]; exact setRow_other _ p11 fb _ (fun e => by have h1 := hF; rw [Blk, e, hL11] at h1; cases h1)
            clear hK K
            try simp only [Act.put, List.setIfInBounds_toArray, List.set_cons_zero, List.set_cons_succ]
            refine wb_done (by kernel_rfl) ?_ _
            go_wp2_with fail
            go_meet
            exact ⟨_, _, _, ⟨hr9, hr6⟩, rfl, hU, Lib.hid hX⟩
          · go_simp
            refine hK.out _ _ (Kb.gb (World.grownBy_alloc _ _ none) (by intro p hp; rw [List.mem_singleton.1 hp]; exact ⟨hF.lt, by simp⟩)) ?_
            refine wb_new (cs := [.bool false, .int .u64 0, .int .u64 0, .bool false, .int .u64 0, .int .u64 0, .int .i64 0, .int .i64 0, .int .i64 0, .int .i64 0, .bool false, .bool false, .bool false, .bool false, .int .i64 0, .int .i64 0, .bool false, .int .i64 0, .slice none 0 0]) (t := 31) (fun u11 hv11 hL11' hz11 => ?_)
            have hbp11 := hs.lt
            have hrp11 := hR.lt
            obtain ⟨p11, hL11, hlt11, hrq11, hE11⟩ := blk_ex hL11' hbp11 hrp11
            rw [hE11]
            replace hs := hs.below hv11
            replace hg := gb_below hg hv11
            try (replace hF := hF.below hv11)
            try (replace hR := hR.below hv11)
            try (replace hL5 := hL5.below hv11)
            try (replace hL8 := hL8.below hv11)
            skip
            clear hK K hv11 hz11 hL11' hE11 hbp11 hrp11
            try simp only [Act.put, List.setIfInBounds_toArray, List.set_cons_zero, List.set_cons_succ]
            refine wb_one (i := 9) (by simp only [List.getElem?_toArray, List.getElem?_cons_succ, List.getElem?_cons_zero] <;> rfl) (by kernel_rfl) (by rfl) (fun K hK => ?_)
            go_simp
            refine (pick_blkP _ b (R + 50) p8 4 [6, 6, 17, 1] _ _ hs hL8 hlt8 (by simp) (by simp) (by simp) (fun z => z = 1 ∨ z = 6 ∨ z = 17) (by simp)).mono ?_
            rintro e u9 ⟨r9, hr9, rfl, hs1, hg1⟩
            refine hK.out _ _ (Kb.gb hg1 (by intro p hp; rw [List.mem_singleton.1 hp]; exact ⟨hF.lt, by intro e; cases e; omega⟩)) ?_
            replace hs := hs1
            replace hg := gb_trans hg hg1
            try (replace hF := hF.gb hg1 (by omega))
            try (replace hR := hR.gb hg1 (by omega))
            try (replace hL5 := hL5.gb hg1 (by omega))
            try (replace hL8 := hL8.gb hg1 (by omega))
            try (replace hL11 := hL11.gb hg1 (by omega))
            clear hK K hs1 hg1
            try simp only [Act.put, List.setIfInBounds_toArray, List.set_cons_zero, List.set_cons_succ]
            refine wb_pure (i := 10) (d := some 17) (v := ?_) (by simp only [List.getElem?_toArray, List.getElem?_cons_succ, List.getElem?_cons_zero] <;> rfl) (by rfl) (by kernel_rfl) (by kernel_rfl) (by kernel_rfl) (fun _ _ _ h => h) (by rfl) ?_ ?_
            rotate_left
            · ((intro u); go_simp; try with_reducible rfl)
            try simp only [Act.put, List.setIfInBounds_toArray, List.set_cons_zero, List.set_cons_succ]
            refine wb_one (i := 12) (by simp only [List.getElem?_toArray, List.getElem?_cons_succ, List.getElem?_cons_zero] <;> rfl) (by kernel_rfl) (by rfl) (fun K hK => ?_)
            refine wp_store_row 31 _ _ rfl p11 (pkL (q0 fs fh fl ts th tl r6 r9) (.slice none 0 0)).toArray rfl rfl 31 _ hL11 (by kernel_rfl) rfl (pk_one _ _ rfl) ?_
            have hX := PreP.row (q := q0 fs fh fl ts th tl r6 r9) (v := .slice none 0 0) hs hR hL11 hg hb0 (Nat.le_refl _) hrq11
            refine hK.out _ _ ?_ ?_
            · intro p hp; rw [List.mem_singleton.1 hp]; exact setRow_other _ p11 fb _ (fun e => by have h1 := hF; rw [Blk, e, hL11] at h1; cases h1)
            clear hK K
            try simp only [Act.put, List.setIfInBounds_toArray, List.set_cons_zero, List.set_cons_succ]
            refine wb_done (by kernel_rfl) ?_ _
            go_wp2_with fail
            go_meet
            exact ⟨_, _, _, ⟨hr9, hr6⟩, rfl, hU, Lib.hid hX⟩
        · go_simp
          refine hK.out _ _ (Kb.gb (World.grownBy_alloc _ _ none) (by intro p hp; rw [List.mem_singleton.1 hp]; exact ⟨hF.lt, by simp⟩)) ?_
          refine wb_new (cs := [.bool false, .int .u64 0, .int .u64 0, .bool false, .int .u64 0, .int .u64 0, .int .i64 0, .int .i64 0, .int .i64 0, .int .i64 0, .bool false, .bool false, .bool false, .bool false, .int .i64 0, .int .i64 0, .bool false, .int .i64 0, .slice none 0 0]) (t := 31) (fun u11 hv11 hL11' hz11 => ?_)
          have hbp11 := hs.lt
          have hrp11 := hR.lt
          obtain ⟨p11, hL11, hlt11, hrq11, hE11⟩ := blk_ex hL11' hbp11 hrp11
          rw [hE11]
          replace hs := hs.below hv11
          replace hg := gb_below hg hv11
          try (replace hF := hF.below hv11)
          try (replace hR := hR.below hv11)
          try (replace hL5 := hL5.below hv11)
          try (replace hL8 := hL8.below hv11)
          skip
          clear hK K hv11 hz11 hL11' hE11 hbp11 hrp11
          try simp only [Act.put, List.setIfInBounds_toArray, List.set_cons_zero, List.set_cons_succ]
          refine wb_one (i := 8) (by simp only [List.getElem?_toArray, List.getElem?_cons_succ, List.getElem?_cons_zero] <;> rfl) (by kernel_rfl) (by rfl) (fun K hK => ?_)
          go_simp
          refine hK.out _ _ (Kb.gb (World.grownBy_alloc _ _ none) (by intro p hp; rw [List.mem_singleton.1 hp]; exact ⟨hF.lt, by simp⟩)) ?_
          refine wb_new (cs := ([6, 6, 17, 1] : List Int).map (Value.int .i64)) (t := 3) (fun u8 hv8 hL8' hz8 => ?_)
          have hbp8 := hs.lt
          have hrp8 := hR.lt
          obtain ⟨p8, hL8, hlt8, hrq8, hE8⟩ := blk_ex hL8' hbp8 hrp8
          rw [hE8]
          replace hs := hs.below hv8
          replace hg := gb_below hg hv8
          try (replace hF := hF.below hv8)
          try (replace hR := hR.below hv8)
          try (replace hL5 := hL5.below hv8)
          skip
          try (replace hL11 := hL11.below hv8)
          clear hK K hv8 hz8 hL8' hE8 hbp8 hrp8
          try simp only [Act.put, List.setIfInBounds_toArray, List.set_cons_zero, List.set_cons_succ]
          refine wb_one (i := 9) (by simp only [List.getElem?_toArray, List.getElem?_cons_succ, List.getElem?_cons_zero] <;> rfl) (by kernel_rfl) (by rfl) (fun K hK => ?_)
          go_simp
          refine (pick_blkP _ b (R + 50) p8 4 [6, 6, 17, 1] _ _ hs hL8 hlt8 (by simp) (by simp) (by simp) (fun z => z = 1 ∨ z = 6 ∨ z = 17) (by simp)).mono ?_
          rintro e u9 ⟨r9, hr9, rfl, hs1, hg1⟩
          refine hK.out _ _ (Kb.gb hg1 (by intro p hp; rw [List.mem_singleton.1 hp]; exact ⟨hF.lt, by intro e; cases e; omega⟩)) ?_
          replace hs := hs1
          replace hg := gb_trans hg hg1
          try (replace hF := hF.gb hg1 (by omega))
          try (replace hR := hR.gb hg1 (by omega))
          try (replace hL5 := hL5.gb hg1 (by omega))
          try (replace hL8 := hL8.gb hg1 (by omega))
          try (replace hL11 := hL11.gb hg1 (by omega))
          clear hK K hs1 hg1
          try simp only [Act.put, List.setIfInBounds_toArray, List.set_cons_zero, List.set_cons_succ]
          refine wb_pure (i := 10) (d := some 17) (v := ?_) (by simp only [List.getElem?_toArray, List.getElem?_cons_succ, List.getElem?_cons_zero] <;> rfl) (by rfl) (by kernel_rfl) (by kernel_rfl) (by kernel_rfl) (fun _ _ _ h => h) (by rfl) ?_ ?_
          rotate_left
          · ((intro u); go_simp; try with_reducible rfl)
          try simp only [Act.put, List.setIfInBounds_toArray, List.set_cons_zero, List.set_cons_succ]
          refine wb_one (i := 12) (by simp only [List.getElem?_toArray, List.getElem?_cons_succ, List.getElem?_cons_zero] <;> rfl) (by kernel_rfl) (by rfl) (fun K hK => ?_)
          refine wp_store_row 31 _ _ rfl p11 (pkL (q0 fs fh fl ts th tl r6 r9) (.slice none 0 0)).toArray rfl rfl 31 _ hL11 (by kernel_rfl) rfl (pk_one _ _ rfl) ?_
          have hX := PreP.row (q := q0 fs fh fl ts th tl r6 r9) (v := .slice none 0 0) hs hR hL11 hg hb0 (Nat.le_refl _) hrq11
          refine hK.out _ _ ?_ ?_
          · intro p hp; rw [List.mem_singleton.1 hp]; exact setRow_other _ p11 fb _ (fun e => by have h1 := hF; rw [Blk, e, hL11] at h1; cases h1)
          clear hK K
          try simp only [Act.put, List.setIfInBounds_toArray, List.set_cons_zero, List.set_cons_succ]
          refine wb_done (by kernel_rfl) ?_ _
          go_wp2_with fail
          go_meet
          exact ⟨_, _, _, ⟨hr9, hr6⟩, rfl, hU, Lib.hid hX⟩
      · go_simp
        refine hK.out _ _ (Kb.gb (World.grownBy_alloc _ _ none) (by intro p hp; rw [List.mem_singleton.1 hp]; exact ⟨hF.lt, by simp⟩)) ?_
        refine wb_new (cs := ([6, 6, 17, 1] : List Int).map (Value.int .i64)) (t := 3) (fun u8 hv8 hL8' hz8 => ?_)
        have hbp8 := hs.lt
        have hrp8 := hR.lt
        obtain ⟨p8, hL8, hlt8, hrq8, hE8⟩ := blk_ex hL8' hbp8 hrp8
        rw [hE8]
        replace hs := hs.below hv8
        replace hg := gb_below hg hv8
        try (replace hF := hF.below hv8)
        try (replace hR := hR.below hv8)
        try (replace hL5 := hL5.below hv8)
        skip
        try (replace hL11 := hL11.below hv8)
        clear hK K hv8 hz8 hL8' hE8 hbp8 hrp8
        try simp only [Act.put, List.setIfInBounds_toArray, List.set_cons_zero, List.set_cons_succ]
        refine wb_two (i := 6) (k := 11) (by simp only [List.getElem?_toArray, List.getElem?_cons_succ, List.getElem?_cons_zero] <;> rfl) (by simp only [List.getElem?_toArray, List.getElem?_cons_succ, List.getElem?_cons_zero] <;> rfl) (by kernel_rfl) (by rfl) (by rfl) (fun K hK => ?_) (fun K hK => ?_)
        · go_simp
          refine (pick_blkP _ b ((R + 50) + 1) p5 4 [0, 1, 64, 255] _ _ hs hL5 hlt5 (by simp) (by simp) (by simp) (fun z => 0 ≤ z ∧ z ≤ 255) (by simp)).mono ?_
          rintro e u6 ⟨r6, hr6, rfl, hs1, hg1⟩
          refine hK.out _ _ (Kb.gb hg1 (by intro p hp; rw [List.mem_singleton.1 hp]; exact ⟨hF.lt, by intro e; cases e; omega⟩)) ?_
          replace hs := hs1
          replace hg := gb_trans hg hg1
          try (replace hF := hF.gb hg1 (by omega))
          try (replace hR := hR.gb hg1 (by omega))
          try (replace hL5 := hL5.gb hg1 (by omega))
          try (replace hL8 := hL8.gb hg1 (by omega))
          try (replace hL11 := hL11.gb hg1 (by omega))
          clear hK K hs1 hg1
          try simp only [Act.put, List.setIfInBounds_toArray, List.set_cons_zero, List.set_cons_succ]
          refine wb_two (i := 9) (k := 11) (by simp only [List.getElem?_toArray, List.getElem?_cons_succ, List.getElem?_cons_zero] <;> rfl) (by simp only [List.getElem?_toArray, List.getElem?_cons_succ, List.getElem?_cons_zero] <;> rfl) (by kernel_rfl) (by rfl) (by rfl) (fun K hK => ?_) (fun K hK => ?_)
          · go_simp
            refine (pick_blkP _ b (R + 50) p8 4 [6, 6, 17, 1] _ _ hs hL8 hlt8 (by simp) (by simp) (by simp) (fun z => z = 1 ∨ z = 6 ∨ z = 17) (by simp)).mono ?_
            rintro e u9 ⟨r9, hr9, rfl, hs1, hg1⟩
            refine hK.out _ _ (Kb.gb hg1 (by intro p hp; rw [List.mem_singleton.1 hp]; exact ⟨hF.lt, by intro e; cases e; omega⟩)) ?_
            replace hs := hs1
            replace hg := gb_trans hg hg1
            try (replace hF := hF.gb hg1 (by omega))
            try (replace hR := hR.gb hg1 (by omega))
            try (replace hL5 := hL5.gb hg1 (by omega))
            try (replace hL8 := hL8.gb hg1 (by omega))
            try (replace hL11 := hL11.gb hg1 (by omega))
            clear hK K hs1 hg1
            try simp only [Act.put, List.setIfInBounds_toArray, List.set_cons_zero, List.set_cons_succ]
            refine wb_pure (i := 10) (d := some 17) (v := ?_) (by simp only [List.getElem?_toArray, List.getElem?_cons_succ, List.getElem?_cons_zero] <;> rfl) (by rfl) (by kernel_rfl) (by kernel_rfl) (by kernel_rfl) (fun _ _ _ h => h) (by rfl) ?_ ?_
            rotate_left
            · ((intro u); go_simp; try with_reducible rfl)
            try simp only [Act.put, List.setIfInBounds_toArray, List.set_cons_zero, List.set_cons_succ]
            refine wb_one (i := 11) (by simp only [List.getElem?_toArray, List.getElem?_cons_succ, List.getElem?_cons_zero] <;> rfl) (by kernel_rfl) (by rfl) (fun K hK => ?_)
            go_simp
            refine hK.out _ _ (Kb.gb (World.grownBy_alloc _ _ none) (by intro p hp; rw [List.mem_singleton.1 hp]; exact ⟨hF.lt, by simp⟩)) ?_
            refine wb_new (cs := [.bool false, .int .u64 0, .int .u64 0, .bool false, .int .u64 0, .int .u64 0, .int .i64 0, .int .i64 0, .int .i64 0, .int .i64 0, .bool false, .bool false, .bool false, .bool false, .int .i64 0, .int .i64 0, .bool false, .int .i64 0, .slice none 0 0]) (t := 31) (fun u11 hv11 hL11' hz11 => ?_)
            have hbp11 := hs.lt
            have hrp11 := hR.lt
            obtain ⟨p11, hL11, hlt11, hrq11, hE11⟩ := blk_ex hL11' hbp11 hrp11
            rw [hE11]
            replace hs := hs.below hv11
            replace hg := gb_below hg hv11
            try (replace hF := hF.below hv11)
            try (replace hR := hR.below hv11)
            try (replace hL5 := hL5.below hv11)
            try (replace hL8 := hL8.below hv11)
            skip
            clear hK K hv11 hz11 hL11' hE11 hbp11 hrp11
            try simp only [Act.put, List.setIfInBounds_toArray, List.set_cons_zero, List.set_cons_succ]
            refine wb_one (i := 12) (by simp only [List.getElem?_toArray, List.getElem?_cons_succ, List.getElem?_cons_zero] <;> rfl) (by kernel_rfl) (by rfl) (fun K hK => ?_)
            refine wp_store_row 31 _ _ rfl p11 (pkL (q0 fs fh fl ts th tl r6 r9) (.slice none 0 0)).toArray rfl rfl 31 _ hL11 (by kernel_rfl) rfl (pk_one _ _ rfl) ?_
            have hX := PreP.row (q := q0 fs fh fl ts th tl r6 r9) (v := .slice none 0 0) hs hR hL11 hg hb0 (Nat.le_refl _) hrq11
            refine hK.out _ _ ?_ ?_
            · intro p hp; rw [List.mem_singleton.1 hp]; exact setRow_other _ p11 fb _ (fun e => by have h1 := hF; rw [Blk, e, hL11] at h1; cases h1)
            clear hK K
            try simp only [Act.put, List.setIfInBounds_toArray, List.set_cons_zero, List.set_cons_succ]
            refine wb_done (by kernel_rfl) ?_ _
            go_wp2_with fail
            go_meet
            exact ⟨_, _, _, ⟨hr9, hr6⟩, rfl, hU, Lib.hid hX⟩
          · go_simp
            refine hK.out _ _ (Kb.gb (World.grownBy_alloc _ _ none) (by intro p hp; rw [List.mem_singleton.1 hp]; exact ⟨hF.lt, by simp⟩)) ?_
            refine wb_new (cs := [.bool false, .int .u64 0, .int .u64 0, .bool false, .int .u64 0, .int .u64 0, .int .i64 0, .int .i64 0, .int .i64 0, .int .i64 0, .bool false, .bool false, .bool false, .bool false, .int .i64 0, .int .i64 0, .bool false, .int .i64 0, .slice none 0 0]) (t := 31) (fun u11 hv11 hL11' hz11 => ?_)
            have hbp11 := hs.lt
            have hrp11 := hR.lt
            obtain ⟨p11, hL11, hlt11, hrq11, hE11⟩ := blk_ex hL11' hbp11 hrp11
            rw [hE11]
            replace hs := hs.below hv11
            replace hg := gb_below hg hv11
            try (replace hF := hF.below hv11)
            try (replace hR := hR.below hv11)
            try (replace hL5 := hL5.below hv11)
            try (replace hL8 := hL8.below hv11)
            skip
            clear hK K hv11 hz11 hL11' hE11 hbp11 hrp11
            try simp only [Act.put, List.setIfInBounds_toArray, List.set_cons_zero, List.set_cons_succ]
            refine wb_one (i := 9) (by simp only [List.getElem?_toArray, List.getElem?_cons_succ, List.getElem?_cons_zero] <;> rfl) (by kernel_rfl) (by rfl) (fun K hK => ?_)
            go_simp
            refine (pick_blkP _ b (R + 50) p8 4 [6, 6, 17, 1] _ _ hs hL8 hlt8 (by simp) (by simp) (by simp) (fun z => z = 1 ∨ z = 6 ∨ z = 17) (by simp)).mono ?_
            rintro e u9 ⟨r9, hr9, rfl, hs1, hg1⟩
            refine hK.out _ _ (Kb.gb hg1 (by intro p hp; rw [List.mem_singleton.1 hp]; exact ⟨hF.lt, by intro e; cases e; omega⟩)) ?_
            replace hs := hs1
            replace hg := gb_trans hg hg1
            try (replace hF := hF.gb hg1 (by omega))
            try (replace hR := hR.gb hg1 (by omega))
            try (replace hL5 := hL5.gb hg1 (by omega))
            try (replace hL8 := hL8.gb hg1 (by omega))
            try (replace hL11 := hL11.gb hg1 (by omega))
            clear hK K hs1 hg1
            try simp only [Act.put, List.setIfInBounds_toArray, List.set_cons_zero, List.set_cons_succ]
            refine wb_pure (i := 10) (d := some 17) (v := ?_) (by simp only [List.getElem?_toArray, List.getElem?_cons_succ, List.getElem?_cons_zero] <;> rfl) (by rfl) (by kernel_rfl) (by kernel_rfl) (by kernel_rfl) (fun _ _ _ h => h) (by rfl) ?_ ?_
            rotate_left
            · ((intro u); go_simp; try with_reducible rfl)
            try simp only [Act.put, List.setIfInBounds_toArray, List.set_cons_zero, List.set_cons_succ]
            refine wb_one (i := 12) (by simp only [List.getElem?_toArray, List.getElem?_cons_succ, List.getElem?_cons_zero] <;> rfl) (by kernel_rfl) (by rfl) (fun K hK => ?_)
            refine wp_store_row 31 _ _ rfl p11 (pkL (q0 fs fh fl ts th tl r6 r9) (.slice none 0 0)).toArray rfl rfl 31 _ hL11 (by kernel_rfl) rfl (pk_one _ _ rfl) ?_
            have hX := PreP.row (q := q0 fs fh fl ts th tl r6 r9) (v := .slice none 0 0) hs hR hL11 hg hb0 (Nat.le_refl _) hrq11
            refine hK.out _ _ ?_ ?_
            · intro p hp; rw [List.mem_singleton.1 hp]; exact setRow_other _ p11 fb _ (fun e => by have h1 := hF; rw [Blk, e, hL11] at h1; cases h1)
            clear hK K
            try simp only [Act.put, List.setIfInBounds_toArray, List.set_cons_zero, List.set_cons_succ]
            refine wb_done (by kernel_rfl) ?_ _
            go_wp2_with fail
            go_meet
            exact ⟨_, _, _, ⟨hr9, hr6⟩, rfl, hU, Lib.hid hX⟩
        · go_simp
          refine hK.out _ _ (Kb.gb (World.grownBy_alloc _ _ none) (by intro p hp; rw [List.mem_singleton.1 hp]; exact ⟨hF.lt, by simp⟩)) ?_
          refine wb_new (cs := [.bool false, .int .u64 0, .int .u64 0, .bool false, .int .u64 0, .int .u64 0, .int .i64 0, .int .i64 0, .int .i64 0, .int .i64 0, .bool false, .bool false, .bool false, .bool false, .int .i64 0, .int .i64 0, .bool false, .int .i64 0, .slice none 0 0]) (t := 31) (fun u11 hv11 hL11' hz11 => ?_)
          have hbp11 := hs.lt
          have hrp11 := hR.lt
          obtain ⟨p11, hL11, hlt11, hrq11, hE11⟩ := blk_ex hL11' hbp11 hrp11
          rw [hE11]
          replace hs := hs.below hv11
          replace hg := gb_below hg hv11
          try (replace hF := hF.below hv11)
          try (replace hR := hR.below hv11)
          try (replace hL5 := hL5.below hv11)
          try (replace hL8 := hL8.below hv11)
          skip
          clear hK K hv11 hz11 hL11' hE11 hbp11 hrp11
          try simp only [Act.put, List.setIfInBounds_toArray, List.set_cons_zero, List.set_cons_succ]
          refine wb_one (i := 6) (by simp only [List.getElem?_toArray, List.getElem?_cons_succ, List.getElem?_cons_zero] <;> rfl) (by kernel_rfl) (by rfl) (fun K hK => ?_)
          go_simp
          refine (pick_blkP _ b ((R + 50) + 1) p5 4 [0, 1, 64, 255] _ _ hs hL5 hlt5 (by simp) (by simp) (by simp) (fun z => 0 ≤ z ∧ z ≤ 255) (by simp)).mono ?_
          rintro e u6 ⟨r6, hr6, rfl, hs1, hg1⟩
          refine hK.out _ _ (Kb.gb hg1 (by intro p hp; rw [List.mem_singleton.1 hp]; exact ⟨hF.lt, by intro e; cases e; omega⟩)) ?_
          replace hs := hs1
          replace hg := gb_trans hg hg1
          try (replace hF := hF.gb hg1 (by omega))
          try (replace hR := hR.gb hg1 (by omega))
          try (replace hL5 := hL5.gb hg1 (by omega))
          try (replace hL8 := hL8.gb hg1 (by omega))
          try (replace hL11 := hL11.gb hg1 (by omega))
          clear hK K hs1 hg1
          try simp only [Act.put, List.setIfInBounds_toArray, List.set_cons_zero, List.set_cons_succ]
          refine wb_one (i := 9) (by simp only [List.getElem?_toArray, List.getElem?_cons_succ, List.getElem?_cons_zero] <;> rfl) (by kernel_rfl) (by rfl) (fun K hK => ?_)
          go_simp
          refine (pick_blkP _ b (R + 50) p8 4 [6, 6, 17, 1] _ _ hs hL8 hlt8 (by simp) (by simp) (by simp) (fun z => z = 1 ∨ z = 6 ∨ z = 17) (by simp)).mono ?_
          rintro e u9 ⟨r9, hr9, rfl, hs1, hg1⟩
          refine hK.out _ _ (Kb.gb hg1 (by intro p hp; rw [List.mem_singleton.1 hp]; exact ⟨hF.lt, by intro e; cases e; omega⟩)) ?_
          replace hs := hs1
          replace hg := gb_trans hg hg1
          try (replace hF := hF.gb hg1 (by omega))
          try (replace hR := hR.gb hg1 (by omega))
          try (replace hL5 := hL5.gb hg1 (by omega))
          try (replace hL8 := hL8.gb hg1 (by omega))
          try (replace hL11 := hL11.gb hg1 (by omega))
          clear hK K hs1 hg1
          try simp only [Act.put, List.setIfInBounds_toArray, List.set_cons_zero, List.set_cons_succ]
          refine wb_pure (i := 10) (d := some 17) (v := ?_) (by simp only [List.getElem?_toArray, List.getElem?_cons_succ, List.getElem?_cons_zero] <;> rfl) (by rfl) (by kernel_rfl) (by kernel_rfl) (by kernel_rfl) (fun _ _ _ h => h) (by rfl) ?_ ?_
          rotate_left
          · ((intro u); go_simp; try with_reducible rfl)
          try simp only [Act.put, List.setIfInBounds_toArray, List.set_cons_zero, List.set_cons_succ]
          refine wb_one (i := 12) (by simp only [List.getElem?_toArray, List.getElem?_cons_succ, List.getElem?_cons_zero] <;> rfl) (by kernel_rfl) (by rfl) (fun K hK => ?_)
          refine wp_store_row 31 _ _ rfl p11 (pkL (q0 fs fh fl ts th tl r6 r9) (.slice none 0 0)).toArray rfl rfl 31 _ hL11 (by kernel_rfl) rfl (pk_one _ _ rfl) ?_
          have hX := PreP.row (q := q0 fs fh fl ts th tl r6 r9) (v := .slice none 0 0) hs hR hL11 hg hb0 (Nat.le_refl _) hrq11
          refine hK.out _ _ ?_ ?_
          · intro p hp; rw [List.mem_singleton.1 hp]; exact setRow_other _ p11 fb _ (fun e => by have h1 := hF; rw [Blk, e, hL11] at h1; cases h1)
          clear hK K
          try simp only [Act.put, List.setIfInBounds_toArray, List.set_cons_zero, List.set_cons_succ]
          refine wb_done (by kernel_rfl) ?_ _
          go_wp2_with fail
          go_meet
          exact ⟨_, _, _, ⟨hr9, hr6⟩, rfl, hU, Lib.hid hX⟩
      · go_simp
        refine hK.out _ _ (Kb.gb (World.grownBy_alloc _ _ none) (by intro p hp; rw [List.mem_singleton.1 hp]; exact ⟨hF.lt, by simp⟩)) ?_
        refine wb_new (cs := [.bool false, .int .u64 0, .int .u64 0, .bool false, .int .u64 0, .int .u64 0, .int .i64 0, .int .i64 0, .int .i64 0, .int .i64 0, .bool false, .bool false, .bool false, .bool false, .int .i64 0, .int .i64 0, .bool false, .int .i64 0, .slice none 0 0]) (t := 31) (fun u11 hv11 hL11' hz11 => ?_)
        have hbp11 := hs.lt
        have hrp11 := hR.lt
        obtain ⟨p11, hL11, hlt11, hrq11, hE11⟩ := blk_ex hL11' hbp11 hrp11
        rw [hE11]
        replace hs := hs.below hv11
        replace hg := gb_below hg hv11
        try (replace hF := hF.below hv11)
        try (replace hR := hR.below hv11)
        try (replace hL5 := hL5.below hv11)
        try (replace hL8 := hL8.below hv11)
        skip
        clear hK K hv11 hz11 hL11' hE11 hbp11 hrp11
        try simp only [Act.put, List.setIfInBounds_toArray, List.set_cons_zero, List.set_cons_succ]
        refine wb_two (i := 6) (k := 8) (by simp only [List.getElem?_toArray, List.getElem?_cons_succ, List.getElem?_cons_zero] <;> rfl) (by simp only [List.getElem?_toArray, List.getElem?_cons_succ, List.getElem?_cons_zero] <;> rfl) (by kernel_rfl) (by rfl) (by rfl) (fun K hK => ?_) (fun K hK => ?_)
        · go_simp
          refine (pick_blkP _ b ((R + 50) + 1) p5 4 [0, 1, 64, 255] _ _ hs hL5 hlt5 (by simp) (by simp) (by simp) (fun z => 0 ≤ z ∧ z ≤ 255) (by simp)).mono ?_
          rintro e u6 ⟨r6, hr6, rfl, hs1, hg1⟩
          refine hK.out _ _ (Kb.gb hg1 (by intro p hp; rw [List.mem_singleton.1 hp]; exact ⟨hF.lt, by intro e; cases e; omega⟩)) ?_
          replace hs := hs1
          replace hg := gb_trans hg hg1
          try (replace hF := hF.gb hg1 (by omega))
          try (replace hR := hR.gb hg1 (by omega))
          try (replace hL5 := hL5.gb hg1 (by omega))
          try (replace hL8 := hL8.gb hg1 (by omega))
          try (replace hL11 := hL11.gb hg1 (by omega))
          clear hK K hs1 hg1
          try simp only [Act.put, List.setIfInBounds_toArray, List.set_cons_zero, List.set_cons_succ]
          refine wb_one (i := 8) (by simp only [List.getElem?_toArray, List.getElem?_cons_succ, List.getElem?_cons_zero] <;> rfl) (by kernel_rfl) (by rfl) (fun K hK => ?_)
          go_simp
          refine hK.out _ _ (Kb.gb (World.grownBy_alloc _ _ none) (by intro p hp; rw [List.mem_singleton.1 hp]; exact ⟨hF.lt, by simp⟩)) ?_
          refine wb_new (cs := ([6, 6, 17, 1] : List Int).map (Value.int .i64)) (t := 3) (fun u8 hv8 hL8' hz8 => ?_)
          have hbp8 := hs.lt
          have hrp8 := hR.lt
          obtain ⟨p8, hL8, hlt8, hrq8, hE8⟩ := blk_ex hL8' hbp8 hrp8
          rw [hE8]
          replace hs := hs.below hv8
          replace hg := gb_below hg hv8
          try (replace hF := hF.below hv8)
          try (replace hR := hR.below hv8)
          try (replace hL5 := hL5.below hv8)
          skip
          try (replace hL11 := hL11.below hv8)
          clear hK K hv8 hz8 hL8' hE8 hbp8 hrp8
          try simp only [Act.put, List.setIfInBounds_toArray, List.set_cons_zero, List.set_cons_succ]
          refine wb_one (i := 9) (by simp only [List.getElem?_toArray, List.getElem?_cons_succ, List.getElem?_cons_zero] <;> rfl) (by kernel_rfl) (by rfl) (fun K hK => ?_)
          go_simp
          refine (pick_blkP _ b (R + 50) p8 4 [6, 6, 17, 1] _ _ hs hL8 hlt8 (by simp) (by simp) (by simp) (fun z => z = 1 ∨ z = 6 ∨ z = 17) (by simp)).mono ?_
          rintro e u9 ⟨r9, hr9, rfl, hs1, hg1⟩
          refine hK.out _ _ (Kb.gb hg1 (by intro p hp; rw [List.mem_singleton.1 hp]; exact ⟨hF.lt, by intro e; cases e; omega⟩)) ?_
          replace hs := hs1
          replace hg := gb_trans hg hg1
          try (replace hF := hF.gb hg1 (by omega))
          try (replace hR := hR.gb hg1 (by omega))
          try (replace hL5 := hL5.gb hg1 (by omega))
          try (replace hL8 := hL8.gb hg1 (by omega))
          try (replace hL11 := hL11.gb hg1 (by omega))
          clear hK K hs1 hg1
          try simp only [Act.put, List.setIfInBounds_toArray, List.set_cons_zero, List.set_cons_succ]
          refine wb_pure (i := 10) (d := some 17) (v := ?_) (by simp only [List.getElem?_toArray, List.getElem?_cons_succ, List.getElem?_cons_zero] <;> rfl) (by rfl) (by kernel_rfl) (by kernel_rfl) (by kernel_rfl) (fun _ _ _ h => h) (by rfl) ?_ ?_
          rotate_left
          · ((intro u); go_simp; try with_reducible rfl)
          try simp only [Act.put, List.setIfInBounds_toArray, List.set_cons_zero, List.set_cons_succ]
          refine wb_one (i := 12) (by simp only [List.getElem?_toArray, List.getElem?_cons_succ, List.getElem?_cons_zero] <;> rfl) (by kernel_rfl) (by rfl) (fun K hK => ?_)
          refine wp_store_row 31 _ _ rfl p11 (pkL (q0 fs fh fl ts th tl r6 r9) (.slice none 0 0)).toArray rfl rfl 31 _ hL11 (by kernel_rfl) rfl (pk_one _ _ rfl) ?_
          have hX := PreP.row (q := q0 fs fh fl ts th tl r6 r9) (v := .slice none 0 0) hs hR hL11 hg hb0 (Nat.le_refl _) hrq11
          refine hK.out _ _ ?_ ?_
          · intro p hp; rw [List.mem_singleton.1 hp]; exact setRow_other _ p11 fb _ (fun e => by have h1 := hF; rw [Blk, e, hL11] at h1; cases h1)
          clear hK K
          try simp only [Act.put, List.setIfInBounds_toArray, List.set_cons_zero, List.set_cons_succ]
          refine wb_done (by kernel_rfl) ?_ _
          go_wp2_with fail
          go_meet
          exact ⟨_, _, _, ⟨hr9, hr6⟩, rfl, hU, Lib.hid hX⟩
        · go_simp
          refine hK.out _ _ (Kb.gb (World.grownBy_alloc _ _ none) (by intro p hp; rw [List.mem_singleton.1 hp]; exact ⟨hF.lt, by simp⟩)) ?_
          refine wb_new (cs := ([6, 6, 17, 1] : List Int).map (Value.int .i64)) (t := 3) (fun u8 hv8 hL8' hz8 => ?_)
          have hbp8 := hs.lt
          have hrp8 := hR.lt
          obtain ⟨p8, hL8, hlt8, hrq8, hE8⟩ := blk_ex hL8' hbp8 hrp8
          rw [hE8]
          replace hs := hs.below hv8
          replace hg := gb_below hg hv8
          try (replace hF := hF.below hv8)
          try (replace hR := hR.below hv8)
          try (replace hL5 := hL5.below hv8)
          skip
          try (replace hL11 := hL11.below hv8)
          clear hK K hv8 hz8 hL8' hE8 hbp8 hrp8
          try simp only [Act.put, List.setIfInBounds_toArray, List.set_cons_zero, List.set_cons_succ]
          refine wb_one (i := 6) (by simp only [List.getElem?_toArray, List.getElem?_cons_succ, List.getElem?_cons_zero] <;> rfl) (by kernel_rfl) (by rfl) (fun K hK => ?_)
          go_simp
          refine (pick_blkP _ b ((R + 50) + 1) p5 4 [0, 1, 64, 255] _ _ hs hL5 hlt5 (by simp) (by simp) (by simp) (fun z => 0 ≤ z ∧ z ≤ 255) (by simp)).mono ?_
          rintro e u6 ⟨r6, hr6, rfl, hs1, hg1⟩
          refine hK.out _ _ (Kb.gb hg1 (by intro p hp; rw [List.mem_singleton.1 hp]; exact ⟨hF.lt, by intro e; cases e; omega⟩)) ?_
          replace hs := hs1
          replace hg := gb_trans hg hg1
          try (replace hF := hF.gb hg1 (by omega))
          try (replace hR := hR.gb hg1 (by omega))
          try (replace hL5 := hL5.gb hg1 (by omega))
          try (replace hL8 := hL8.gb hg1 (by omega))
          try (replace hL11 := hL11.gb hg1 (by omega))
          clear hK K hs1 hg1
          try simp only [Act.put, List.setIfInBounds_toArray, List.set_cons_zero, List.set_cons_succ]
          refine wb_one (i := 9) (by simp only [List.getElem?_toArray, List.getElem?_cons_succ, List.getElem?_cons_zero] <;> rfl) (by kernel_rfl) (by rfl) (fun K hK => ?_)
          go_simp
          refine (pick_blkP _ b (R + 50) p8 4 [6, 6, 17, 1] _ _ hs hL8 hlt8 (by simp) (by simp) (by simp) (fun z => z = 1 ∨ z = 6 ∨ z = 17) (by simp)).mono ?_
          rintro e u9 ⟨r9, hr9, rfl, hs1, hg1⟩
          refine hK.out _ _ (Kb.gb hg1 (by intro p hp; rw [List.mem_singleton.1 hp]; exact ⟨hF.lt, by intro e; cases e; omega⟩)) ?_
          replace hs := hs1
          replace hg := gb_trans hg hg1
          try (replace hF := hF.gb hg1 (by omega))
          try (replace hR := hR.gb hg1 (by omega))
          try (replace hL5 := hL5.gb hg1 (by omega))
          try (replace hL8 := hL8.gb hg1 (by omega))
          try (replace hL11 := hL11.gb hg1 (by omega))
          clear hK K hs1 hg1
          try simp only [Act.put, List.setIfInBounds_toArray, List.set_cons_zero, List.set_cons_succ]
          refine wb_pure (i := 10) (d := some 17) (v := ?_) (by simp only [List.getElem?_toArray, List.getElem?_cons_succ, List.getElem?_cons_zero] <;> rfl) (by rfl) (by kernel_rfl) (by kernel_rfl) (by kernel_rfl) (fun _ _ _ h => h) (by rfl) ?_ ?_
          rotate_left
          · ((intro u); go_simp; try with_reducible rfl)
          try simp only [Act.put, List.setIfInBounds_toArray, List.set_cons_zero, List.set_cons_succ]
          refine wb_one (i := 12) (by simp only [List.getElem?_toArray, List.getElem?_cons_succ, List.getElem?_cons_zero] <;> rfl) (by kernel_rfl) (by rfl) (fun K hK => ?_)
          refine wp_store_row 31 _ _ rfl p11 (pkL (q0 fs fh fl ts th tl r6 r9) (.slice none 0 0)).toArray rfl rfl 31 _ hL11 (by kernel_rfl) rfl (pk_one _ _ rfl) ?_
          have hX := PreP.row (q := q0 fs fh fl ts th tl r6 r9) (v := .slice none 0 0) hs hR hL11 hg hb0 (Nat.le_refl _) hrq11
          refine hK.out _ _ ?_ ?_
          · intro p hp; rw [List.mem_singleton.1 hp]; exact setRow_other _ p11 fb _ (fun e => by have h1 := hF; rw [Blk, e, hL11] at h1; cases h1)
          clear hK K
          try simp only [Act.put, List.setIfInBounds_toArray, List.set_cons_zero, List.set_cons_succ]
          refine wb_done (by kernel_rfl) ?_ _
          go_wp2_with fail
          go_meet
          exact ⟨_, _, _, ⟨hr9, hr6⟩, rfl, hU, Lib.hid hX⟩
    · go_simp
      refine hK.out _ _ (Kb.gb (World.grownBy_alloc _ _ none) (by intro p hp; rw [List.mem_singleton.1 hp]; exact ⟨hF.lt, by simp⟩)) ?_
      refine wb_new (cs := ([6, 6, 17, 1] : List Int).map (Value.int .i64)) (t := 3) (fun u8 hv8 hL8' hz8 => ?_)
      have hbp8 := hs.lt
      have hrp8 := hR.lt
      obtain ⟨p8, hL8, hlt8, hrq8, hE8⟩ := blk_ex hL8' hbp8 hrp8
      rw [hE8]
      replace hs := hs.below hv8
      replace hg := gb_below hg hv8
      try (replace hF := hF.below hv8)
      try (replace hR := hR.below hv8)
      try (replace hL5 := hL5.below hv8)
      skip
      try (replace hL11 := hL11.below hv8)
      clear hK K hv8 hz8 hL8' hE8 hbp8 hrp8
      try simp only [Act.put, List.setIfInBounds_toArray, List.set_cons_zero, List.set_cons_succ]
      refine wb_two (i := 5) (k := 11) (by simp only [List.getElem?_toArray, List.getElem?_cons_succ, List.getElem?_cons_zero] <;> rfl) (by simp only [List.getElem?_toArray, List.getElem?_cons_succ, List.getElem?_cons_zero] <;> rfl) (by kernel_rfl) (by rfl) (by rfl) (fun K hK => ?_) (fun K hK => ?_)
      · go_simp
        refine hK.out _ _ (Kb.gb (World.grownBy_alloc _ _ none) (by intro p hp; rw [List.mem_singleton.1 hp]; exact ⟨hF.lt, by simp⟩)) ?_
        refine wb_new (cs := ([0, 1, 64, 255] : List Int).map (Value.int .i64)) (t := 3) (fun u5 hv5 hL5' hz5 => ?_)
        have hbp5 := hs.lt
        have hrp5 := hR.lt
        obtain ⟨p5, hL5, hlt5, hrq5, hE5⟩ := blk_ex hL5' hbp5 hrp5
        rw [hE5]
        replace hs := hs.below hv5
        replace hg := gb_below hg hv5
        try (replace hF := hF.below hv5)
        try (replace hR := hR.below hv5)
        skip
        try (replace hL8 := hL8.below hv5)
        try (replace hL11 := hL11.below hv5)
        clear hK K hv5 hz5 hL5' hE5 hbp5 hrp5
        try simp only [Act.put, List.setIfInBounds_toArray, List.set_cons_zero, List.set_cons_succ]
        refine wb_two (i := 6) (k := 11) (by simp only [List.getElem?_toArray, List.getElem?_cons_succ, List.getElem?_cons_zero] <;> rfl) (by simp only [List.getElem?_toArray, List.getElem?_cons_succ, List.getElem?_cons_zero] <;> rfl) (by kernel_rfl) (by rfl) (by rfl) (fun K hK => ?_) (fun K hK => ?_)
        · go_simp
          refine (pick_blkP _ b ((R + 50) + 1) p5 4 [0, 1, 64, 255] _ _ hs hL5 hlt5 (by simp) (by simp) (by simp) (fun z => 0 ≤ z ∧ z ≤ 255) (by simp)).mono ?_
          rintro e u6 ⟨r6, hr6, rfl, hs1, hg1⟩
          refine hK.out _ _ (Kb.gb hg1 (by intro p hp; rw [List.mem_singleton.1 hp]; exact ⟨hF.lt, by intro e; cases e; omega⟩)) ?_
          replace hs := hs1
          replace hg := gb_trans hg hg1
          try (replace hF := hF.gb hg1 (by omega))
          try (replace hR := hR.gb hg1 (by omega))
          try (replace hL5 := hL5.gb hg1 (by omega))
          try (replace hL8 := hL8.gb hg1 (by omega))
          try (replace hL11 := hL11.gb hg1 (by omega))
          clear hK K hs1 hg1
          try simp only [Act.put, List.setIfInBounds_toArray, List.set_cons_zero, List.set_cons_succ]
          refine wb_two (i := 9) (k := 11) (by simp only [List.getElem?_toArray, List.getElem?_cons_succ, List.getElem?_cons_zero] <;> rfl) (by simp only [List.getElem?_toArray, List.getElem?_cons_succ, List.getElem?_cons_zero] <;> rfl) (by kernel_rfl) (by rfl) (by rfl) (fun K hK => ?_) (fun K hK => ?_)
          · go_simp
            refine (pick_blkP _ b (R + 50) p8 4 [6, 6, 17, 1] _ _ hs hL8 hlt8 (by simp) (by simp) (by simp) (fun z => z = 1 ∨ z = 6 ∨ z = 17) (by simp)).mono ?_
            rintro e u9 ⟨r9, hr9, rfl, hs1, hg1⟩
            refine hK.out _ _ (Kb.gb hg1 (by intro p hp; rw [List.mem_singleton.1 hp]; exact ⟨hF.lt, by intro e; cases e; omega⟩)) ?_
            replace hs := hs1
            replace hg := gb_trans hg hg1
            try (replace hF := hF.gb hg1 (by omega))
            try (replace hR := hR.gb hg1 (by omega))
            try (replace hL5 := hL5.gb hg1 (by omega))
            try (replace hL8 := hL8.gb hg1 (by omega))
            try (replace hL11 := hL11.gb hg1 (by omega))
            clear hK K hs1 hg1
            try simp only [Act.put, List.setIfInBounds_toArray, List.set_cons_zero, List.set_cons_succ]
            refine wb_pure (i := 10) (d := some 17) (v := ?_) (by simp only [List.getElem?_toArray, List.getElem?_cons_succ, List.getElem?_cons_zero] <;> rfl) (by rfl) (by kernel_rfl) (by kernel_rfl) (by kernel_rfl) (fun _ _ _ h => h) (by rfl) ?_ ?_
            rotate_left
            · ((intro u); go_simp; try with_reducible rfl)
            try simp only [Act.put, List.setIfInBounds_toArray, List.set_cons_zero, List.set_cons_succ]
            refine wb_one (i := 11) (by simp only [List.getElem?_toArray, List.getElem?_cons_succ, List.getElem?_cons_zero] <;> rfl) (by kernel_rfl) (by rfl) (fun K hK => ?_)
            go_simp
            refine hK.out _ _ (Kb.gb (World.grownBy_alloc _ _ none) (by intro p hp; rw [List.mem_singleton.1 hp]; exact ⟨hF.lt, by simp⟩)) ?_
            refine wb_new (cs := [.bool false, .int .u64 0, .int .u64 0, .bool false, .int .u64 0, .int .u64 0, .int .i64 0, .int .i64 0, .int .i64 0, .int .i64 0, .bool false, .bool false, .bool false, .bool false, .int .i64 0, .int .i64 0, .bool false, .int .i64 0, .slice none 0 0]) (t := 31) (fun u11 hv11 hL11' hz11 => ?_)
            have hbp11 := hs.lt
            have hrp11 := hR.lt
            obtain ⟨p11, hL11, hlt11, hrq11, hE11⟩ := blk_ex hL11' hbp11 hrp11
            rw [hE11]
            replace hs := hs.below hv11
            replace hg := gb_below hg hv11
            try (replace hF := hF.below hv11)
            try (replace hR := hR.below hv11)
            try (replace hL5 := hL5.below hv11)
            try (replace hL8 := hL8.below hv11)
            skip
            clear hK K hv11 hz11 hL11' hE11 hbp11 hrp11
            try simp only [Act.put, List.setIfInBounds_toArray, List.set_cons_zero, List.set_cons_succ]
            refine wb_one (i := 12) (by simp only [List.getElem?_toArray, List.getElem?_cons_succ, List.getElem?_cons_zero] <;> rfl) (by kernel_rfl) (by rfl) (fun K hK => ?_)
            refine wp_store_row 31 _ _ rfl p11 (pkL (q0 fs fh fl ts th tl r6 r9) (.slice none 0 0)).toArray rfl rfl 31 _ hL11 (by kernel_rfl) rfl (pk_one _ _ rfl) ?_
            have hX := PreP.row (q := q0 fs fh fl ts th tl r6 r9) (v := .slice none 0 0) hs hR hL11 hg hb0 (Nat.le_refl _) hrq11
            refine hK.out _ _ ?_ ?_
            · intro p hp; rw [List.mem_singleton.1 hp]; exact setRow_other _ p11 fb _ (fun e => by have h1 := hF; rw [Blk, e, hL11] at h1; cases h1)
            clear hK K
            try simp only [Act.put, List.setIfInBounds_toArray, List.set_cons_zero, List.set_cons_succ]
            refine wb_done (by kernel_rfl) ?_ _
            go_wp2_with fail
            go_meet
            exact ⟨_, _, _, ⟨hr9, hr6⟩, rfl, hU, Lib.hid hX⟩
          · go_simp
            refine hK.out _ _ (Kb.gb (World.grownBy_alloc _ _ none) (by intro p hp; rw [List.mem_singleton.1 hp]; exact ⟨hF.lt, by simp⟩)) ?_
            refine wb_new (cs := [.bool false, .int .u64 0, .int .u64 0, .bool false, .int .u64 0, .int .u64 0, .int .i64 0, .int .i64 0, .int .i64 0, .int .i64 0, .bool false, .bool false, .bool false, .bool false, .int .i64 0, .int .i64 0, .bool false, .int .i64 0, .slice none 0 0]) (t := 31) (fun u11 hv11 hL11' hz11 => ?_)
            have hbp11 := hs.lt
            have hrp11 := hR.lt
            obtain ⟨p11, hL11, hlt11, hrq11, hE11⟩ := blk_ex hL11' hbp11 hrp11
            rw [hE11]
            replace hs := hs.below hv11
            replace hg := gb_below hg hv11
            try (replace hF := hF.below hv11)
            try (replace hR := hR.below hv11)
            try (replace hL5 := hL5.below hv11)
            try (replace hL8 := hL8.below hv11)
            skip
            clear hK K hv11 hz11 hL11' hE11 hbp11 hrp11
            try simp only [Act.put, List.setIfInBounds_toArray, List.set_cons_zero, List.set_cons_succ]
            refine wb_one (i := 9) (by simp only [List.getElem?_toArray, List.getElem?_cons_succ, List.getElem?_cons_zero] <;> rfl) (by kernel_rfl) (by rfl) (fun K hK => ?_)
            go_simp
            refine (pick_blkP _ b (R + 50) p8 4 [6, 6, 17, 1] _ _ hs hL8 hlt8 (by simp) (by simp) (by simp) (fun z => z = 1 ∨ z = 6 ∨ z = 17) (by simp)).mono ?_
            rintro e u9 ⟨r9, hr9, rfl, hs1, hg1⟩
            refine hK.out _ _ (Kb.gb hg1 (by intro p hp; rw [List.mem_singleton.1 hp]; exact ⟨hF.lt, by intro e; cases e; omega⟩)) ?_
            replace hs := hs1
            replace hg := gb_trans hg hg1
            try (replace hF := hF.gb hg1 (by omega))
            try (replace hR := hR.gb hg1 (by omega))
            try (replace hL5 := hL5.gb hg1 (by omega))
            try (replace hL8 := hL8.gb hg1 (by omega))
            try (replace hL11 := hL11.gb hg1 (by omega))
            clear hK K hs1 hg1
            try simp only [Act.put, List.setIfInBounds_toArray, List.set_cons_zero, List.set_cons_succ]
            refine wb_pure (i := 10) (d := some 17) (v := ?_) (by simp only [List.getElem?_toArray, List.getElem?_cons_succ, List.getElem?_cons_zero] <;> rfl) (by rfl) (by kernel_rfl) (by kernel_rfl) (by kernel_rfl) (fun _ _ _ h => h) (by rfl) ?_ ?_
            rotate_left
            · ((intro u); go_simp; try with_reducible rfl)
            try simp only [Act.put, List.setIfInBounds_toArray, List.set_cons_zero, List.set_cons_succ]
            refine wb_one (i := 12) (by simp only [List.getElem?_toArray, List.getElem?_cons_succ, List.getElem?_cons_zero] <;> rfl) (by kernel_rfl) (by rfl) (fun K hK => ?_)
            refine wp_store_row 31 _ _ rfl p11 (pkL (q0 fs fh fl ts th tl r6 r9) (.slice none 0 0)).toArray rfl rfl 31 _ hL11 (by kernel_rfl) rfl (pk_one _ _ rfl) ?_
            have hX := PreP.row (q := q0 fs fh fl ts th tl r6 r9) (v := .slice none 0 0) hs hR hL11 hg hb0 (Nat.le_refl _) hrq11
            refine hK.out _ _ ?_ ?_
            · intro p hp; rw [List.mem_singleton.1 hp]; exact setRow_other _ p11 fb _ (fun e => by have h1 := hF; rw [Blk, e, hL11] at h1; cases h1)
            clear hK K
            try simp only [Act.put, List.setIfInBounds_toArray, List.set_cons_zero, List.set_cons_succ]
            refine wb_done (by kernel_rfl) ?_ _
            go_wp2_with fail
            go_meet
            exact ⟨_, _, _, ⟨hr9, hr6⟩, rfl, hU, Lib.hid hX⟩
        · go_simp
          refine hK.out _ _ (Kb.gb (World.grownBy_alloc _ _ none) (by intro p hp; rw [List.mem_singleton.1 hp]; exact ⟨hF.lt, by simp⟩)) ?_
          refine wb_new (cs := [.bool false, .int .u64 0, .int .u64 0, .bool false, .int .u64 0, .int .u64 0, .int .i64 0, .int .i64 0, .int .i64 0, .int .i64 0, .bool false, .bool false, .bool false, .bool false, .int .i64 0, .int .i64 0, .bool false, .int .i64 0, .slice none 0 0]) (t := 31) (fun u11 hv11 hL11' hz11 => ?_)
          have hbp11 := hs.lt
          have hrp11 := hR.lt
          obtain ⟨p11, hL11, hlt11, hrq11, hE11⟩ := blk_ex hL11' hbp11 hrp11
          rw [hE11]
          replace hs := hs.below hv11
          replace hg := gb_below hg hv11
          try (replace hF := hF.below hv11)
          try (replace hR := hR.below hv11)
          try (replace hL5 := hL5.below hv11)
          try (replace hL8 := hL8.below hv11)
          skip
          clear hK K hv11 hz11 hL11' hE11 hbp11 hrp11
          try simp only [Act.put, List.setIfInBounds_toArray, List.set_cons_zero, List.set_cons_succ]
          refine wb_one (i := 6) (by simp only [List.getElem?_toArray, List.getElem?_cons_succ, List.getElem?_cons_zero] <;> rfl) (by kernel_rfl) (by rfl) (fun K hK => ?_)
          go_simp
          refine (pick_blkP _ b ((R + 50) + 1) p5 4 [0, 1, 64, 255] _ _ hs hL5 hlt5 (by simp) (by simp) (by simp) (fun z => 0 ≤ z ∧ z ≤ 255) (by simp)).mono ?_
          rintro e u6 ⟨r6, hr6, rfl, hs1, hg1⟩
          refine hK.out _ _ (Kb.gb hg1 (by intro p hp; rw [List.mem_singleton.1 hp]; exact ⟨hF.lt, by intro e; cases e; omega⟩)) ?_
          replace hs := hs1
          replace hg := gb_trans hg hg1
          try (replace hF := hF.gb hg1 (by omega))
          try (replace hR := hR.gb hg1 (by omega))
          try (replace hL5 := hL5.gb hg1 (by omega))
          try (replace hL8 := hL8.gb hg1 (by omega))
          try (replace hL11 := hL11.gb hg1 (by omega))
          clear hK K hs1 hg1
          try simp only [Act.put, List.setIfInBounds_toArray, List.set_cons_zero, List.set_cons_succ]
          refine wb_one (i := 9) (by simp only [List.getElem?_toArray, List.getElem?_cons_succ, List.getElem?_cons_zero] <;> rfl) (by kernel_rfl) (by rfl) (fun K hK => ?_)
          go_simp
          refine (pick_blkP _ b (R + 50) p8 4 [6, 6, 17, 1] _ _ hs hL8 hlt8 (by simp) (by simp) (by simp) (fun z => z = 1 ∨ z = 6 ∨ z = 17) (by simp)).mono ?_
          rintro e u9 ⟨r9, hr9, rfl, hs1, hg1⟩
          refine hK.out _ _ (Kb.gb hg1 (by intro p hp; rw [List.mem_singleton.1 hp]; exact ⟨hF.lt, by intro e; cases e; omega⟩)) ?_
          replace hs := hs1
          replace hg := gb_trans hg hg1
          try (replace hF := hF.gb hg1 (by omega))
          try (replace hR := hR.gb hg1 (by omega))
          try (replace hL5 := hL5.gb hg1 (by omega))
          try (replace hL8 := hL8.gb hg1 (by omega))
          try (replace hL11 := hL11.gb hg1 (by omega))
          clear hK K hs1 hg1
          try simp only [Act.put, List.setIfInBounds_toArray, List.set_cons_zero, List.set_cons_succ]
          refine wb_pure (i := 10) (d := some 17) (v := ?_) (by simp only [List.getElem?_toArray, List.getElem?_cons_succ, List.getElem?_cons_zero] <;> rfl) (by rfl) (by kernel_rfl) (by kernel_rfl) (by kernel_rfl) (fun _ _ _ h => h) (by rfl) ?_ ?_
          rotate_left
          · ((intro u); go_simp; try with_reducible rfl)
          try simp only [Act.put, List.setIfInBounds_toArray, List.set_cons_zero, List.set_cons_succ]
          refine wb_one (i := 12) (by simp only [List.getElem?_toArray, List.getElem?_cons_succ, List.getElem?_cons_zero] <;> rfl) (by kernel_rfl) (by rfl) (fun K hK => ?_)
          refine wp_store_row 31 _ _ rfl p11 (pkL (q0 fs fh fl ts th tl r6 r9) (.slice none 0 0)).toArray rfl rfl 31 _ hL11 (by kernel_rfl) rfl (pk_one _ _ rfl) ?_
          have hX := PreP.row (q := q0 fs fh fl ts th tl r6 r9) (v := .slice none 0 0) hs hR hL11 hg hb0 (Nat.le_refl _) hrq11
          refine hK.out _ _ ?_ ?_
          · intro p hp; rw [List.mem_singleton.1 hp]; exact setRow_other _ p11 fb _ (fun e => by have h1 := hF; rw [Blk, e, hL11] at h1; cases h1)
          clear hK K
          try simp only [Act.put, List.setIfInBounds_toArray, List.set_cons_zero, List.set_cons_succ]
          refine wb_done (by kernel_rfl) ?_ _
          go_wp2_with fail
          go_meet
          exact ⟨_, _, _, ⟨hr9, hr6⟩, rfl, hU, Lib.hid hX⟩
      · go_simp
        refine hK.out _ _ (Kb.gb (World.grownBy_alloc _ _ none) (by intro p hp; rw [List.mem_singleton.1 hp]; exact ⟨hF.lt, by simp⟩)) ?_
        refine wb_new (cs := [.bool false, .int .u64 0, .int .u64 0, .bool false, .int .u64 0, .int .u64 0, .int .i64 0, .int .i64 0, .int .i64 0, .int .i64 0, .bool false, .bool false, .bool false, .bool false, .int .i64 0, .int .i64 0, .bool false, .int .i64 0, .slice none 0 0]) (t := 31) (fun u11 hv11 hL11' hz11 => ?_)
        have hbp11 := hs.lt
        have hrp11 := hR.lt
        obtain ⟨p11, hL11, hlt11, hrq11, hE11⟩ := blk_ex hL11' hbp11 hrp11
        rw [hE11]
        replace hs := hs.below hv11
        replace hg := gb_below hg hv11
        try (replace hF := hF.below hv11)
        try (replace hR := hR.below hv11)
        try (replace hL5 := hL5.below hv11)
        try (replace hL8 := hL8.below hv11)
        skip
        clear hK K hv11 hz11 hL11' hE11 hbp11 hrp11
        try simp only [Act.put, List.setIfInBounds_toArray, List.set_cons_zero, List.set_cons_succ]
        refine wb_one (i := 5) (by simp only [List.getElem?_toArray, List.getElem?_cons_succ, List.getElem?_cons_zero] <;> rfl) (by kernel_rfl) (by rfl) (fun K hK => ?_)
        go_simp
        refine hK.out _ _ (Kb.gb (World.grownBy_alloc _ _ none) (by intro p hp; rw [List.mem_singleton.1 hp]; exact ⟨hF.lt, by simp⟩)) ?_
        refine wb_new (cs := ([0, 1, 64, 255] : List Int).map (Value.int .i64)) (t := 3) (fun u5 hv5 hL5' hz5 => ?_)
        have hbp5 := hs.lt
        have hrp5 := hR.lt
        obtain ⟨p5, hL5, hlt5, hrq5, hE5⟩ := blk_ex hL5' hbp5 hrp5
        rw [hE5]
        replace hs := hs.below hv5
        replace hg := gb_below hg hv5
        try (replace hF := hF.below hv5)
        try (replace hR := hR.below hv5)
        skip
        try (replace hL8 := hL8.below hv5)
        try (replace hL11 := hL11.below hv5)
        clear hK K hv5 hz5 hL5' hE5 hbp5 hrp5
        try simp only [Act.put, List.setIfInBounds_toArray, List.set_cons_zero, List.set_cons_succ]
        refine wb_one (i := 6) (by simp only [List.getElem?_toArray, List.getElem?_cons_succ, List.getElem?_cons_zero] <;> rfl) (by kernel_rfl) (by rfl) (fun K hK => ?_)
        go_simp
        refine (pick_blkP _ b ((R + 50) + 1) p5 4 [0, 1, 64, 255] _ _ hs hL5 hlt5 (by simp) (by simp) (by simp) (fun z => 0 ≤ z ∧ z ≤ 255) (by simp)).mono ?_
        rintro e u6 ⟨r6, hr6, rfl, hs1, hg1⟩
        refine hK.out _ _ (Kb.gb hg1 (by intro p hp; rw [List.mem_singleton.1 hp]; exact ⟨hF.lt, by intro e; cases e; omega⟩)) ?_
        replace hs := hs1
        replace hg := gb_trans hg hg1
        try (replace hF := hF.gb hg1 (by omega))
        try (replace hR := hR.gb hg1 (by omega))
        try (replace hL5 := hL5.gb hg1 (by omega))
        try (replace hL8 := hL8.gb hg1 (by omega))
        try (replace hL11 := hL11.gb hg1 (by omega))
        clear hK K hs1 hg1
        try simp only [Act.put, List.setIfInBounds_toArray, List.set_cons_zero, List.set_cons_succ]
        refine wb_one (i := 9) (by simp only [List.getElem?_toArray, List.getElem?_cons_succ, List.getElem?_cons_zero] <;> rfl) (by kernel_rfl) (by rfl) (fun K hK => ?_)
        go_simp
        refine (pick_blkP _ b (R + 50) p8 4 [6, 6, 17, 1] _ _ hs hL8 hlt8 (by simp) (by simp) (by simp) (fun z => z = 1 ∨ z = 6 ∨ z = 17) (by simp)).mono ?_
        rintro e u9 ⟨r9, hr9, rfl, hs1, hg1⟩
        refine hK.out _ _ (Kb.gb hg1 (by intro p hp; rw [List.mem_singleton.1 hp]; exact ⟨hF.lt, by intro e; cases e; omega⟩)) ?_
        replace hs := hs1
        replace hg := gb_trans hg hg1
        try (replace hF := hF.gb hg1 (by omega))
        try (replace hR := hR.gb hg1 (by omega))
        try (replace hL5 := hL5.gb hg1 (by omega))
        try (replace hL8 := hL8.gb hg1 (by omega))
        try (replace hL11 := hL11.gb hg1 (by omega))
        clear hK K hs1 hg1
        try simp only [Act.put, List.setIfInBounds_toArray, List.set_cons_zero, List.set_cons_succ]
        refine wb_pure (i := 10) (d := some 17) (v := ?_) (by simp only [List.getElem?_toArray, List.getElem?_cons_succ, List.getElem?_cons_zero] <;> rfl) (by rfl) (by kernel_rfl) (by kernel_rfl) (by kernel_rfl) (fun _ _ _ h => h) (by rfl) ?_ ?_
        rotate_left
        · ((intro u); go_simp; try with_reducible rfl)
        try simp only [Act.put, List.setIfInBounds_toArray, List.set_cons_zero, List.set_cons_succ]
        refine wb_one (i := 12) (by simp only [List.getElem?_toArray, List.getElem?_cons_succ, List.getElem?_cons_zero] <;> rfl) (by kernel_rfl) (by rfl) (fun K hK => ?_)
        refine wp_store_row 31 _ _ rfl p11 (pkL (q0 fs fh fl ts th tl r6 r9) (.slice none 0 0)).toArray rfl rfl 31 _ hL11 (by kernel_rfl) rfl (pk_one _ _ rfl) ?_
        have hX := PreP.row (q := q0 fs fh fl ts th tl r6 r9) (v := .slice none 0 0) hs hR hL11 hg hb0 (Nat.le_refl _) hrq11
        refine hK.out _ _ ?_ ?_
        · intro p hp; rw [List.mem_singleton.1 hp]; exact setRow_other _ p11 fb _ (fun e => by have h1 := hF; rw [Blk, e, hL11] at h1; cases h1)
        clear hK K
        try simp only [Act.put, List.setIfInBounds_toArray, List.set_cons_zero, List.set_cons_succ]
        refine wb_done (by kernel_rfl) ?_ _
        go_wp2_with fail
        go_meet
        exact ⟨_, _, _, ⟨hr9, hr6⟩, rfl, hU, Lib.hid hX⟩
    · go_simp
      refine hK.out _ _ (Kb.gb (World.grownBy_alloc _ _ none) (by intro p hp; rw [List.mem_singleton.1 hp]; exact ⟨hF.lt, by simp⟩)) ?_
      refine wb_new (cs := [.bool false, .int .u64 0, .int .u64 0, .bool false, .int .u64 0, .int .u64 0, .int .i64 0, .int .i64 0, .int .i64 0, .int .i64 0, .bool false, .bool false, .bool false, .bool false, .int .i64 0, .int .i64 0, .bool false, .int .i64 0, .slice none 0 0]) (t := 31) (fun u11 hv11 hL11' hz11 => ?_)
      have hbp11 := hs.lt
      have hrp11 := hR.lt
      obtain ⟨p11, hL11, hlt11, hrq11, hE11⟩ := blk_ex hL11' hbp11 hrp11
      rw [hE11]
      replace hs := hs.below hv11
      replace hg := gb_below hg hv11
      try (replace hF := hF.below hv11)
      try (replace hR := hR.below hv11)
      try (replace hL5 := hL5.below hv11)
      try (replace hL8 := hL8.below hv11)
      skip
      clear hK K hv11 hz11 hL11' hE11 hbp11 hrp11
      try simp only [Act.put, List.setIfInBounds_toArray, List.set_cons_zero, List.set_cons_succ]
      refine wb_two (i := 5) (k := 8) (by simp only [List.getElem?_toArray, List.getElem?_cons_succ, List.getElem?_cons_zero] <;> rfl) (by simp only [List.getElem?_toArray, List.getElem?_cons_succ, List.getElem?_cons_zero] <;> rfl) (by kernel_rfl) (by rfl) (by rfl) (fun K hK => ?_) (fun K hK => ?_)
      · go_simp
        refine hK.out _ _ (Kb.gb (World.grownBy_alloc _ _ none) (by intro p hp; rw [List.mem_singleton.1 hp]; exact ⟨hF.lt, by simp⟩)) ?_
        refine wb_new (cs := ([0, 1, 64, 255] : List Int).map (Value.int .i64)) (t := 3) (fun u5 hv5 hL5' hz5 => ?_)
        have hbp5 := hs.lt
        have hrp5 := hR.lt
        obtain ⟨p5, hL5, hlt5, hrq5, hE5⟩ := blk_ex hL5' hbp5 hrp5
        rw [hE5]
        replace hs := hs.below hv5
        replace hg := gb_below hg hv5
        try (replace hF := hF.below hv5)
        try (replace hR := hR.below hv5)
        skip
        try (replace hL8 := hL8.below hv5)
        try (replace hL11 := hL11.below hv5)
        clear hK K hv5 hz5 hL5' hE5 hbp5 hrp5
        try simp only [Act.put, List.setIfInBounds_toArray, List.set_cons_zero, List.set_cons_succ]
        refine wb_two (i := 6) (k := 8) (by simp only [List.getElem?_toArray, List.getElem?_cons_succ, List.getElem?_cons_zero] <;> rfl) (by simp only [List.getElem?_toArray, List.getElem?_cons_succ, List.getElem?_cons_zero] <;> rfl) (by kernel_rfl) (by rfl) (by rfl) (fun K hK => ?_) (fun K hK => ?_)
        · go_simp
          refine (pick_blkP _ b ((R + 50) + 1) p5 4 [0, 1, 64, 255] _ _ hs hL5 hlt5 (by simp) (by simp) (by simp) (fun z => 0 ≤ z ∧ z ≤ 255) (by simp)).mono ?_
          rintro e u6 ⟨r6, hr6, rfl, hs1, hg1⟩
          refine hK.out _ _ (Kb.gb hg1 (by intro p hp; rw [List.mem_singleton.1 hp]; exact ⟨hF.lt, by intro e; cases e; omega⟩)) ?_
          replace hs := hs1
          replace hg := gb_trans hg hg1
          try (replace hF := hF.gb hg1 (by omega))
          try (replace hR := hR.gb hg1 (by omega))
          try (replace hL5 := hL5.gb hg1 (by omega))
          try (replace hL8 := hL8.gb hg1 (by omega))
          try (replace hL11 := hL11.gb hg1 (by omega))
          clear hK K hs1 hg1
          try simp only [Act.put, List.setIfInBounds_toArray, List.set_cons_zero, List.set_cons_succ]
          refine wb_one (i := 8) (by simp only [List.getElem?_toArray, List.getElem?_cons_succ, List.getElem?_cons_zero] <;> rfl) (by kernel_rfl) (by rfl) (fun K hK => ?_)
          go_simp
          refine hK.out _ _ (Kb.gb (World.grownBy_alloc _ _ none) (by intro p hp; rw [List.mem_singleton.1 hp]; exact ⟨hF.lt, by simp⟩)) ?_
          refine wb_new (cs := ([6, 6, 17, 1] : List Int).map (Value.int .i64)) (t := 3) (fun u8 hv8 hL8' hz8 => ?_)
          have hbp8 := hs.lt
          have hrp8 := hR.lt
          obtain ⟨p8, hL8, hlt8, hrq8, hE8⟩ := blk_ex hL8' hbp8 hrp8
          rw [hE8]
          replace hs := hs.below hv8
          replace hg := gb_below hg hv8
          try (replace hF := hF.below hv8)
          try (replace hR := hR.below hv8)
          try (replace hL5 := hL5.below hv8)
          skip
          try (replace hL11 := hL11.below hv8)
          clear hK K hv8 hz8 hL8' hE8 hbp8 hrp8
          try simp only [Act.put, List.setIfInBounds_toArray, List.set_cons_zero, List.set_cons_succ]
          refine wb_one (i := 9) (by simp only [List.getElem?_toArray, List.getElem?_cons_succ, List.getElem?_cons_zero] <;> rfl) (by kernel_rfl) (by rfl) (fun K hK => ?_)
          go_simp
          refine (pick_blkP _ b (R + 50) p8 4 [6, 6, 17, 1] _ _ hs hL8 hlt8 (by simp) (by simp) (by simp) (fun z => z = 1 ∨ z = 6 ∨ z = 17) (by simp)).mono ?_
          rintro e u9 ⟨r9, hr9, rfl, hs1, hg1⟩
          refine hK.out _ _ (Kb.gb hg1 (by intro p hp; rw [List.mem_singleton.1 hp]; exact ⟨hF.lt, by intro e; cases e; omega⟩)) ?_
          replace hs := hs1
          replace hg := gb_trans hg hg1
          try (replace hF := hF.gb hg1 (by omega))
          try (replace hR := hR.gb hg1 (by omega))
          try (replace hL5 := hL5.gb hg1 (by omega))
          try (replace hL8 := hL8.gb hg1 (by omega))
          try (replace hL11 := hL11.gb hg1 (by omega))
          clear hK K hs1 hg1
          try simp only [Act.put, List.setIfInBounds_toArray, List.set_cons_zero, List.set_cons_succ]
          refine wb_pure (i := 10) (d := some 17) (v := ?_) (by simp only [List.getElem?_toArray, List.getElem?_cons_succ, List.getElem?_cons_zero] <;> rfl) (by rfl) (by kernel_rfl) (by kernel_rfl) (by kernel_rfl) (fun _ _ _ h => h) (by rfl) ?_ ?_
          rotate_left
          · ((intro u); go_simp; try with_reducible rfl)
          try simp only [Act.put, List.setIfInBounds_toArray, List.set_cons_zero, List.set_cons_succ]
          refine wb_one (i := 12) (by simp only [List.getElem?_toArray, List.getElem?_cons_succ, List.getElem?_cons_zero] <;> rfl) (by kernel_rfl) (by rfl) (fun K hK => ?_)
          refine wp_store_row 31 _ _ rfl p11 (pkL (q0 fs fh fl ts th tl r6 r9) (.slice none 0 0)).toArray rfl rfl 31 _ hL11 (by kernel_rfl) rfl (pk_one _ _ rfl) ?_
          have hX := PreP.row (q := q0 fs fh fl ts th tl r6 r9) (v := .slice none 0 0) hs hR hL11 hg hb0 (Nat.le_refl _) hrq11
          refine hK.out _ _ ?_ ?_
          · intro p hp; rw [List.mem_singleton.1 hp]; exact setRow_other _ p11 fb _ (fun e => by have h1 := hF; rw [Blk, e, hL11] at h1; cases h1)
          clear hK K
          try simp only [Act.put, List.setIfInBounds_toArray, List.set_cons_zero, List.set_cons_succ]
          refine wb_done (by kernel_rfl) ?_ _
          go_wp2_with fail
          go_meet
          exact ⟨_, _, _, ⟨hr9, hr6⟩, rfl, hU, Lib.hid hX⟩
        · go_simp
          refine hK.out _ _ (Kb.gb (World.grownBy_alloc _ _ none) (by intro p hp; rw [List.mem_singleton.1 hp]; exact ⟨hF.lt, by simp⟩)) ?_
          refine wb_new (cs := ([6, 6, 17, 1] : List Int).map (Value.int .i64)) (t := 3) (fun u8 hv8 hL8' hz8 => ?_)
          have hbp8 := hs.lt
          have hrp8 := hR.lt
          obtain ⟨p8, hL8, hlt8, hrq8, hE8⟩ := blk_ex hL8' hbp8 hrp8
          rw [hE8]
          replace hs := hs.below hv8
          replace hg := gb_below hg hv8
          try (replace hF := hF.below hv8)
          try (replace hR := hR.below hv8)
          try (replace hL5 := hL5.below hv8)
          skip
          try (replace hL11 := hL11.below hv8)
          clear hK K hv8 hz8 hL8' hE8 hbp8 hrp8
          try simp only [Act.put, List.setIfInBounds_toArray, List.set_cons_zero, List.set_cons_succ]
          refine wb_one (i := 6) (by simp only [List.getElem?_toArray, List.getElem?_cons_succ, List.getElem?_cons_zero] <;> rfl) (by kernel_rfl) (by rfl) (fun K hK => ?_)
          go_simp
          refine (pick_blkP _ b ((R + 50) + 1) p5 4 [0, 1, 64, 255] _ _ hs hL5 hlt5 (by simp) (by simp) (by simp) (fun z => 0 ≤ z ∧ z ≤ 255) (by simp)).mono ?_
          rintro e u6 ⟨r6, hr6, rfl, hs1, hg1⟩
          refine hK.out _ _ (Kb.gb hg1 (by intro p hp; rw [List.mem_singleton.1 hp]; exact ⟨hF.lt, by intro e; cases e; omega⟩)) ?_
          replace hs := hs1
          replace hg := gb_trans hg hg1
          try (replace hF := hF.gb hg1 (by omega))
          try (replace hR := hR.gb hg1 (by omega))
          try (replace hL5 := hL5.gb hg1 (by omega))
          try (replace hL8 := hL8.gb hg1 (by omega))
          try (replace hL11 := hL11.gb hg1 (by omega))
          clear hK K hs1 hg1
          try simp only [Act.put, List.setIfInBounds_toArray, List.set_cons_zero, List.set_cons_succ]
          refine wb_one (i := 9) (by simp only [List.getElem?_toArray, List.getElem?_cons_succ, List.getElem?_cons_zero] <;> rfl) (by kernel_rfl) (by rfl) (fun K hK => ?_)
          go_simp
          refine (pick_blkP _ b (R + 50) p8 4 [6, 6, 17, 1] _ _ hs hL8 hlt8 (by simp) (by simp) (by simp) (fun z => z = 1 ∨ z = 6 ∨ z = 17) (by simp)).mono ?_
          rintro e u9 ⟨r9, hr9, rfl, hs1, hg1⟩
          refine hK.out _ _ (Kb.gb hg1 (by intro p hp; rw [List.mem_singleton.1 hp]; exact ⟨hF.lt, by intro e; cases e; omega⟩)) ?_
          replace hs := hs1
          replace hg := gb_trans hg hg1
          try (replace hF := hF.gb hg1 (by omega))
          try (replace hR := hR.gb hg1 (by omega))
          try (replace hL5 := hL5.gb hg1 (by omega))
          try (replace hL8 := hL8.gb hg1 (by omega))
          try (replace hL11 := hL11.gb hg1 (by omega))
          clear hK K hs1 hg1
          try simp only [Act.put, List.setIfInBounds_toArray, List.set_cons_zero, List.set_cons_succ]
          refine wb_pure (i := 10) (d := some 17) (v := ?_) (by simp only [List.getElem?_toArray, List.getElem?_cons_succ, List.getElem?_cons_zero] <;> rfl) (by rfl) (by kernel_rfl) (by kernel_rfl) (by kernel_rfl) (fun _ _ _ h => h) (by rfl) ?_ ?_
          rotate_left
          · ((intro u); go_simp; try with_reducible rfl)
          try simp only [Act.put, List.setIfInBounds_toArray, List.set_cons_zero, List.set_cons_succ]
          refine wb_one (i := 12) (by simp only [List.getElem?_toArray, List.getElem?_cons_succ, List.getElem?_cons_zero] <;> rfl) (by kernel_rfl) (by rfl) (fun K hK => ?_)
          refine wp_store_row 31 _ _ rfl p11 (pkL (q0 fs fh fl ts th tl r6 r9) (.slice none 0 0)).toArray rfl rfl 31 _ hL11 (by kernel_rfl) rfl (pk_one _ _ rfl) ?_
          have hX := PreP.row (q := q0 fs fh fl ts th tl r6 r9) (v := .slice none 0 0) hs hR hL11 hg hb0 (Nat.le_refl _) hrq11
          refine hK.out _ _ ?_ ?_
          · intro p hp; rw [List.mem_singleton.1 hp]; exact setRow_other _ p11 fb _ (fun e => by have h1 := hF; rw [Blk, e, hL11] at h1; cases h1)
          clear hK K
          try simp only [Act.put, List.setIfInBounds_toArray, List.set_cons_zero, List.set_cons_succ]
          refine wb_done (by kernel_rfl) ?_ _
          go_wp2_with fail
          go_meet
          exact ⟨_, _, _, ⟨hr9, hr6⟩, rfl, hU, Lib.hid hX⟩
      · go_simp
        refine hK.out _ _ (Kb.gb (World.grownBy_alloc _ _ none) (by intro p hp; rw [List.mem_singleton.1 hp]; exact ⟨hF.lt, by simp⟩)) ?_
        refine wb_new (cs := ([6, 6, 17, 1] : List Int).map (Value.int .i64)) (t := 3) (fun u8 hv8 hL8' hz8 => ?_)
        have hbp8 := hs.lt
        have hrp8 := hR.lt
        obtain ⟨p8, hL8, hlt8, hrq8, hE8⟩ := blk_ex hL8' hbp8 hrp8
        rw [hE8]
        replace hs := hs.below hv8
        replace hg := gb_below hg hv8
        try (replace hF := hF.below hv8)
        try (replace hR := hR.below hv8)
        try (replace hL5 := hL5.below hv8)
        skip
        try (replace hL11 := hL11.below hv8)
        clear hK K hv8 hz8 hL8' hE8 hbp8 hrp8
        try simp only [Act.put, List.setIfInBounds_toArray, List.set_cons_zero, List.set_cons_succ]
        refine wb_one (i := 5) (by simp only [List.getElem?_toArray, List.getElem?_cons_succ, List.getElem?_cons_zero] <;> rfl) (by kernel_rfl) (by rfl) (fun K hK => ?_)
        go_simp
        refine hK.out _ _ (Kb.gb (World.grownBy_alloc _ _ none) (by intro p hp; rw [List.mem_singleton.1 hp]; exact ⟨hF.lt, by simp⟩)) ?_
        refine wb_new (cs := ([0, 1, 64, 255] : List Int).map (Value.int .i64)) (t := 3) (fun u5 hv5 hL5' hz5 => ?_)
        have hbp5 := hs.lt
        have hrp5 := hR.lt
        obtain ⟨p5, hL5, hlt5, hrq5, hE5⟩ := blk_ex hL5' hbp5 hrp5
        rw [hE5]
        replace hs := hs.below hv5
        replace hg := gb_below hg hv5
        try (replace hF := hF.below hv5)
        try (replace hR := hR.below hv5)
        skip
        try (replace hL8 := hL8.below hv5)
        try (replace hL11 := hL11.below hv5)
        clear hK K hv5 hz5 hL5' hE5 hbp5 hrp5
        try simp only [Act.put, List.setIfInBounds_toArray, List.set_cons_zero, List.set_cons_succ]
        refine wb_one (i := 6) (by simp only [List.getElem?_toArray, List.getElem?_cons_succ, List.getElem?_cons_zero] <;> rfl) (by kernel_rfl) (by rfl) (fun K hK => ?_)
        go_simp
        refine (pick_blkP _ b ((R + 50) + 1) p5 4 [0, 1, 64, 255] _ _ hs hL5 hlt5 (by simp) (by simp) (by simp) (fun z => 0 ≤ z ∧ z ≤ 255) (by simp)).mono ?_
        rintro e u6 ⟨r6, hr6, rfl, hs1, hg1⟩
        refine hK.out _ _ (Kb.gb hg1 (by intro p hp; rw [List.mem_singleton.1 hp]; exact ⟨hF.lt, by intro e; cases e; omega⟩)) ?_
        replace hs := hs1
        replace hg := gb_trans hg hg1
        try (replace hF := hF.gb hg1 (by omega))
        try (replace hR := hR.gb hg1 (by omega))
        try (replace hL5 := hL5.gb hg1 (by omega))
        try (replace hL8 := hL8.gb hg1 (by omega))
        try (replace hL11 := hL11.gb hg1 (by omega))
        clear hK K hs1 hg1
        try simp only [Act.put, List.setIfInBounds_toArray, List.set_cons_zero, List.set_cons_succ]
        refine wb_one (i := 9) (by simp only [List.getElem?_toArray, List.getElem?_cons_succ, List.getElem?_cons_zero] <;> rfl) (by kernel_rfl) (by rfl) (fun K hK => ?_)
        go_simp
        refine (pick_blkP _ b (R + 50) p8 4 [6, 6, 17, 1] _ _ hs hL8 hlt8 (by simp) (by simp) (by simp) (fun z => z = 1 ∨ z = 6 ∨ z = 17) (by simp)).mono ?_
        rintro e u9 ⟨r9, hr9, rfl, hs1, hg1⟩
        refine hK.out _ _ (Kb.gb hg1 (by intro p hp; rw [List.mem_singleton.1 hp]; exact ⟨hF.lt, by intro e; cases e; omega⟩)) ?_
        replace hs := hs1
        replace hg := gb_trans hg hg1
        try (replace hF := hF.gb hg1 (by omega))
        try (replace hR := hR.gb hg1 (by omega))
        try (replace hL5 := hL5.gb hg1 (by omega))
        try (replace hL8 := hL8.gb hg1 (by omega))
        try (replace hL11 := hL11.gb hg1 (by omega))
        clear hK K hs1 hg1
        try simp only [Act.put, List.setIfInBounds_toArray, List.set_cons_zero, List.set_cons_succ]
        refine wb_pure (i := 10) (d := some 17) (v := ?_) (by simp only [List.getElem?_toArray, List.getElem?_cons_succ, List.getElem?_cons_zero] <;> rfl) (by rfl) (by kernel_rfl) (by kernel_rfl) (by kernel_rfl) (fun _ _ _ h => h) (by rfl) ?_ ?_
        rotate_left
        · ((intro u); go_simp; try with_reducible rfl)
        try simp only [Act.put, List.setIfInBounds_toArray, List.set_cons_zero, List.set_cons_succ]
        refine wb_one (i := 12) (by simp only [List.getElem?_toArray, List.getElem?_cons_succ, List.getElem?_cons_zero] <;> rfl) (by kernel_rfl) (by rfl) (fun K hK => ?_)
        refine wp_store_row 31 _ _ rfl p11 (pkL (q0 fs fh fl ts th tl r6 r9) (.slice none 0 0)).toArray rfl rfl 31 _ hL11 (by kernel_rfl) rfl (pk_one _ _ rfl) ?_
        have hX := PreP.row (q := q0 fs fh fl ts th tl r6 r9) (v := .slice none 0 0) hs hR hL11 hg hb0 (Nat.le_refl _) hrq11
        refine hK.out _ _ ?_ ?_
        · intro p hp; rw [List.mem_singleton.1 hp]; exact setRow_other _ p11 fb _ (fun e => by have h1 := hF; rw [Blk, e, hL11] at h1; cases h1)
        clear hK K
        try simp only [Act.put, List.setIfInBounds_toArray, List.set_cons_zero, List.set_cons_succ]
        refine wb_done (by kernel_rfl) ?_ _
        go_wp2_with fail
        go_meet
        exact ⟨_, _, _, ⟨hr9, hr6⟩, rfl, hU, Lib.hid hX⟩
  case rest =>
  clear hs hF hR hg hU
  obtain ⟨pa, r6, r9, ⟨hr9, hr6⟩, rfl, hU, hX⟩ := hcut
  replace hr6 := Lib.hid hr6
  replace hX := hX.out
  generalize w.heap.size = rq at hX ⊢
  have hW : Wd fh fl ∧ Wd th tl := ⟨⟨hU.1.1, hU.1.2, hU.2.1.1, hU.2.1.2⟩, hU.2.2.1.1, hU.2.2.1.2, hU.2.2.2.1, hU.2.2.2.2⟩
  have c7 := hX.blk.cell (i := 7) (v := .int .i64 r9) rfl
  go_upto_block 0 with fail
  go_cut [] (fun wx => AnyP w b (R + 42) rq pa wx)
  case first =>
    rcases hr9 with rfl | rfl | rfl
    · clear c7
      go_wp2_with fail
      refine (flip_any 2 _ _ (R + 49) (by omega) (by omega) hX.str).mono ?_
      rintro e w3 ⟨y16, rfl, hs1, hg1⟩
      replace hX := hX.step hs1 hg1
      clear hs1 hg1
      go_wp2_with fail
      refine (pick_lit_at _ b (R + 48) _ _ [0, 7, 65535] _ _ (by simp) (by simp) hX.str (by simp) (by simp) (fun z => 0 ≤ z ∧ z ≤ 65535) (by simp)).mono ?_
      rintro e w4 ⟨x17, hx17, rfl, hs1, hg1⟩
      replace hx17 := Lib.hid hx17
      replace hX := (hX.alloc _).step hs1 hg1
      clear hs1 hg1
      go_wp2_with fail
      refine (pick_lit_at _ b (R + 47) _ _ [0, 1, 65535] _ _ (by simp) (by simp) hX.str (by simp) (by simp) (fun z => 0 ≤ z ∧ z ≤ 65535) (by simp)).mono ?_
      rintro e w5 ⟨x14, hx14, rfl, hs1, hg1⟩
      replace hx14 := Lib.hid hx14
      replace hX := (hX.alloc _).step hs1 hg1
      clear hs1 hg1
      have f16 := hX.blk.free 16
      have c16 := hX.blk.cell (i := 16) (v := .bool false) rfl
      have f17 := hX.blk.free 17
      have c17 := hX.blk.cell (i := 17) (v := .int .i64 0) rfl
      have f14 := hX.blk.free 14
      have c14 := hX.blk.cell (i := 14) (v := .int .i64 0) rfl
      go_wp2_with fail
      go_meet
      exact ⟨_, ⟨ok_mk hW hr6.out (.inl rfl) ⟨by omega, by omega⟩ ⟨by omega, by omega⟩ ⟨hx14.out.1, by have := hx14.out.2; omega⟩ (fun _ => hx14.out.2) ⟨by omega, by omega⟩ hx17.out hft.out.1, by simp [fldB, hpB, htB, hiB], hft.out.2.1, hft.out.2.2⟩, (((hX.set 16 (.bool y16) ⟨fs, fh, fl, ts, th, tl, r6, 1, 0, 0, false, false, false, false, 0, 0, y16, 0⟩ (.slice none 0 0) rfl).set 17 (.int .i64 x17) ⟨fs, fh, fl, ts, th, tl, r6, 1, 0, 0, false, false, false, false, 0, 0, y16, x17⟩ (.slice none 0 0) rfl).set 14 (.int .i64 x14) ⟨fs, fh, fl, ts, th, tl, r6, 1, 0, 0, false, false, false, false, x14, 0, y16, x17⟩ (.slice none 0 0) rfl).le (by omega)⟩
    · clear c7
      go_wp2_with fail
      refine (pick_lit_at _ b (R + 49) _ _ [0, 5000, 65535] _ _ (by simp) (by simp) hX.str (by simp) (by simp) (fun z => 0 ≤ z ∧ z ≤ 65535) (by simp)).mono ?_
      rintro e w3 ⟨x8, hx8, rfl, hs1, hg1⟩
      replace hx8 := Lib.hid hx8
      replace hX := (hX.alloc _).step hs1 hg1
      clear hs1 hg1
      go_wp2_with fail
      refine (pick_lit_at _ b (R + 48) _ _ [22, 80, 90, 443] _ _ (by simp) (by simp) hX.str (by simp) (by simp) (fun z => 0 ≤ z ∧ z ≤ 65535) (by simp)).mono ?_
      rintro e w4 ⟨x9, hx9, rfl, hs1, hg1⟩
      replace hx9 := Lib.hid hx9
      replace hX := (hX.alloc _).step hs1 hg1
      clear hs1 hg1
      have f8 := hX.blk.free 8
      have c8 := hX.blk.cell (i := 8) (v := .int .i64 0) rfl
      have f9 := hX.blk.free 9
      have c9 := hX.blk.cell (i := 9) (v := .int .i64 0) rfl
      go_wp2_with fail
      replace hX := ((hX.set 8 (.int .i64 x8) ⟨fs, fh, fl, ts, th, tl, r6, 6, x8, 0, false, false, false, false, 0, 0, false, 0⟩ (.slice none 0 0) rfl).set 9 (.int .i64 x9) ⟨fs, fh, fl, ts, th, tl, r6, 6, x8, x9, false, false, false, false, 0, 0, false, 0⟩ (.slice none 0 0) rfl)
      clear f8 c8 f9 c9
      refine (flip_any 3 _ _ (R + 47) (by omega) (by omega) hX.str).mono ?_
      rintro e w5 ⟨y1, rfl, hs1, hg1⟩
      replace hX := hX.step hs1 hg1
      clear hs1 hg1
      go_wp2_with fail
      refine (flip_any 8 _ _ (R + 46) (by omega) (by omega) hX.str).mono ?_
      rintro e w6 ⟨y2, rfl, hs1, hg1⟩
      replace hX := hX.step hs1 hg1
      clear hs1 hg1
      go_wp2_with fail
      refine (flip_any 12 _ _ (R + 45) (by omega) (by omega) hX.str).mono ?_
      rintro e w7 ⟨y3, rfl, hs1, hg1⟩
      replace hX := hX.step hs1 hg1
      clear hs1 hg1
      go_wp2_with fail
      refine (flip_any 2 _ _ (R + 44) (by omega) (by omega) hX.str).mono ?_
      rintro e w8 ⟨y4, rfl, hs1, hg1⟩
      replace hX := hX.step hs1 hg1
      clear hs1 hg1
      have f10 := hX.blk.free 10
      have c10 := hX.blk.cell (i := 10) (v := .bool false) rfl
      have f11 := hX.blk.free 11
      have c11 := hX.blk.cell (i := 11) (v := .bool false) rfl
      have f12 := hX.blk.free 12
      have c12 := hX.blk.cell (i := 12) (v := .bool false) rfl
      have f13 := hX.blk.free 13
      have c13 := hX.blk.cell (i := 13) (v := .bool false) rfl
      go_wp2_with fail
      replace hX := ((((hX.set 10 (.bool y1) ⟨fs, fh, fl, ts, th, tl, r6, 6, x8, x9, y1, false, false, false, 0, 0, false, 0⟩ (.slice none 0 0) rfl).set 11 (.bool y2) ⟨fs, fh, fl, ts, th, tl, r6, 6, x8, x9, y1, y2, false, false, 0, 0, false, 0⟩ (.slice none 0 0) rfl).set 12 (.bool y3) ⟨fs, fh, fl, ts, th, tl, r6, 6, x8, x9, y1, y2, y3, false, 0, 0, false, 0⟩ (.slice none 0 0) rfl).set 13 (.bool y4) ⟨fs, fh, fl, ts, th, tl, r6, 6, x8, x9, y1, y2, y3, y4, 0, 0, false, 0⟩ (.slice none 0 0) rfl)
      clear f10 c10 f11 c11 f12 c12 f13 c13
      refine (pick_lit_at _ b (R + 43) _ _ [0, 1, 2147483648, 4294967295] _ _ (by simp) (by simp) hX.str (by simp) (by simp) (fun z => 0 ≤ z ∧ z ≤ 4294967295) (by simp)).mono ?_
      rintro e w9 ⟨x14, hx14, rfl, hs1, hg1⟩
      replace hx14 := Lib.hid hx14
      replace hX := (hX.alloc _).step hs1 hg1
      clear hs1 hg1
      have f14 := hX.blk.free 14
      have c14 := hX.blk.cell (i := 14) (v := .int .i64 0) rfl
      have g13 := hX.blk.cell (i := 13) (v := .bool y4) rfl
      have hX' := (hX.set 14 (.int .i64 x14) ⟨fs, fh, fl, ts, th, tl, r6, 6, x8, x9, y1, y2, y3, y4, x14, 0, false, 0⟩ (.slice none 0 0) rfl)
      have hpl := hX.lt
      cases y4
      · go_wp2_with fail
        go_meet
        exact ⟨_, ⟨ok_mk hW hr6.out (.inr (.inl rfl)) hx8.out hx9.out hx14.out (fun h => by cases h) ⟨by omega, by omega⟩ ⟨by omega, by omega⟩ hft.out.1, by simp [fldB, hpB, htB, hiB], hft.out.2.1, hft.out.2.2⟩, hX'.le (by omega)⟩
      · go_wp2_with fail
        replace hX := hX'
        clear f14 c14 g13 hX'
        refine (pick_lit_at _ b (R + 42) _ _ [0, 7, 4294967295] _ _ (by simp) (by simp) hX.str (by simp) (by simp) (fun z => 0 ≤ z ∧ z ≤ 4294967295) (by simp)).mono ?_
        rintro e w10 ⟨x15, hx15, rfl, hs1, hg1⟩
        replace hx15 := Lib.hid hx15
        replace hX := (hX.alloc _).step hs1 hg1
        clear hs1 hg1
        have f15 := hX.blk.free 15
        have c15 := hX.blk.cell (i := 15) (v := .int .i64 0) rfl
        go_wp2_with fail
        go_meet
        exact ⟨_, ⟨ok_mk hW hr6.out (.inr (.inl rfl)) hx8.out hx9.out hx14.out (fun h => by cases h) hx15.out ⟨by omega, by omega⟩ hft.out.1, by simp [fldB, hpB, htB, hiB], hft.out.2.1, hft.out.2.2⟩, (hX.set 15 (.int .i64 x15) ⟨fs, fh, fl, ts, th, tl, r6, 6, x8, x9, y1, y2, y3, true, x14, x15, false, 0⟩ (.slice none 0 0) rfl).le (by omega)⟩
    · clear c7
      go_wp2_with fail
      refine (pick_lit_at _ b (R + 49) _ _ [0, 53, 5000] _ _ (by simp) (by simp) hX.str (by simp) (by simp) (fun z => 0 ≤ z ∧ z ≤ 65535) (by simp)).mono ?_
      rintro e w3 ⟨x8, hx8, rfl, hs1, hg1⟩
      replace hx8 := Lib.hid hx8
      replace hX := (hX.alloc _).step hs1 hg1
      clear hs1 hg1
      go_wp2_with fail
      refine (pick_lit_at _ b (R + 48) _ _ [53, 80] _ _ (by simp) (by simp) hX.str (by simp) (by simp) (fun z => 0 ≤ z ∧ z ≤ 65535) (by simp)).mono ?_
      rintro e w4 ⟨x9, hx9, rfl, hs1, hg1⟩
      replace hx9 := Lib.hid hx9
      replace hX := (hX.alloc _).step hs1 hg1
      clear hs1 hg1
      have f8 := hX.blk.free 8
      have c8 := hX.blk.cell (i := 8) (v := .int .i64 0) rfl
      have f9 := hX.blk.free 9
      have c9 := hX.blk.cell (i := 9) (v := .int .i64 0) rfl
      go_wp2_with fail
      go_meet
      exact ⟨_, ⟨ok_mk hW hr6.out (.inr (.inr rfl)) hx8.out hx9.out ⟨by omega, by omega⟩ (fun h => by cases h) ⟨by omega, by omega⟩ ⟨by omega, by omega⟩ hft.out.1, by simp [fldB, hpB, htB, hiB], hft.out.2.1, hft.out.2.2⟩, ((hX.set 8 (.int .i64 x8) ⟨fs, fh, fl, ts, th, tl, r6, 17, x8, 0, false, false, false, false, 0, 0, false, 0⟩ (.slice none 0 0) rfl).set 9 (.int .i64 x9) ⟨fs, fh, fl, ts, th, tl, r6, 17, x8, x9, false, false, false, false, 0, 0, false, 0⟩ (.slice none 0 0) rfl).le (by omega)⟩
  case rest =>
  clear hX hU hW c7
  obtain ⟨q, hW, hX⟩ := hcut
  go_wp2_with fail
  refine (pick_lit_at _ b (R + 41) _ _ [0, 0, 1, 2, 3, 20] _ _ (by simp) (by simp) hX.str (by simp) (by simp) (fun z => 0 ≤ z ∧ z ≤ 20) (by simp)).mono ?_
  rintro e w3 ⟨cnt, ⟨hc0, hc1⟩, rfl, hs1, hg1⟩
  replace hX := Lib.hid ((hX.alloc _).step hs1 hg1)
  clear hs1 hg1
  go_wp2_with fail
  go_loopw [76] (fun i wr => ∃ (k : Nat) (v : Value) (pl : List Nat), (k : Int) ≤ cnt ∧ i = .int .i64 k ∧ Hid (PreP w b (R + (40 - 2 * k) + 1) rq pa q v wr) ∧ Hid (Own (pa + 1) wr v pl) ∧ Hid (Byt pl) ∧ Hid (pl.length = k)) (fun i _ => (cnt - intOf i).toNat)
  case atStart => exact ⟨0, _, [], by omega, rfl, Lib.hid (hX.out.le (by omega)), Lib.hid (Own.nil _ _), Lib.hid (fun b hb => by cases hb), Lib.hid rfl⟩
  case round =>
    obtain ⟨k, v, pl, hk, rfl, hX, hO, hpb, hpl⟩ := hrel
    have hlt := hX.out.lt
    by_cases hlt2 : (k : Int) < cnt
    · have hk20 : k < 20 := by omega
      go_wp2_with fail
      refine wb_begin ([pa]) [11] (by kernel_rfl) (fun u0 hb0' hz0' => ?_)
      replace hX := Lib.hid (hX.out.below hb0')
      replace hO := Lib.hid (hO.out.below hb0')
      clear hb0' hz0'
      refine wb_pure (i := 0) (d := some 78) (v := ?_) (by simp only [List.getElem?_toArray, List.getElem?_cons_succ, List.getElem?_cons_zero] <;> rfl) (by rfl) (by kernel_rfl) (by kernel_rfl) (by kernel_rfl) (fun _ _ _ h => h) (by rfl) ?_ ?_
      rotate_left
      · ((intro u); go_simp; try with_reducible rfl)
      try simp only [Act.put, List.setIfInBounds_toArray, List.set_cons_zero, List.set_cons_succ]
      refine wb_take (i := 1) (d := some 79) (v := ?_) (by simp only [List.getElem?_toArray, List.getElem?_cons_succ, List.getElem?_cons_zero] <;> rfl) (by rfl) (by kernel_rfl) (by kernel_rfl) (by kernel_rfl) (fun _ _ _ h => h) (by rfl) (by kernel_rfl) ?_ ?_
      rotate_left
      · ((intro u hu); have c18 := (hX.out.blk.kb hu (by simp)).cell (i := 18) (v := v) rfl; go_simp; try with_reducible rfl)
      try simp only [Act.put, List.setIfInBounds_toArray, List.set_cons_zero, List.set_cons_succ]
      refine wb_pure (i := 2) (d := some 80) (v := ?_) (by simp only [List.getElem?_toArray, List.getElem?_cons_succ, List.getElem?_cons_zero] <;> rfl) (by rfl) (by kernel_rfl) (by kernel_rfl) (by kernel_rfl) (fun _ _ _ h => h) (by rfl) ?_ ?_
      rotate_left
      · ((intro u); go_simp; try with_reducible rfl)
      try simp only [Act.put, List.setIfInBounds_toArray, List.set_cons_zero, List.set_cons_succ]
      refine wb_pure (i := 3) (d := some 81) (v := ?_) (by simp only [List.getElem?_toArray, List.getElem?_cons_succ, List.getElem?_cons_zero] <;> rfl) (by rfl) (by kernel_rfl) (by kernel_rfl) (by kernel_rfl) (fun _ _ _ h => h) (by rfl) ?_ ?_
      rotate_left
      · ((intro u); go_simp; try with_reducible rfl)
      try simp only [Act.put, List.setIfInBounds_toArray, List.set_cons_zero, List.set_cons_succ]
      refine wb_one (i := 4) (by simp only [List.getElem?_toArray, List.getElem?_cons_succ, List.getElem?_cons_zero] <;> rfl) (by kernel_rfl) (by rfl) (fun K hK => ?_)
      go_simp
      refine (range_any 0 255 _ b (R + (40 - 2 * k)) (by omega) (by omega) (by omega) hX.out.str).mono ?_
      rintro e u4 ⟨x, ⟨hx0, hx1⟩, rfl, hs1, hg1⟩
      refine hK.out _ _ (Kb.gb hg1 (by intro p hp; rw [List.mem_singleton.1 hp]; exact ⟨hX.out.blk.lt, by intro e; cases e; omega⟩)) ?_
      replace hX := Lib.hid (hX.out.step hs1 hg1)
      replace hO := Lib.hid (hO.out.gbb hg1 (by omega))
      clear hK K hs1 hg1
      try simp only [Act.put, List.setIfInBounds_toArray, List.set_cons_zero, List.set_cons_succ]
      refine wb_one (i := 5) (by simp only [List.getElem?_toArray, List.getElem?_cons_succ, List.getElem?_cons_zero] <;> rfl) (by kernel_rfl) (by rfl) (fun K hK => ?_)
      go_simp
      refine hK.out _ _ (Kb.gb (World.grownBy_alloc _ _ none) (by intro p hp; rw [List.mem_singleton.1 hp]; exact ⟨hX.out.blk.lt, by simp⟩)) ?_
      refine wb_new (cs := ([0, 255, 65, x] : List Int).map (Value.int .i64)) (t := 3) (fun u5 hv5 hL5' hz5 => ?_)
      obtain ⟨p5, hL5, hlt5, hrq5, hE5⟩ := blk_ex hL5' hX.out.str.lt hX.out.res.lt
      rw [hE5]
      replace hX := Lib.hid (hX.out.below hv5)
      replace hO := Lib.hid (hO.out.below hv5)
      clear hK K hv5 hz5 hL5' hE5
      try simp only [Act.put, List.setIfInBounds_toArray, List.set_cons_zero, List.set_cons_succ]
      refine wb_one (i := 6) (by simp only [List.getElem?_toArray, List.getElem?_cons_succ, List.getElem?_cons_zero] <;> rfl) (by kernel_rfl) (by rfl) (fun K hK => ?_)
      go_simp
      refine (pick_blkP _ b (R + (40 - 2 * (k + 1)) + 1) p5 4 [0, 255, 65, x] _ _ (hX.out.le (R' := R + (40 - 2 * (k + 1)) + 1 + 1) (by omega)).str hL5 hlt5 (by simp) (by simp) (by simp) (fun z => 0 ≤ z ∧ z ≤ 255) (by simp; omega)).mono ?_
      rintro e u6 ⟨y, hy, rfl, hs1, hg1⟩
      obtain ⟨yn, rfl⟩ := Int.eq_ofNat_of_zero_le hy.1
      have hy8 : yn < 256 := by have := hy.2; omega
      have wy := wrap8 yn hy8
      have my : (yn : Int) % 256 = yn := by omega
      refine hK.out _ _ (Kb.gb hg1 (by intro p hp; rw [List.mem_singleton.1 hp]; exact ⟨hX.out.blk.lt, by intro e; cases e; omega⟩)) ?_
      replace hX := Lib.hid (hX.out.step hs1 hg1)
      replace hO := Lib.hid (hO.out.gbb hg1 (by omega))
      clear hK K hs1 hg1 hL5 hy
      try simp only [Act.put, List.setIfInBounds_toArray, List.set_cons_zero, List.set_cons_succ]
      refine wb_pure (i := 7) (d := some 85) (v := ?_) (by simp only [List.getElem?_toArray, List.getElem?_cons_succ, List.getElem?_cons_zero] <;> rfl) (by rfl) (by kernel_rfl) (by kernel_rfl) (by kernel_rfl) (fun _ _ _ h => h) (by rfl) ?_ ?_
      rotate_left
      · ((intro u); go_simp; try with_reducible rfl)
      try simp only [Act.put, List.setIfInBounds_toArray, List.set_cons_zero, List.set_cons_succ]
      refine wb_one (i := 8) (by simp only [List.getElem?_toArray, List.getElem?_cons_succ, List.getElem?_cons_zero] <;> rfl) (by kernel_rfl) (by rfl) (fun K hK => ?_)
      go_simp
      refine hK.out _ _ (Kb.gb (World.grownBy_alloc _ _ none) (by intro p hp; rw [List.mem_singleton.1 hp]; exact ⟨hX.out.blk.lt, by simp⟩)) ?_
      refine wb_new (cs := bV [yn]) (t := 5) (fun u8 hv8 hL8 hz8 => ?_)
      have hS8 := slB_blk (n := 1) hL8 rfl
      replace hX := Lib.hid (hX.out.below hv8)
      replace hO := Lib.hid (hO.out.below hv8)
      clear hK K hv8 hz8 hL8
      try simp only [Act.put, List.setIfInBounds_toArray, List.set_cons_zero, List.set_cons_succ]
      refine wb_one (i := 9) (by simp only [List.getElem?_toArray, List.getElem?_cons_succ, List.getElem?_cons_zero] <;> rfl) (by kernel_rfl) (by rfl) (fun K hK => ?_)
      refine wp_append_slB _ _ rfl (pa + 1) _ pl rfl hO.out _ 1 1 [yn] rfl hS8 (fun h => by cases h) (by have := hpl.out; omega) hX.out.blk.lt ?_
      intro v9 u9 o9 hg9
      have hv9 := own_next hg9 hO.out hX.out.blk.lt
      refine hK.out _ _ (Kb.below hv9 (by intro p hp; rw [List.mem_singleton.1 hp]; omega)) ?_
      replace hX := Lib.hid (hX.out.upB hv9)
      obtain ⟨A9, l9, c9, rfl⟩ := own_slice o9
      replace o9 := Lib.hid o9
      have f18 := hX.out.blk.free 18
      have c18 := hX.out.blk.cell (i := 18) (v := v) rfl
      clear hK K hg9 hv9 hO hS8
      try simp only [Act.put, List.setIfInBounds_toArray, List.set_cons_zero, List.set_cons_succ]
      refine wb_pure (i := 10) (d := some 88) (v := ?_) (by simp only [List.getElem?_toArray, List.getElem?_cons_succ, List.getElem?_cons_zero] <;> rfl) (by rfl) (by kernel_rfl) (by kernel_rfl) (by kernel_rfl) (fun _ _ _ h => h) (by rfl) ?_ ?_
      rotate_left
      · ((intro u); go_simp; try with_reducible rfl)
      try simp only [Act.put, List.setIfInBounds_toArray, List.set_cons_zero, List.set_cons_succ]
      refine wb_store (i := 11) (by simp only [List.getElem?_toArray, List.getElem?_cons_succ, List.getElem?_cons_zero] <;> rfl) (by kernel_rfl) (by rfl) (by kernel_rfl) (fun K hK => ?_)
      go_simp
      refine hK.out _ _ ?_
      clear hK K
      try simp only [Act.put, List.setIfInBounds_toArray, List.set_cons_zero, List.set_cons_succ]
      refine wb_done (by kernel_rfl) ?_ _
      skip
      go_wp2_with fail
      go_roundw
      case rel => exact ⟨k + 1, .slice A9 l9 c9, pl ++ [yn], by omega, by go_num, Lib.hid (hX.out.set 18 (.slice A9 l9 c9) q (.slice A9 l9 c9) rfl), Lib.hid (o9.out.setOther (Nat.lt_succ_self _)), Lib.hid (Byt.app hpb.out (by intro z hz; simp at hz; omega)), Lib.hid (by rw [List.length_append, hpl.out]; rfl)⟩
      case measure => simp [intOf]; omega
    · have L := ldPk_run hX.out.blk
      have S := stPk_run (q := q) (v := v) hX.out.res rfl (own_one hO.out)
      have hpl20 : pl.length ≤ 20 := by have := hpl.out; omega
      replace hpl20 := Lib.hid hpl20
      replace hW := Lib.hid hW
      have hS := Lib.hid (hX.out.str)
      have hB := Lib.hid (hX.out.base)
      have hR := Lib.hid (hX.out.res)
      go_wp2_with fail
      have hgr : World.grownBy wr (wr.setRow rq (pkL q v).toArray) (some rq) := ⟨rfl, rfl, rfl, by simp [World.setRow], fun p hp hne => setRow_other wr rq p _ (fun e => hne (by rw [e]))⟩
      have hO2 := hO.out.gbb hgr (by omega)
      obtain ⟨A, cap, rfl, hSl, hA⟩ := hO2.sl
      refine bodyPost_ret (v := pkV q (.slice A pl.length cap)) (results_cell_row rfl _ _ rq _ _ (0, 0) _ rfl (setRow_heap wr rq _ _ _ _ hR.out) Tryz.underlying31 rfl (by kernel_rfl)) rfl ?_
      refine ⟨q, A, pl.length, cap, pl, rfl, hW.out, hSl, hA, hpb.out, hpl20.out, fun j hj => ?_, ?_, ?_⟩
      · exact ⟨by have := (hO2.lt j hj).1; omega, (hO2.lt j hj).2⟩
      · exact (hS.out.upto (fun j hj => setRow_other wr rq j _ (by omega))).le (by omega)
      · exact ⟨hgr.os.trans hB.out.os, hgr.tape.trans hB.out.tape, hgr.output.trans hB.out.output, Nat.le_trans hB.out.size hgr.size, fun j hj hne => (setRow_other wr rq j _ (by omega)).trans (hB.out.block j hj hne)⟩
end Go.Proofs.YtijlahgmnpnmfaaGreatDoor
