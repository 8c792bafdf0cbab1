/- Packets: the drawn ones. -/
import Derived.Test.YtigbbpgfblnboaaPkV
import Derived.Test.YtigbbpgfblnboaaPkU
namespace Go.Proofs.Ytigbbpgfblnboaa
open Go.RowKit
set_option linter.unusedVariables false
set_option linter.unusedSimpArgs false

theorem slSet {w : World} {A : Option Addr} {n c p : Nat} {bs : List Nat} (h : SlB w A n c bs) (hne : ∀ k, (Value.slice A n c).ownBlock = some k → k ≠ p) (i : Nat) (x : Value) : SlB (w.setCell ⟨p, i, none⟩ x) A n c bs :=
  h.gb (g := p) ⟨rfl, rfl, rfl, by simp, fun k _ hk => Below.heap_setCell _ _ _ _ (fun e => hk (by rw [e]))⟩ hne
set_option maxHeartbeats 2000000 in
set_option maxRecDepth 100000 in
theorem packet_any (w : World) (b R : Nat) (hs : Str w b (R + 120)) :
    Calls Try.prog 17 #[.pointer (some ⟨b, 0, none⟩)] w (PkPost b R w) := by
  have hR := Blk.new w zeroP 45
  have hg := gb_alloc (gb_refl w (some b)) (.cells #[.bool false, .int .u64 0, .int .u64 0, .bool false, .int .u64 0, .int .u64 0, .int .i64 0, .int .i64 0, .int .i64 0, .int .i64 0, .bool false, .bool false, .bool false, .bool false, .int .i64 0, .int .i64 0, .bool false, .int .i64 0, .slice none 0 0] 45)
  have hb0 := hs.lt
  have hwz : w.heap.size < (w.alloc (.cells #[.bool false, .int .u64 0, .int .u64 0, .bool false, .int .u64 0, .int .u64 0, .int .i64 0, .int .i64 0, .int .i64 0, .int .i64 0, .bool false, .bool false, .bool false, .bool false, .int .i64 0, .int .i64 0, .bool false, .int .i64 0, .slice none 0 0] 45)).heap.size := by simp
  replace hs := (hs.alloc (.cells #[.bool false, .int .u64 0, .int .u64 0, .bool false, .int .u64 0, .int .u64 0, .int .i64 0, .int .i64 0, .int .i64 0, .int .i64 0, .bool false, .bool false, .bool false, .bool false, .int .i64 0, .int .i64 0, .bool false, .int .i64 0, .slice none 0 0] 45)).le (R' := (R + 50) + 70) (by omega)
  have HR := Lib.hid (rightPacket_any _ b (R + 50) hs)
  go_enter Try.func17, Try.ntmps17
  go_wp2_with fail
  refine HR.out.mono ?_
  rintro e u1 ⟨q, A, n, cap, pl, rfl, hW1, hW2, hSl, hA, hby, hn20, hblk, hs1, hg1⟩
  have hX0 := hR.gb hg1 hb0
  have hg0 := gb_trans hg hg1
  have S := stPk_run (q := q) (v := .slice A n cap) (Blk.new u1 zeroP 45) rfl rfl
  have hX : PreP w b (R + 50) w.heap.size u1.heap.size q (.slice A n cap) ((u1.alloc (.cells zeroP.toArray 45)).setRow u1.heap.size (pkL q (.slice A n cap)).toArray) :=
    PreP.row (hs1.alloc _) (hX0.alloc _) (Blk.new u1 zeroP 45) (gb_alloc hg0 _) hb0 (Nat.le_refl _) hX0.lt
  have hrow : World.grownBy (u1.alloc (.cells zeroP.toArray 45)) ((u1.alloc (.cells zeroP.toArray 45)).setRow u1.heap.size (pkL q (.slice A n cap)).toArray) (some u1.heap.size) := ⟨rfl, rfl, rfl, by simp [World.setRow], fun p hp hne => setRow_other _ u1.heap.size p _ (fun e => hne (by rw [e]))⟩
  have hSl1 : SlB ((u1.alloc (.cells zeroP.toArray 45)).setRow u1.heap.size (pkL q (.slice A n cap)).toArray) A n cap pl :=
    SlB.gb (hSl.below ((Below.refl _ _).alloc (Nat.le_refl _) _)) hrow (fun k hk => by have := (hblk k hk).2; omega)
  have hapart : (∀ k, (Value.slice A n cap).ownBlock = some k → k ≠ b) ∧ (∀ k, (Value.slice A n cap).ownBlock = some k → k ≠ w.heap.size) ∧ (∀ k, (Value.slice A n cap).ownBlock = some k → k ≠ u1.heap.size) :=
    ⟨fun k hk => by have := (hblk k hk).1; omega, fun k hk => by have := (hblk k hk).1; omega, fun k hk => by have := (hblk k hk).2; omega⟩
  have hblk2 : ∀ k, (Value.slice A n cap).ownBlock = some k → w.heap.size ≤ k ∧ k < u1.heap.size + 1 := fun k hk => by have := hblk k hk; omega
  have hW : Wd q.fh q.fl ∧ Wd q.th q.tl := ⟨hW1, hW2⟩
  clear hX0 hg0 hrow hSl hR hg hs1 hg1 HR hs hblk hwz
  replace hX := Lib.hid hX
  replace hSl := Lib.hid hSl1
  replace hblk2 := Lib.hid hblk2
  replace hapart := Lib.hid hapart
  clear hSl1
  obtain ⟨rq, hrq⟩ : ∃ rq, rq = w.heap.size := ⟨_, rfl⟩
  go_wp2_with fail
  replace hX := hX.out
  replace hSl := hSl.out
  replace hapart := hapart.out
  refine (flip_any 10 _ _ (R + 49) (by omega) (by omega) hX.str).mono ?_
  rintro e w2 ⟨r2, rfl, hs1, hg1⟩
  replace hX := hX.step hs1 hg1
  replace hSl := hSl.gb hg1 hapart.1
  clear hs1 hg1
  have hlt3 := hX.lt
  obtain ⟨pa, hpa⟩ : ∃ pa, pa = u1.heap.size := ⟨_, rfl⟩
  rw [← hpa] at hX hapart hblk2 ⊢
  rw [← hrq] at hX hapart hblk2 ⊢
  replace hpa := Lib.hid hpa
  replace hrq := Lib.hid hrq
  clear S hlt3
  go_upto_if 7 with fail
  go_cut [] (fun wx => ∃ q' : Pk, (Wd q'.fh q'.fl ∧ Wd q'.th q'.tl) ∧ Hid (PreP w b R rq pa q' (.slice A n cap) wx) ∧ Hid (SlB wx A n cap pl))
  case first =>
    cases r2
    · go_wp2_with fail
      go_meet
      exact ⟨q, hW, Lib.hid (hX.le (R' := R) (by omega)), Lib.hid hSl⟩
    · go_wp2_with fail
      refine (next_any 7 _ _ (R + 48) (by omega) (by omega) hX.str).mono ?_
      rintro e w4 ⟨nx, ⟨hn0, hn1⟩, rfl, hs1, hg1⟩
      replace hX := hX.step hs1 hg1
      replace hSl := hSl.gb hg1 hapart.1
      clear hs1 hg1
      rcases (by omega : nx = 0 ∨ nx = 1 ∨ nx = 2 ∨ nx = 3 ∨ nx = 4 ∨ nx = 5 ∨ nx = 6) with rfl | rfl | rfl | rfl | rfl | rfl | rfl
      · skip
        go_wp2_with fail
        refine (raw_any _ b (R + 10) (hX.le (R' := R + 10 + 6) (by omega)).str).mono ?_
        rintro e w5 ⟨s, h, l, hP, rfl, hs1, hg1⟩
        replace hX := hX.step hs1 hg1
        replace hSl := hSl.gb hg1 hapart.1
        clear hs1 hg1
        have f0 := hX.blk.free 0
        have c0 := hX.blk.cell (i := 0) (v := .bool q.fs) rfl
        have f1 := hX.blk.free 1
        have c1 := hX.blk.cell (i := 1) (v := .int .u64 q.fh) rfl
        have f2 := hX.blk.free 2
        have c2 := hX.blk.cell (i := 2) (v := .int .u64 q.fl) rfl
        go_wp2_with fail
        go_meet
        exact ⟨(Pk.mk s h l q.ts q.th q.tl q.hops q.proto q.fp q.tp q.syn q.fin q.rst q.has q.seq q.ack q.reply q.id), ⟨⟨hP.1.1, hP.1.2, hP.2.1, hP.2.2⟩, hW.2⟩, Lib.hid ((((hX.set 0 (.bool s) (Pk.mk s q.fh q.fl q.ts q.th q.tl q.hops q.proto q.fp q.tp q.syn q.fin q.rst q.has q.seq q.ack q.reply q.id) (.slice A n cap) rfl).set 1 (.int .u64 h) (Pk.mk s h q.fl q.ts q.th q.tl q.hops q.proto q.fp q.tp q.syn q.fin q.rst q.has q.seq q.ack q.reply q.id) (.slice A n cap) rfl).set 2 (.int .u64 l) (Pk.mk s h l q.ts q.th q.tl q.hops q.proto q.fp q.tp q.syn q.fin q.rst q.has q.seq q.ack q.reply q.id) (.slice A n cap) rfl).le (R' := R) (by omega)), Lib.hid (slSet (slSet (slSet hSl hapart.2.2 0 (.bool s)) hapart.2.2 1 (.int .u64 h)) hapart.2.2 2 (.int .u64 l))⟩
      · skip
        go_wp2_with fail
        refine (odd_any 0 255 _ _ (R + 10) (by omega) (by omega) (by omega) (hX.le (R' := (R + 10) + 2) (by omega)).str).mono ?_
        rintro e w5 ⟨x, _, rfl, hs1, hg1⟩
        replace hX := hX.step hs1 hg1
        replace hSl := hSl.gb hg1 hapart.1
        clear hs1 hg1
        have f6 := hX.blk.free 6
        have c6 := hX.blk.cell (i := 6) (v := .int .i64 q.hops) rfl
        go_wp2_with fail
        go_meet
        exact ⟨(Pk.mk q.fs q.fh q.fl q.ts q.th q.tl x q.proto q.fp q.tp q.syn q.fin q.rst q.has q.seq q.ack q.reply q.id), hW, Lib.hid ((hX.set 6 (.int .i64 x) (Pk.mk q.fs q.fh q.fl q.ts q.th q.tl x q.proto q.fp q.tp q.syn q.fin q.rst q.has q.seq q.ack q.reply q.id) (.slice A n cap) rfl).le (R' := R) (by omega)), Lib.hid (slSet hSl hapart.2.2 6 (.int .i64 x))⟩
      · skip
        go_wp2_with fail
        refine (pick_lit_at _ b (R + 10) _ _ [0, 1, 6, 17, 47, 58] _ _ (by simp) (by simp) (hX.le (R' := R + 10 + 1) (by omega)).str (by simp) (by simp) (fun _ => True) (by simp)).mono ?_
        rintro e w5 ⟨x, _, rfl, hs1, hg1⟩
        replace hX := hX.alloc (.cells (([0, 1, 6, 17, 47, 58] : List Int).map (Value.int .i64)).toArray 3)
        replace hSl := hSl.below ((Below.refl _ _).alloc (Nat.le_refl _) (.cells (([0, 1, 6, 17, 47, 58] : List Int).map (Value.int .i64)).toArray 3))
        replace hX := hX.step hs1 hg1
        replace hSl := hSl.gb hg1 hapart.1
        clear hs1 hg1
        have f7 := hX.blk.free 7
        have c7 := hX.blk.cell (i := 7) (v := .int .i64 q.proto) rfl
        go_wp2_with fail
        go_meet
        exact ⟨(Pk.mk q.fs q.fh q.fl q.ts q.th q.tl q.hops x q.fp q.tp q.syn q.fin q.rst q.has q.seq q.ack q.reply q.id), hW, Lib.hid ((hX.set 7 (.int .i64 x) (Pk.mk q.fs q.fh q.fl q.ts q.th q.tl q.hops x q.fp q.tp q.syn q.fin q.rst q.has q.seq q.ack q.reply q.id) (.slice A n cap) rfl).le (R' := R) (by omega)), Lib.hid (slSet hSl hapart.2.2 7 (.int .i64 x))⟩
      · skip
        go_wp2_with fail
        refine (odd_any 0 65535 _ _ (R + 10) (by omega) (by omega) (by omega) (hX.le (R' := (R + 10) + 2) (by omega)).str).mono ?_
        rintro e w5 ⟨x, _, rfl, hs1, hg1⟩
        replace hX := hX.step hs1 hg1
        replace hSl := hSl.gb hg1 hapart.1
        clear hs1 hg1
        have f9 := hX.blk.free 9
        have c9 := hX.blk.cell (i := 9) (v := .int .i64 q.tp) rfl
        go_wp2_with fail
        go_meet
        exact ⟨(Pk.mk q.fs q.fh q.fl q.ts q.th q.tl q.hops q.proto q.fp x q.syn q.fin q.rst q.has q.seq q.ack q.reply q.id), hW, Lib.hid ((hX.set 9 (.int .i64 x) (Pk.mk q.fs q.fh q.fl q.ts q.th q.tl q.hops q.proto q.fp x q.syn q.fin q.rst q.has q.seq q.ack q.reply q.id) (.slice A n cap) rfl).le (R' := R) (by omega)), Lib.hid (slSet hSl hapart.2.2 9 (.int .i64 x))⟩
      · skip
        go_wp2_with fail
        refine (odd_any 0 4294967295 _ _ (R + 20) (by omega) (by omega) (by omega) (hX.le (R' := (R + 20) + 2) (by omega)).str).mono ?_
        rintro e w5 ⟨x, _, rfl, hs1, hg1⟩
        replace hX := hX.step hs1 hg1
        replace hSl := hSl.gb hg1 hapart.1
        clear hs1 hg1
        go_wp2_with fail
        refine (odd_any 0 4294967295 _ _ (R + 10) (by omega) (by omega) (by omega) (hX.le (R' := (R + 10) + 2) (by omega)).str).mono ?_
        rintro e w6 ⟨y, _, rfl, hs1, hg1⟩
        replace hX := hX.step hs1 hg1
        replace hSl := hSl.gb hg1 hapart.1
        clear hs1 hg1
        have f14 := hX.blk.free 14
        have c14 := hX.blk.cell (i := 14) (v := .int .i64 q.seq) rfl
        have f15 := hX.blk.free 15
        have c15 := hX.blk.cell (i := 15) (v := .int .i64 q.ack) rfl
        go_wp2_with fail
        go_meet
        exact ⟨(Pk.mk q.fs q.fh q.fl q.ts q.th q.tl q.hops q.proto q.fp q.tp q.syn q.fin q.rst q.has x y q.reply q.id), hW, Lib.hid (((hX.set 14 (.int .i64 x) (Pk.mk q.fs q.fh q.fl q.ts q.th q.tl q.hops q.proto q.fp q.tp q.syn q.fin q.rst q.has x q.ack q.reply q.id) (.slice A n cap) rfl).set 15 (.int .i64 y) (Pk.mk q.fs q.fh q.fl q.ts q.th q.tl q.hops q.proto q.fp q.tp q.syn q.fin q.rst q.has x y q.reply q.id) (.slice A n cap) rfl).le (R' := R) (by omega)), Lib.hid (slSet (slSet hSl hapart.2.2 14 (.int .i64 x)) hapart.2.2 15 (.int .i64 y))⟩
      · skip
        go_wp2_with fail
        refine (odd_any 0 65535 _ _ (R + 10) (by omega) (by omega) (by omega) (hX.le (R' := (R + 10) + 2) (by omega)).str).mono ?_
        rintro e w5 ⟨x, _, rfl, hs1, hg1⟩
        replace hX := hX.step hs1 hg1
        replace hSl := hSl.gb hg1 hapart.1
        clear hs1 hg1
        have f17 := hX.blk.free 17
        have c17 := hX.blk.cell (i := 17) (v := .int .i64 q.id) rfl
        have f16 := hX.blk.free 16
        have c16 := hX.blk.cell (i := 16) (v := .bool q.reply) rfl
        go_wp2_with fail
        go_meet
        exact ⟨(Pk.mk q.fs q.fh q.fl q.ts q.th q.tl q.hops q.proto q.fp q.tp q.syn q.fin q.rst q.has q.seq q.ack true x), hW, Lib.hid (((hX.set 17 (.int .i64 x) (Pk.mk q.fs q.fh q.fl q.ts q.th q.tl q.hops q.proto q.fp q.tp q.syn q.fin q.rst q.has q.seq q.ack q.reply x) (.slice A n cap) rfl).set 16 (.bool true) (Pk.mk q.fs q.fh q.fl q.ts q.th q.tl q.hops q.proto q.fp q.tp q.syn q.fin q.rst q.has q.seq q.ack true x) (.slice A n cap) rfl).le (R' := R) (by omega)), Lib.hid (slSet (slSet hSl hapart.2.2 17 (.int .i64 x)) hapart.2.2 16 (.bool true))⟩
      · skip
        have f10 := hX.blk.free 10
        have c10 := hX.blk.cell (i := 10) (v := .bool q.syn) rfl
        have f13 := hX.blk.free 13
        have c13 := hX.blk.cell (i := 13) (v := .bool q.has) rfl
        go_wp2_with fail
        go_meet
        exact ⟨(Pk.mk q.fs q.fh q.fl q.ts q.th q.tl q.hops q.proto q.fp q.tp true q.fin q.rst false q.seq q.ack q.reply q.id), hW, Lib.hid (((hX.set 10 (.bool true) (Pk.mk q.fs q.fh q.fl q.ts q.th q.tl q.hops q.proto q.fp q.tp true q.fin q.rst q.has q.seq q.ack q.reply q.id) (.slice A n cap) rfl).set 13 (.bool false) (Pk.mk q.fs q.fh q.fl q.ts q.th q.tl q.hops q.proto q.fp q.tp true q.fin q.rst false q.seq q.ack q.reply q.id) (.slice A n cap) rfl).le (R' := R) (by omega)), Lib.hid (slSet (slSet hSl hapart.2.2 10 (.bool true)) hapart.2.2 13 (.bool false))⟩
  case rest =>
  clear hX hSl hW
  obtain ⟨q', hW, hX, hSl⟩ := hcut
  have L := ldPk_run hX.out.blk
  have S := stPk_run (q := q') (v := .slice A n cap) hX.out.res rfl rfl
  replace hW := Lib.hid hW
  go_wp2_with fail
  have hl3 := hX.out.lt
  have hgr : World.grownBy wc (wc.setRow rq (pkL q' (.slice A n cap)).toArray) (some rq) := ⟨rfl, rfl, rfl, by simp [World.setRow], fun p hp hne => setRow_other wc rq p _ (fun e => hne (by rw [e]))⟩
  refine bodyPost_ret (v := pkV q' (.slice A n cap)) (results_cell_row rfl _ _ rq _ _ (0, 0) _ rfl (setRow_heap wc rq _ _ _ _ hX.out.res) Try.underlying45 rfl (by kernel_rfl)) rfl ?_
  have hsz : (wc.setRow rq (pkL q' (.slice A n cap)).toArray).heap.size = wc.heap.size := by simp [World.setRow]
  have hpl := hX.out.blk.lt
  refine ⟨q', A, n, cap, pl, rfl, hW.out.1, hW.out.2, hSl.out.gb hgr hapart.2.1, hA, hby, hn20, fun j hj => ?_, ?_, ?_⟩
  · have := hblk2.out j hj
    rw [hsz]; omega
  · exact hX.out.str.upto (fun j hj => setRow_other wc rq j _ (by omega))
  · have hB := hX.out.base
    exact ⟨hgr.os.trans hB.os, hgr.tape.trans hB.tape, hgr.output.trans hB.output, Nat.le_trans hB.size hgr.size, fun j hj hne => (setRow_other wc rq j _ (by omega)).trans (hB.block j hj hne)⟩
end Go.Proofs.Ytigbbpgfblnboaa
