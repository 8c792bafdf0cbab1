/- SetsAreAlgebra: the law. -/
import Derived.Test.YtmgdkefoehlamaaGreatDoorKoGzA
import Derived.Test.YtmgdkefoehlamaaGreatDoorKoSgE
import Derived.Test.YtmgdkefoehlamaaGreatDoorKoSgF
import Derived.Test.YtmgdkefoehlamaaGreatDoorKoRwA
import Derived.Deep.CutBlock
set_option linter.unusedVariables false
set_option linter.unusedSimpArgs false
set_option maxRecDepth 100000
namespace Go.Proofs.YtmgdkefoehlamaaGreatDoor
open Go.RowKit

theorem bd_eq {a b c : List Pf} {F G : B3} (h : Bd a b c F) (he : ∀ x y z, F x y z = G x y z) : Bd a b c G := fun zs hz => h zs (hz.iff fun m => by rw [he])
theorem sg_none {a b c : List Pf} {F : B3} {W : World} {A : Option Addr} {n cap : Nat} {ps : List Pf} (h : Sg a b c F W A n cap ps) (he : ∀ x y z, F x y z = false) : n = 0 := by
  have e := h.rt.nil fun m hm => by rw [h.is m hm, he]
  rw [h.sl.len, e]; rfl
theorem sg_a {a b c : List Pf} (h : Th a b c) {W : World} {A : Option Addr} {cap : Nat} (hS : SlE ePf W A a.length cap a) : Sg a b c (fun x _ _ => x) W A a.length cap a := ⟨hS, by have := h.la; omega, h.ra, fun _ _ => rfl⟩
theorem sg_b {a b c : List Pf} (h : Th a b c) {W : World} {A : Option Addr} {cap : Nat} (hS : SlE ePf W A b.length cap b) : Sg a b c (fun _ y _ => y) W A b.length cap b := ⟨hS, by have := h.lb; omega, h.rb, fun _ _ => rfl⟩
theorem sg_c {a b c : List Pf} (h : Th a b c) {W : World} {A : Option Addr} {cap : Nat} (hS : SlE ePf W A c.length cap c) : Sg a b c (fun _ _ z => z) W A c.length cap c := ⟨hS, by have := h.lc; omega, h.rc, fun _ _ => rfl⟩
theorem sg_size {a b c : List Pf} {F G : B3} {W W' : World} {A A' : Option Addr} {n n' cap cap' : Nat} {u v : List Pf} (h : Th a b c) (hu : Sg a b c F W A n cap u) (hv : Sg a b c G W' A' n' cap' v) (h1 : ∀ x y z, F x y z = (x || y)) (h2 : ∀ x y z, G x y z = (x && y)) : sizeN u + sizeN v = sizeN a + sizeN b :=
  sizes_add h.ra h.rb hu.rt hv.rt (fun m hm => by rw [hu.is m hm, h1]) (fun m hm => by rw [hv.is m hm, h2])

set_option maxHeartbeats 16000000 in
theorem setsAreAlgebra_walk (a0 : Option Addr) (len cap : Nat) (w : World) (hT : Tz w) (hY : Rdy w) (hs0 : Str (w.alloc (.cells #[.slice a0 len cap, .int .i64 0] 25)) w.heap.size 1000) :
    Calls Tryz.prog 3 #[.slice a0 len cap] w fun e w' => e = .returned (.bool true) ∧ Below w.heap.size w w' := by
  have hT1 : Hid (∀ W, Below w.heap.size w W → Tz W) := Lib.hid fun W h => hT.below h
  have HRY := Lib.hid (fun W (h : Below w.heap.size w W) => ready_any W (Rdy.below hY h))
  clear hT hY
  go_enter Tryz.func3, Tryz.ntmps3
  go_wp2_with fail
  obtain ⟨w0, hw0⟩ : ∃ w0, w0 = w.alloc (.cells #[.slice a0 len cap, .int .i64 0] 25) := ⟨_, rfl⟩
  have hz0 : w0.heap.size = w.heap.size + 1 := by rw [hw0]; simp
  have hB0 := Lib.hid (show Below w.heap.size w w0 by rw [hw0]; exact (Below.refl _ _).alloc (Nat.le_refl _) _)
  rw [← hw0] at hs0 ⊢
  clear hw0
  obtain ⟨bs, hb⟩ : ∃ b, b = w.heap.size := ⟨_, rfl⟩
  rw [← hb] at hz0 hs0 ⊢
  replace hb := Lib.hid hb
  refine (rightSetG_any w0 bs 970 (hs0.le (by omega))).mono ?_
  rintro e w1 ⟨a, vx, ⟨hx1, hx2, hx3, hx4⟩, rfl, hox, hs1, hg⟩
  have hX := Lib.hid (show RtS a ∧ a.length ≤ 5 from ⟨⟨hx3, hx2, hx4⟩, hx1⟩)
  clear hx1 hx2 hx3 hx4 hs0
  replace hox := hox.mono (show bs + 1 ≤ w0.heap.size by omega)
  have nx : vx.ownBlock ≠ some bs := fun e => by have := hox.lt bs e; omega
  go_wp2_with fail
  refine (rightSetG_any w1 bs 940 (hs1.le (by omega))).mono ?_
  rintro e w2 ⟨b, vy, ⟨hx1, hx2, hx3, hx4⟩, rfl, hoy, hs2, hg2⟩
  have hY := Lib.hid (show RtS b ∧ b.length ≤ 5 from ⟨⟨hx3, hx2, hx4⟩, hx1⟩)
  have hgs := hg.size
  replace hox := hox.gb hg2 (.inr nx)
  replace hg := gb_trans hg hg2
  replace hoy := hoy.mono (show bs + 1 ≤ w1.heap.size by omega)
  have ny : vy.ownBlock ≠ some bs := fun e => by have := hoy.lt bs e; omega
  clear hs1 hg2 hx1 hx2 hx3 hx4 hgs
  go_wp2_with fail
  refine (rightSetG_any w2 bs 910 (hs2.le (by omega))).mono ?_
  rintro e w3 ⟨c, vz, ⟨hx1, hx2, hx3, hx4⟩, rfl, hoz, hs3, hg3⟩
  have hTh := Lib.hid (show Th a b c from ⟨hX.out.1, hY.out.1, ⟨hx3, hx2, hx4⟩, hX.out.2, hY.out.2, hx1⟩)
  replace hox := hox.gb hg3 (.inr nx)
  replace hoy := hoy.gb hg3 (.inr ny)
  replace hg := gb_trans hg hg3
  have hB := Lib.hid (show Below w.heap.size w w3 from hB0.out.trans (gb_toBelow hg (Nat.le_of_eq hb.out.symm) (by omega)))
  clear hs2 hs3 hg3 hg nx ny hB0 hX hY hx1 hx2 hx3 hx4 hz0 hb
  obtain ⟨Aa, ca, rfl, hSa⟩ := hox.sl
  obtain ⟨Ab, cb, rfl, hSb⟩ := hoy.sl
  obtain ⟨Ac, cc, rfl, hSc⟩ := hoz.sl
  clear hox hoy hoz
  obtain ⟨na, hna⟩ : ∃ n, n = a.length := ⟨_, rfl⟩
  obtain ⟨nb, hnb⟩ : ∃ n, n = b.length := ⟨_, rfl⟩
  obtain ⟨nc, hnc⟩ : ∃ n, n = c.length := ⟨_, rfl⟩
  rw [← hna, ← hnb, ← hnc]
  have GA := Lib.hid (show Sg a b c (fun x _ _ => x) w3 Aa na ca a by rw [hna]; exact sg_a hTh.out hSa)
  have GB := Lib.hid (show Sg a b c (fun _ y _ => y) w3 Ab nb cb b by rw [hnb]; exact sg_b hTh.out hSb)
  have GC := Lib.hid (show Sg a b c (fun _ _ z => z) w3 Ac nc cc c by rw [hnc]; exact sg_c hTh.out hSc)
  clear hSa hSb hSc hna hnb hnc
  have F1 := Blk.new w3 [.int .i64 0] 28
  have b4 : Below w3.heap.size w3 (w3.alloc (.cells [Value.int .i64 0].toArray 28)) := (Below.refl _ _).alloc (Nat.le_refl _) _
  have F2 := Blk.new (w3.alloc (.cells [Value.int .i64 0].toArray 28)) [doV w3.heap.size] 31
  rw [World.size_alloc] at F2
  replace F1 := F1.alloc (.cells [doV w3.heap.size].toArray 31)
  have b5 := b4.alloc b4.size (.cells [doV w3.heap.size].toArray 31)
  replace b5 := Lib.hid b5
  clear b4
  go_upto_region 6 with fail
  have hge := Lib.hid hB.out.size
  have hB5 := Lib.hid (hB.out.trans (b5.out.mono hB.out.size))
  replace GA := Lib.hid (GA.out.below b5.out)
  replace GB := Lib.hid (GB.out.below b5.out)
  replace GC := Lib.hid (GC.out.below b5.out)
  clear b5 hB
  obtain ⟨pf, hpf⟩ : ∃ p, p = w3.heap.size := ⟨_, rfl⟩
  rw [← hpf] at F1 F2 GA GB GC hB5 hge ⊢
  obtain ⟨pq, hpq⟩ : ∃ p, p = pf + 1 := ⟨_, rfl⟩
  rw [← hpq] at F2
  try rw [← hpq]
  clear hpq hpf
  generalize (w3.alloc (.cells [Value.int .i64 0].toArray 28)).alloc (.cells [doV pf].toArray 31) = w4 at *
  have hpq4 := F2.lt
  have HA := Lib.hid (fun W (hW : Below w4.heap.size w4 W) => GA.out.below hW)
  have HB := Lib.hid (fun W (hW : Below w4.heap.size w4 W) => GB.out.below hW)
  have HC := Lib.hid (fun W (hW : Below w4.heap.size w4 W) => GC.out.below hW)
  have HF := Lib.hid (fun W (hW : Below w4.heap.size w4 W) => F1.below hW)
  have HQ := Lib.hid (fun W (hW : Below w4.heap.size w4 W) => F2.below hW)
  have HT := Lib.hid (fun W (hW : Below w4.heap.size w4 W) => hT1.out W (hB5.out.trans (hW.mono hB5.out.size)))
  clear GA GB GC F1 F2 hT1
  have hbw := Below.refl w4.heap.size w4
  have kq := (HQ.out _ hbw).cell (i := 0) rfl
  go_wp2_with fail
  refine (do_two op_union Aa Ab na ca nb cb a b pf _ (HA.out _ hbw) (HB.out _ hbw) (HT.out _ hbw) (bd_pos hTh.out (by decide))).mono ?_
  rintro e w5 ⟨A5, n5, c5, p5, rfl, h5, hv⟩
  replace hbw := hbw.trans (hv.mono hbw.size)
  clear hv kq
  by_cases hlim : Bd a b c (fun x y z => !(x || y))
  case neg =>
    have H := Lib.hid (rest_too A5 n5 c5 p5 pf pq _ w5 h5 (HQ.out _ hbw) (HF.out _ hbw) (HT.out _ hbw) hlim)
    clear hlim h5
    go_wp2_with fail
    refine H.out.mono ?_
    rintro e w6 ⟨rfl, hF, hv⟩
    have k2 := hF.cell (i := 0) rfl
    have hB6 := (hB5.out.trans (hbw.mono hB5.out.size)).trans (hv.mono hge.out)
    clear H hv
    go_wp2_with fail
    refine (HRY.out _ hB6).mono ?_
    rintro e w7 ⟨rfl, hv⟩
    have hB7 := hB6.trans (hv.mono hB6.size)
    clear hv
    go_wp2_with fail
    go_ret
    exact ⟨rfl, hB7⟩
  case pos =>
  replace hlim := Lib.hid hlim
  have H := Lib.hid (rest_of A5 n5 c5 p5 pf pq _ w5 h5 (HQ.out _ hbw) (HT.out _ hbw) hlim.out)
  clear h5
  go_wp2_with fail
  refine H.out.mono ?_
  rintro e w6 ⟨A6, n6, c6, p6, rfl, _, hv⟩
  replace hbw := hbw.trans (hv.mono hbw.size)
  have kf := (HF.out _ hbw).cell (i := 0) rfl
  clear hv H
  go_upto_region 11 with fail
  clear kf
  go_cut [106] (fun v wx => v = .bool false ∧ Below w4.heap.size w4 wx)
  case first => as_aux_lemma =>
    refine wb_begin ([pq]) [] (by kernel_rfl) (fun u0 hb0' hz0' => ?_)
    replace hbw := hbw.trans (hb0'.mono hbw.size)
    clear hb0' hz0'
    refine wb_pureZ 0 (some 40) (v := ?_) ?_ ?_; rotate_left; · (intro u; go_simp; try with_reducible rfl)
    try simp only [Act.put, gzD, gzE, gzF]
    refine wb_takeZ 1 (some 41) (v := ?_) ?_ ?_; rotate_left; · (intro u hu; have kc := ((HQ.out _ hbw).kb hu (List.mem_singleton.2 rfl)).cell (i := 0) rfl; go_simp; try with_reducible rfl)
    try simp only [Act.put, gzD, gzE, gzF]
    refine wb_pureZ 2 (some 42) (v := ?_) ?_ ?_; rotate_left; · (intro u; go_simp; try with_reducible rfl)
    try simp only [Act.put, gzD, gzE, gzF]
    refine wb_pureZ 3 (some 43) (v := ?_) ?_ ?_; rotate_left; · (intro u; go_simp; try with_reducible rfl)
    try simp only [Act.put, gzD, gzE, gzF]
    refine wb_pureZ 4 (some 44) (v := ?_) ?_ ?_; rotate_left; · (intro u; go_simp; try with_reducible rfl)
    try simp only [Act.put, gzD, gzE, gzF]
    refine wb_takeZ 6 (some 46) (v := ?_) ?_ ?_; rotate_left; · (intro u hu; have kc := ((HQ.out _ hbw).kb hu (List.mem_singleton.2 rfl)).cell (i := 0) rfl; go_simp; try with_reducible rfl)
    try simp only [Act.put, gzD, gzE, gzF]
    refine wb_pureZ 7 (some 47) (v := ?_) ?_ ?_; rotate_left; · (intro u; go_simp; try with_reducible rfl)
    try simp only [Act.put, gzD, gzE, gzF]
    refine wb_pureZ 8 (some 48) (v := ?_) ?_ ?_; rotate_left; · (intro u; go_simp; try with_reducible rfl)
    try simp only [Act.put, gzD, gzE, gzF]
    refine wb_pureZ 9 (some 49) (v := ?_) ?_ ?_; rotate_left; · (intro u; go_simp; try with_reducible rfl)
    try simp only [Act.put, gzD, gzE, gzF]
    refine wb_oneZ 5 (fun K hK => ?_)
    go_simp
    refine (do_two op_union Aa Ab na ca nb cb a b pf _ (HA.out _ hbw) (HB.out _ hbw) (HT.out _ hbw) (bd_pos hTh.out (by decide))).mono ?_
    rintro e u5 ⟨A5, n5, c5, p5, rfl, h5, hv⟩
    refine hK _ _ (Kb.below hv (by intro p hp; rw [List.mem_singleton.1 hp]; have := hbw.size; omega)) ?_
    replace hbw := hbw.trans (hv.mono hbw.size)
    clear hK K hv
    try simp only [Act.put, gzD, gzE, gzF]
    refine wb_oneZ 10 (fun K hK => ?_)
    go_simp
    refine (do_two op_union Ab Aa nb cb na ca b a pf _ (HB.out _ hbw) (HA.out _ hbw) (HT.out _ hbw) (bd_pos hTh.out (by decide))).mono ?_
    rintro e u10 ⟨A10, n10, c10, p10, rfl, h10, hv⟩
    refine hK _ _ (Kb.below hv (by intro p hp; rw [List.mem_singleton.1 hp]; have := hbw.size; omega)) ?_
    replace h5 := h5.below hv
    replace hbw := hbw.trans (hv.mono hbw.size)
    clear hK K hv
    try simp only [Act.put, gzD, gzE, gzF]
    refine wb_oneZ 11 (fun K hK => ?_)
    go_simp
    refine (equal_sg A5 A10 n5 c5 n10 c10 p5 p10 _ h5 h10 (by intro x y z; cases x <;> cases y <;> cases z <;> rfl)).mono ?_
    rintro e uq ⟨rfl, hv⟩
    refine hK _ _ (Kb.below hv (by intro p hp; rw [List.mem_singleton.1 hp]; have := hbw.size; omega)) ?_
    replace hbw := hbw.trans (hv.mono hbw.size)
    clear hK K hv h5 h10
    try simp only [Act.put, gzD, gzE, gzF]
    refine wb_pureZ 12 (some 52) (v := ?_) ?_ ?_; rotate_left; · (intro u; go_simp; try with_reducible rfl)
    try simp only [Act.put, gzD, gzE, gzF]
    refine wb_pureZ 13 (some 53) (v := ?_) ?_ ?_; rotate_left; · (intro u; go_simp; try with_reducible rfl)
    try simp only [Act.put, gzD, gzE, gzF]
    refine wb_pureZ 14 (some 54) (v := ?_) ?_ ?_; rotate_left; · (intro u; go_simp; try with_reducible rfl)
    try simp only [Act.put, gzD, gzE, gzF]
    refine wb_takeZ 15 (some 55) (v := ?_) ?_ ?_; rotate_left; · (intro u hu; have kc := ((HQ.out _ hbw).kb hu (List.mem_singleton.2 rfl)).cell (i := 0) rfl; go_simp; try with_reducible rfl)
    try simp only [Act.put, gzD, gzE, gzF]
    refine wb_pureZ 16 (some 56) (v := ?_) ?_ ?_; rotate_left; · (intro u; go_simp; try with_reducible rfl)
    try simp only [Act.put, gzD, gzE, gzF]
    refine wb_pureZ 17 (some 57) (v := ?_) ?_ ?_; rotate_left; · (intro u; go_simp; try with_reducible rfl)
    try simp only [Act.put, gzD, gzE, gzF]
    refine wb_takeZ 18 (some 58) (v := ?_) ?_ ?_; rotate_left; · (intro u hu; have kc := ((HQ.out _ hbw).kb hu (List.mem_singleton.2 rfl)).cell (i := 0) rfl; go_simp; try with_reducible rfl)
    try simp only [Act.put, gzD, gzE, gzF]
    refine wb_pureZ 19 (some 59) (v := ?_) ?_ ?_; rotate_left; · (intro u; go_simp; try with_reducible rfl)
    try simp only [Act.put, gzD, gzE, gzF]
    refine wb_pureZ 20 (some 60) (v := ?_) ?_ ?_; rotate_left; · (intro u; go_simp; try with_reducible rfl)
    try simp only [Act.put, gzD, gzE, gzF]
    refine wb_pureZ 21 (some 61) (v := ?_) ?_ ?_; rotate_left; · (intro u; go_simp; try with_reducible rfl)
    try simp only [Act.put, gzD, gzE, gzF]
    refine wb_takeZ 24 (some 64) (v := ?_) ?_ ?_; rotate_left; · (intro u hu; have kc := ((HQ.out _ hbw).kb hu (List.mem_singleton.2 rfl)).cell (i := 0) rfl; go_simp; try with_reducible rfl)
    try simp only [Act.put, gzD, gzE, gzF]
    refine wb_pureZ 25 (some 65) (v := ?_) ?_ ?_; rotate_left; · (intro u; go_simp; try with_reducible rfl)
    try simp only [Act.put, gzD, gzE, gzF]
    refine wb_takeZ 26 (some 66) (v := ?_) ?_ ?_; rotate_left; · (intro u hu; have kc := ((HQ.out _ hbw).kb hu (List.mem_singleton.2 rfl)).cell (i := 0) rfl; go_simp; try with_reducible rfl)
    try simp only [Act.put, gzD, gzE, gzF]
    refine wb_pureZ 27 (some 67) (v := ?_) ?_ ?_; rotate_left; · (intro u; go_simp; try with_reducible rfl)
    try simp only [Act.put, gzD, gzE, gzF]
    refine wb_pureZ 28 (some 68) (v := ?_) ?_ ?_; rotate_left; · (intro u; go_simp; try with_reducible rfl)
    try simp only [Act.put, gzD, gzE, gzF]
    refine wb_pureZ 29 (some 69) (v := ?_) ?_ ?_; rotate_left; · (intro u; go_simp; try with_reducible rfl)
    try simp only [Act.put, gzD, gzE, gzF]
    refine wb_takeZ 31 (some 71) (v := ?_) ?_ ?_; rotate_left; · (intro u hu; have kc := ((HQ.out _ hbw).kb hu (List.mem_singleton.2 rfl)).cell (i := 0) rfl; go_simp; try with_reducible rfl)
    try simp only [Act.put, gzD, gzE, gzF]
    refine wb_pureZ 32 (some 72) (v := ?_) ?_ ?_; rotate_left; · (intro u; go_simp; try with_reducible rfl)
    try simp only [Act.put, gzD, gzE, gzF]
    refine wb_pureZ 33 (some 73) (v := ?_) ?_ ?_; rotate_left; · (intro u; go_simp; try with_reducible rfl)
    try simp only [Act.put, gzD, gzE, gzF]
    refine wb_pureZ 34 (some 74) (v := ?_) ?_ ?_; rotate_left; · (intro u; go_simp; try with_reducible rfl)
    try simp only [Act.put, gzD, gzE, gzF]
    refine wb_oneZ 22 (fun K hK => ?_)
    go_simp
    refine (do_two op_union Ab Ac nb cb nc cc b c pf _ (HB.out _ hbw) (HC.out _ hbw) (HT.out _ hbw) (bd_pos hTh.out (by decide))).mono ?_
    rintro e u22 ⟨A22, n22, c22, p22, rfl, h22, hv⟩
    refine hK _ _ (Kb.below hv (by intro p hp; rw [List.mem_singleton.1 hp]; have := hbw.size; omega)) ?_
    replace hbw := hbw.trans (hv.mono hbw.size)
    clear hK K hv
    try simp only [Act.put, gzD, gzE, gzF]
    refine wb_oneZ 23 (fun K hK => ?_)
    go_simp
    refine (do_two op_both Aa A22 na ca n22 c22 a p22 pf _ (HA.out _ hbw) h22 (HT.out _ hbw) (bd_pos hTh.out (by decide))).mono ?_
    rintro e u23 ⟨A23, n23, c23, p23, rfl, h23, hv⟩
    refine hK _ _ (Kb.below hv (by intro p hp; rw [List.mem_singleton.1 hp]; have := hbw.size; omega)) ?_
    replace hbw := hbw.trans (hv.mono hbw.size)
    clear hK K hv
    try simp only [Act.put, gzD, gzE, gzF]
    refine wb_oneZ 30 (fun K hK => ?_)
    go_simp
    refine (do_two op_both Aa Ab na ca nb cb a b pf _ (HA.out _ hbw) (HB.out _ hbw) (HT.out _ hbw) (bd_pos hTh.out (by decide))).mono ?_
    rintro e u30 ⟨A30, n30, c30, p30, rfl, h30, hv⟩
    refine hK _ _ (Kb.below hv (by intro p hp; rw [List.mem_singleton.1 hp]; have := hbw.size; omega)) ?_
    replace h23 := h23.below hv
    replace hbw := hbw.trans (hv.mono hbw.size)
    clear hK K hv
    try simp only [Act.put, gzD, gzE, gzF]
    refine wb_oneZ 35 (fun K hK => ?_)
    go_simp
    refine (do_two op_both Aa Ac na ca nc cc a c pf _ (HA.out _ hbw) (HC.out _ hbw) (HT.out _ hbw) (bd_pos hTh.out (by decide))).mono ?_
    rintro e u35 ⟨A35, n35, c35, p35, rfl, h35, hv⟩
    refine hK _ _ (Kb.below hv (by intro p hp; rw [List.mem_singleton.1 hp]; have := hbw.size; omega)) ?_
    replace h23 := h23.below hv
    replace h30 := h30.below hv
    replace hbw := hbw.trans (hv.mono hbw.size)
    clear hK K hv
    try simp only [Act.put, gzD, gzE, gzF]
    refine wb_oneZ 36 (fun K hK => ?_)
    go_simp
    refine (do_two op_union A30 A35 n30 c30 n35 c35 p30 p35 pf _ h30 h35 (HT.out _ hbw) (bd_pos hTh.out (by decide))).mono ?_
    rintro e u36 ⟨A36, n36, c36, p36, rfl, h36, hv⟩
    refine hK _ _ (Kb.below hv (by intro p hp; rw [List.mem_singleton.1 hp]; have := hbw.size; omega)) ?_
    replace h23 := h23.below hv
    replace hbw := hbw.trans (hv.mono hbw.size)
    clear hK K hv
    try simp only [Act.put, gzD, gzE, gzF]
    refine wb_oneZ 37 (fun K hK => ?_)
    go_simp
    refine (equal_sg A23 A36 n23 c23 n36 c36 p23 p36 _ h23 h36 (by intro x y z; cases x <;> cases y <;> cases z <;> rfl)).mono ?_
    rintro e uq ⟨rfl, hv⟩
    refine hK _ _ (Kb.below hv (by intro p hp; rw [List.mem_singleton.1 hp]; have := hbw.size; omega)) ?_
    replace hbw := hbw.trans (hv.mono hbw.size)
    clear hK K hv h22 h23 h30 h35 h36
    try simp only [Act.put, gzD, gzE, gzF]
    refine wb_pureZ 38 (some 78) (v := ?_) ?_ ?_; rotate_left; · (intro u; go_simp; try with_reducible rfl)
    try simp only [Act.put, gzD, gzE, gzF]
    refine wb_pureZ 39 (some 79) (v := ?_) ?_ ?_; rotate_left; · (intro u; go_simp; try with_reducible rfl)
    try simp only [Act.put, gzD, gzE, gzF]
    refine wb_pureZ 40 (some 80) (v := ?_) ?_ ?_; rotate_left; · (intro u; go_simp; try with_reducible rfl)
    try simp only [Act.put, gzD, gzE, gzF]
    refine wb_pureZ 41 (some 81) (v := ?_) ?_ ?_; rotate_left; · (intro u; go_simp; try with_reducible rfl)
    try simp only [Act.put, gzD, gzE, gzF]
    refine wb_takeZ 42 (some 82) (v := ?_) ?_ ?_; rotate_left; · (intro u hu; have kc := ((HQ.out _ hbw).kb hu (List.mem_singleton.2 rfl)).cell (i := 0) rfl; go_simp; try with_reducible rfl)
    try simp only [Act.put, gzD, gzE, gzF]
    refine wb_pureZ 43 (some 83) (v := ?_) ?_ ?_; rotate_left; · (intro u; go_simp; try with_reducible rfl)
    try simp only [Act.put, gzD, gzE, gzF]
    refine wb_pureZ 44 (some 84) (v := ?_) ?_ ?_; rotate_left; · (intro u; go_simp; try with_reducible rfl)
    try simp only [Act.put, gzD, gzE, gzF]
    refine wb_takeZ 45 (some 85) (v := ?_) ?_ ?_; rotate_left; · (intro u hu; have kc := ((HQ.out _ hbw).kb hu (List.mem_singleton.2 rfl)).cell (i := 0) rfl; go_simp; try with_reducible rfl)
    try simp only [Act.put, gzD, gzE, gzF]
    refine wb_pureZ 46 (some 86) (v := ?_) ?_ ?_; rotate_left; · (intro u; go_simp; try with_reducible rfl)
    try simp only [Act.put, gzD, gzE, gzF]
    refine wb_pureZ 47 (some 87) (v := ?_) ?_ ?_; rotate_left; · (intro u; go_simp; try with_reducible rfl)
    try simp only [Act.put, gzD, gzE, gzF]
    refine wb_pureZ 48 (some 88) (v := ?_) ?_ ?_; rotate_left; · (intro u; go_simp; try with_reducible rfl)
    try simp only [Act.put, gzD, gzE, gzF]
    refine wb_takeZ 51 (some 91) (v := ?_) ?_ ?_; rotate_left; · (intro u hu; have kc := ((HQ.out _ hbw).kb hu (List.mem_singleton.2 rfl)).cell (i := 0) rfl; go_simp; try with_reducible rfl)
    try simp only [Act.put, gzD, gzE, gzF]
    refine wb_pureZ 52 (some 92) (v := ?_) ?_ ?_; rotate_left; · (intro u; go_simp; try with_reducible rfl)
    try simp only [Act.put, gzD, gzE, gzF]
    refine wb_takeZ 53 (some 93) (v := ?_) ?_ ?_; rotate_left; · (intro u hu; have kc := ((HQ.out _ hbw).kb hu (List.mem_singleton.2 rfl)).cell (i := 0) rfl; go_simp; try with_reducible rfl)
    try simp only [Act.put, gzD, gzE, gzF]
    refine wb_pureZ 54 (some 94) (v := ?_) ?_ ?_; rotate_left; · (intro u; go_simp; try with_reducible rfl)
    try simp only [Act.put, gzD, gzE, gzF]
    refine wb_pureZ 55 (some 95) (v := ?_) ?_ ?_; rotate_left; · (intro u; go_simp; try with_reducible rfl)
    try simp only [Act.put, gzD, gzE, gzF]
    refine wb_pureZ 56 (some 96) (v := ?_) ?_ ?_; rotate_left; · (intro u; go_simp; try with_reducible rfl)
    try simp only [Act.put, gzD, gzE, gzF]
    refine wb_takeZ 58 (some 98) (v := ?_) ?_ ?_; rotate_left; · (intro u hu; have kc := ((HQ.out _ hbw).kb hu (List.mem_singleton.2 rfl)).cell (i := 0) rfl; go_simp; try with_reducible rfl)
    try simp only [Act.put, gzD, gzE, gzF]
    refine wb_pureZ 59 (some 99) (v := ?_) ?_ ?_; rotate_left; · (intro u; go_simp; try with_reducible rfl)
    try simp only [Act.put, gzD, gzE, gzF]
    refine wb_pureZ 60 (some 100) (v := ?_) ?_ ?_; rotate_left; · (intro u; go_simp; try with_reducible rfl)
    try simp only [Act.put, gzD, gzE, gzF]
    refine wb_pureZ 61 (some 101) (v := ?_) ?_ ?_; rotate_left; · (intro u; go_simp; try with_reducible rfl)
    try simp only [Act.put, gzD, gzE, gzF]
    refine wb_oneZ 49 (fun K hK => ?_)
    go_simp
    refine (do_two op_both Ab Ac nb cb nc cc b c pf _ (HB.out _ hbw) (HC.out _ hbw) (HT.out _ hbw) (bd_pos hTh.out (by decide))).mono ?_
    rintro e u49 ⟨A49, n49, c49, p49, rfl, h49, hv⟩
    refine hK _ _ (Kb.below hv (by intro p hp; rw [List.mem_singleton.1 hp]; have := hbw.size; omega)) ?_
    replace hbw := hbw.trans (hv.mono hbw.size)
    clear hK K hv
    try simp only [Act.put, gzD, gzE, gzF]
    refine wb_oneZ 50 (fun K hK => ?_)
    go_simp
    refine (do_two op_union Aa A49 na ca n49 c49 a p49 pf _ (HA.out _ hbw) h49 (HT.out _ hbw) (bd_pos hTh.out (by decide))).mono ?_
    rintro e u50 ⟨A50, n50, c50, p50, rfl, h50, hv⟩
    refine hK _ _ (Kb.below hv (by intro p hp; rw [List.mem_singleton.1 hp]; have := hbw.size; omega)) ?_
    replace hbw := hbw.trans (hv.mono hbw.size)
    clear hK K hv
    try simp only [Act.put, gzD, gzE, gzF]
    refine wb_oneZ 57 (fun K hK => ?_)
    go_simp
    refine (do_two op_union Aa Ab na ca nb cb a b pf _ (HA.out _ hbw) (HB.out _ hbw) (HT.out _ hbw) (bd_pos hTh.out (by decide))).mono ?_
    rintro e u57 ⟨A57, n57, c57, p57, rfl, h57, hv⟩
    refine hK _ _ (Kb.below hv (by intro p hp; rw [List.mem_singleton.1 hp]; have := hbw.size; omega)) ?_
    replace h50 := h50.below hv
    replace hbw := hbw.trans (hv.mono hbw.size)
    clear hK K hv
    try simp only [Act.put, gzD, gzE, gzF]
    refine wb_oneZ 62 (fun K hK => ?_)
    go_simp
    refine (do_two op_union Aa Ac na ca nc cc a c pf _ (HA.out _ hbw) (HC.out _ hbw) (HT.out _ hbw) (bd_pos hTh.out (by decide))).mono ?_
    rintro e u62 ⟨A62, n62, c62, p62, rfl, h62, hv⟩
    refine hK _ _ (Kb.below hv (by intro p hp; rw [List.mem_singleton.1 hp]; have := hbw.size; omega)) ?_
    replace h50 := h50.below hv
    replace h57 := h57.below hv
    replace hbw := hbw.trans (hv.mono hbw.size)
    clear hK K hv
    try simp only [Act.put, gzD, gzE, gzF]
    refine wb_oneZ 63 (fun K hK => ?_)
    go_simp
    refine (do_two op_both A57 A62 n57 c57 n62 c62 p57 p62 pf _ h57 h62 (HT.out _ hbw) (bd_pos hTh.out (by decide))).mono ?_
    rintro e u63 ⟨A63, n63, c63, p63, rfl, h63, hv⟩
    refine hK _ _ (Kb.below hv (by intro p hp; rw [List.mem_singleton.1 hp]; have := hbw.size; omega)) ?_
    replace h50 := h50.below hv
    replace hbw := hbw.trans (hv.mono hbw.size)
    clear hK K hv
    try simp only [Act.put, gzD, gzE, gzF]
    refine wb_oneZ 64 (fun K hK => ?_)
    go_simp
    refine (equal_sg A50 A63 n50 c50 n63 c63 p50 p63 _ h50 h63 (by intro x y z; cases x <;> cases y <;> cases z <;> rfl)).mono ?_
    rintro e uq ⟨rfl, hv⟩
    refine hK _ _ (Kb.below hv (by intro p hp; rw [List.mem_singleton.1 hp]; have := hbw.size; omega)) ?_
    replace hbw := hbw.trans (hv.mono hbw.size)
    clear hK K hv h49 h50 h57 h62 h63
    try simp only [Act.put, gzD, gzE, gzF]
    refine wb_pureZ 65 (some 105) (v := ?_) ?_ ?_; rotate_left; · (intro u; go_simp; try with_reducible rfl)
    try simp only [Act.put, gzD, gzE, gzF]
    refine wb_pureZ 66 (some 106) (v := ?_) ?_ ?_; rotate_left; · (intro u; go_simp; try with_reducible rfl)
    try simp only [Act.put, gzD, gzE, gzF]
    refine wb_done (by kernel_rfl) ?_ _
    go_wp2_with fail
    go_meet
    exact ⟨rfl, hbw⟩
  case rest =>
  clear hbw
  obtain ⟨rfl, hbw⟩ := hcut
  go_upto_region 13 with fail
  go_cut [164] (fun v wx => v = .bool false ∧ Below w4.heap.size w4 wx)
  case first => as_aux_lemma =>
    refine wb_begin ([pq]) [] (by kernel_rfl) (fun u0 hb0' hz0' => ?_)
    replace hbw := hbw.trans (hb0'.mono hbw.size)
    clear hb0' hz0'
    refine wb_pureZ 0 (some 107) (v := ?_) ?_ ?_; rotate_left; · (intro u; go_simp; try with_reducible rfl)
    try simp only [Act.put, gzD, gzE, gzF]
    refine wb_pureZ 1 (some 108) (v := ?_) ?_ ?_; rotate_left; · (intro u; go_simp; try with_reducible rfl)
    try simp only [Act.put, gzD, gzE, gzF]
    refine wb_pureZ 2 (some 109) (v := ?_) ?_ ?_; rotate_left; · (intro u; go_simp; try with_reducible rfl)
    try simp only [Act.put, gzD, gzE, gzF]
    refine wb_pureZ 3 (some 110) (v := ?_) ?_ ?_; rotate_left; · (intro u; go_simp; try with_reducible rfl)
    try simp only [Act.put, gzD, gzE, gzF]
    refine wb_pureZ 6 (some 113) (v := ?_) ?_ ?_; rotate_left; · (intro u; go_simp; try with_reducible rfl)
    try simp only [Act.put, gzD, gzE, gzF]
    refine wb_oneZ 4 (fun K hK => ?_)
    go_simp
    refine (rest_of Aa na ca a pf pq _ _ (HA.out _ hbw) (HQ.out _ hbw) (HT.out _ hbw) (bd_nega hTh.out (by decide))).mono ?_
    rintro e u4 ⟨A4, n4, c4, p4, rfl, h4, hv⟩
    refine hK _ _ (Kb.below hv (by intro p hp; rw [List.mem_singleton.1 hp]; have := hbw.size; omega)) ?_
    replace hbw := hbw.trans (hv.mono hbw.size)
    clear hK K hv
    try simp only [Act.put, gzD, gzE, gzF]
    refine wb_oneZ 5 (fun K hK => ?_)
    go_simp
    refine (rest_of A4 n4 c4 p4 pf pq _ _ h4 (HQ.out _ hbw) (HT.out _ hbw) (bd_pos hTh.out (by decide))).mono ?_
    rintro e u5 ⟨A5, n5, c5, p5, rfl, h5, hv⟩
    refine hK _ _ (Kb.below hv (by intro p hp; rw [List.mem_singleton.1 hp]; have := hbw.size; omega)) ?_
    replace hbw := hbw.trans (hv.mono hbw.size)
    clear hK K hv
    try simp only [Act.put, gzD, gzE, gzF]
    refine wb_oneZ 7 (fun K hK => ?_)
    go_simp
    refine (equal_sg A5 Aa n5 c5 na ca p5 a _ h5 (HA.out _ hbw) (by intro x y z; cases x <;> cases y <;> cases z <;> rfl)).mono ?_
    rintro e uq ⟨rfl, hv⟩
    refine hK _ _ (Kb.below hv (by intro p hp; rw [List.mem_singleton.1 hp]; have := hbw.size; omega)) ?_
    replace hbw := hbw.trans (hv.mono hbw.size)
    clear hK K hv h4 h5
    try simp only [Act.put, gzD, gzE, gzF]
    refine wb_pureZ 8 (some 115) (v := ?_) ?_ ?_; rotate_left; · (intro u; go_simp; try with_reducible rfl)
    try simp only [Act.put, gzD, gzE, gzF]
    refine wb_pureZ 9 (some 116) (v := ?_) ?_ ?_; rotate_left; · (intro u; go_simp; try with_reducible rfl)
    try simp only [Act.put, gzD, gzE, gzF]
    refine wb_pureZ 10 (some 117) (v := ?_) ?_ ?_; rotate_left; · (intro u; go_simp; try with_reducible rfl)
    try simp only [Act.put, gzD, gzE, gzF]
    refine wb_pureZ 11 (some 118) (v := ?_) ?_ ?_; rotate_left; · (intro u; go_simp; try with_reducible rfl)
    try simp only [Act.put, gzD, gzE, gzF]
    refine wb_takeZ 12 (some 119) (v := ?_) ?_ ?_; rotate_left; · (intro u hu; have kc := ((HQ.out _ hbw).kb hu (List.mem_singleton.2 rfl)).cell (i := 0) rfl; go_simp; try with_reducible rfl)
    try simp only [Act.put, gzD, gzE, gzF]
    refine wb_pureZ 13 (some 120) (v := ?_) ?_ ?_; rotate_left; · (intro u; go_simp; try with_reducible rfl)
    try simp only [Act.put, gzD, gzE, gzF]
    refine wb_pureZ 14 (some 121) (v := ?_) ?_ ?_; rotate_left; · (intro u; go_simp; try with_reducible rfl)
    try simp only [Act.put, gzD, gzE, gzF]
    refine wb_pureZ 15 (some 122) (v := ?_) ?_ ?_; rotate_left; · (intro u; go_simp; try with_reducible rfl)
    try simp only [Act.put, gzD, gzE, gzF]
    refine wb_takeZ 18 (some 125) (v := ?_) ?_ ?_; rotate_left; · (intro u hu; have kc := ((HQ.out _ hbw).kb hu (List.mem_singleton.2 rfl)).cell (i := 0) rfl; go_simp; try with_reducible rfl)
    try simp only [Act.put, gzD, gzE, gzF]
    refine wb_pureZ 19 (some 126) (v := ?_) ?_ ?_; rotate_left; · (intro u; go_simp; try with_reducible rfl)
    try simp only [Act.put, gzD, gzE, gzF]
    refine wb_pureZ 20 (some 127) (v := ?_) ?_ ?_; rotate_left; · (intro u; go_simp; try with_reducible rfl)
    try simp only [Act.put, gzD, gzE, gzF]
    refine wb_pureZ 21 (some 128) (v := ?_) ?_ ?_; rotate_left; · (intro u; go_simp; try with_reducible rfl)
    try simp only [Act.put, gzD, gzE, gzF]
    refine wb_pureZ 23 (some 130) (v := ?_) ?_ ?_; rotate_left; · (intro u; go_simp; try with_reducible rfl)
    try simp only [Act.put, gzD, gzE, gzF]
    refine wb_pureZ 24 (some 131) (v := ?_) ?_ ?_; rotate_left; · (intro u; go_simp; try with_reducible rfl)
    try simp only [Act.put, gzD, gzE, gzF]
    refine wb_oneZ 16 (fun K hK => ?_)
    go_simp
    refine (do_two op_union Aa Ab na ca nb cb a b pf _ (HA.out _ hbw) (HB.out _ hbw) (HT.out _ hbw) (bd_pos hTh.out (by decide))).mono ?_
    rintro e u16 ⟨A16, n16, c16, p16, rfl, h16, hv⟩
    refine hK _ _ (Kb.below hv (by intro p hp; rw [List.mem_singleton.1 hp]; have := hbw.size; omega)) ?_
    replace hbw := hbw.trans (hv.mono hbw.size)
    clear hK K hv
    try simp only [Act.put, gzD, gzE, gzF]
    refine wb_oneZ 17 (fun K hK => ?_)
    go_simp
    refine (rest_of A16 n16 c16 p16 pf pq _ _ h16 (HQ.out _ hbw) (HT.out _ hbw) hlim.out).mono ?_
    rintro e u17 ⟨A17, n17, c17, p17, rfl, h17, hv⟩
    refine hK _ _ (Kb.below hv (by intro p hp; rw [List.mem_singleton.1 hp]; have := hbw.size; omega)) ?_
    replace hbw := hbw.trans (hv.mono hbw.size)
    clear hK K hv
    try simp only [Act.put, gzD, gzE, gzF]
    refine wb_oneZ 22 (fun K hK => ?_)
    go_simp
    refine (rest_of Aa na ca a pf pq _ _ (HA.out _ hbw) (HQ.out _ hbw) (HT.out _ hbw) (bd_nega hTh.out (by decide))).mono ?_
    rintro e u22 ⟨A22, n22, c22, p22, rfl, h22, hv⟩
    refine hK _ _ (Kb.below hv (by intro p hp; rw [List.mem_singleton.1 hp]; have := hbw.size; omega)) ?_
    replace h17 := h17.below hv
    replace hbw := hbw.trans (hv.mono hbw.size)
    clear hK K hv
    try simp only [Act.put, gzD, gzE, gzF]
    refine wb_oneZ 25 (fun K hK => ?_)
    go_simp
    refine (rest_of Ab nb cb b pf pq _ _ (HB.out _ hbw) (HQ.out _ hbw) (HT.out _ hbw) (bd_negb hTh.out (by decide))).mono ?_
    rintro e u25 ⟨A25, n25, c25, p25, rfl, h25, hv⟩
    refine hK _ _ (Kb.below hv (by intro p hp; rw [List.mem_singleton.1 hp]; have := hbw.size; omega)) ?_
    replace h17 := h17.below hv
    replace h22 := h22.below hv
    replace hbw := hbw.trans (hv.mono hbw.size)
    clear hK K hv
    try simp only [Act.put, gzD, gzE, gzF]
    refine wb_oneZ 26 (fun K hK => ?_)
    go_simp
    refine (do_two op_both A22 A25 n22 c22 n25 c25 p22 p25 pf _ h22 h25 (HT.out _ hbw) (bd_eq hlim.out (by intro x y z; cases x <;> cases y <;> cases z <;> rfl))).mono ?_
    rintro e u26 ⟨A26, n26, c26, p26, rfl, h26, hv⟩
    refine hK _ _ (Kb.below hv (by intro p hp; rw [List.mem_singleton.1 hp]; have := hbw.size; omega)) ?_
    replace h17 := h17.below hv
    replace hbw := hbw.trans (hv.mono hbw.size)
    clear hK K hv
    try simp only [Act.put, gzD, gzE, gzF]
    refine wb_oneZ 27 (fun K hK => ?_)
    go_simp
    refine (equal_sg A17 A26 n17 c17 n26 c26 p17 p26 _ h17 h26 (by intro x y z; cases x <;> cases y <;> cases z <;> rfl)).mono ?_
    rintro e uq ⟨rfl, hv⟩
    refine hK _ _ (Kb.below hv (by intro p hp; rw [List.mem_singleton.1 hp]; have := hbw.size; omega)) ?_
    replace hbw := hbw.trans (hv.mono hbw.size)
    clear hK K hv h16 h17 h22 h25 h26
    try simp only [Act.put, gzD, gzE, gzF]
    refine wb_pureZ 28 (some 135) (v := ?_) ?_ ?_; rotate_left; · (intro u; go_simp; try with_reducible rfl)
    try simp only [Act.put, gzD, gzE, gzF]
    refine wb_pureZ 29 (some 136) (v := ?_) ?_ ?_; rotate_left; · (intro u; go_simp; try with_reducible rfl)
    try simp only [Act.put, gzD, gzE, gzF]
    refine wb_pureZ 30 (some 137) (v := ?_) ?_ ?_; rotate_left; · (intro u; go_simp; try with_reducible rfl)
    try simp only [Act.put, gzD, gzE, gzF]
    refine wb_pureZ 31 (some 138) (v := ?_) ?_ ?_; rotate_left; · (intro u; go_simp; try with_reducible rfl)
    try simp only [Act.put, gzD, gzE, gzF]
    refine wb_takeZ 32 (some 139) (v := ?_) ?_ ?_; rotate_left; · (intro u hu; have kc := ((HQ.out _ hbw).kb hu (List.mem_singleton.2 rfl)).cell (i := 0) rfl; go_simp; try with_reducible rfl)
    try simp only [Act.put, gzD, gzE, gzF]
    refine wb_pureZ 33 (some 140) (v := ?_) ?_ ?_; rotate_left; · (intro u; go_simp; try with_reducible rfl)
    try simp only [Act.put, gzD, gzE, gzF]
    refine wb_pureZ 34 (some 141) (v := ?_) ?_ ?_; rotate_left; · (intro u; go_simp; try with_reducible rfl)
    try simp only [Act.put, gzD, gzE, gzF]
    refine wb_pureZ 35 (some 142) (v := ?_) ?_ ?_; rotate_left; · (intro u; go_simp; try with_reducible rfl)
    try simp only [Act.put, gzD, gzE, gzF]
    refine wb_takeZ 37 (some 144) (v := ?_) ?_ ?_; rotate_left; · (intro u hu; have kc := ((HQ.out _ hbw).kb hu (List.mem_singleton.2 rfl)).cell (i := 0) rfl; go_simp; try with_reducible rfl)
    try simp only [Act.put, gzD, gzE, gzF]
    refine wb_pureZ 38 (some 145) (v := ?_) ?_ ?_; rotate_left; · (intro u; go_simp; try with_reducible rfl)
    try simp only [Act.put, gzD, gzE, gzF]
    refine wb_pureZ 39 (some 146) (v := ?_) ?_ ?_; rotate_left; · (intro u; go_simp; try with_reducible rfl)
    try simp only [Act.put, gzD, gzE, gzF]
    refine wb_pureZ 40 (some 147) (v := ?_) ?_ ?_; rotate_left; · (intro u; go_simp; try with_reducible rfl)
    try simp only [Act.put, gzD, gzE, gzF]
    refine wb_pureZ 41 (some 148) (v := ?_) ?_ ?_; rotate_left; · (intro u; go_simp; try with_reducible rfl)
    try simp only [Act.put, gzD, gzE, gzF]
    refine wb_oneZ 36 (fun K hK => ?_)
    go_simp
    refine (do_two op_without Aa Ab na ca nb cb a b pf _ (HA.out _ hbw) (HB.out _ hbw) (HT.out _ hbw) (bd_negb hTh.out (by decide))).mono ?_
    rintro e u36 ⟨A36, n36, c36, p36, rfl, h36, hv⟩
    refine hK _ _ (Kb.below hv (by intro p hp; rw [List.mem_singleton.1 hp]; have := hbw.size; omega)) ?_
    replace hbw := hbw.trans (hv.mono hbw.size)
    clear hK K hv
    try simp only [Act.put, gzD, gzE, gzF]
    refine wb_oneZ 42 (fun K hK => ?_)
    go_simp
    refine (rest_of Ab nb cb b pf pq _ _ (HB.out _ hbw) (HQ.out _ hbw) (HT.out _ hbw) (bd_negb hTh.out (by decide))).mono ?_
    rintro e u42 ⟨A42, n42, c42, p42, rfl, h42, hv⟩
    refine hK _ _ (Kb.below hv (by intro p hp; rw [List.mem_singleton.1 hp]; have := hbw.size; omega)) ?_
    replace h36 := h36.below hv
    replace hbw := hbw.trans (hv.mono hbw.size)
    clear hK K hv
    try simp only [Act.put, gzD, gzE, gzF]
    refine wb_oneZ 43 (fun K hK => ?_)
    go_simp
    refine (do_two op_both Aa A42 na ca n42 c42 a p42 pf _ (HA.out _ hbw) h42 (HT.out _ hbw) (bd_negb hTh.out (by decide))).mono ?_
    rintro e u43 ⟨A43, n43, c43, p43, rfl, h43, hv⟩
    refine hK _ _ (Kb.below hv (by intro p hp; rw [List.mem_singleton.1 hp]; have := hbw.size; omega)) ?_
    replace h36 := h36.below hv
    replace hbw := hbw.trans (hv.mono hbw.size)
    clear hK K hv
    try simp only [Act.put, gzD, gzE, gzF]
    refine wb_oneZ 44 (fun K hK => ?_)
    go_simp
    refine (equal_sg A36 A43 n36 c36 n43 c43 p36 p43 _ h36 h43 (by intro x y z; cases x <;> cases y <;> cases z <;> rfl)).mono ?_
    rintro e uq ⟨rfl, hv⟩
    refine hK _ _ (Kb.below hv (by intro p hp; rw [List.mem_singleton.1 hp]; have := hbw.size; omega)) ?_
    replace hbw := hbw.trans (hv.mono hbw.size)
    clear hK K hv h36 h42 h43
    try simp only [Act.put, gzD, gzE, gzF]
    refine wb_pureZ 45 (some 152) (v := ?_) ?_ ?_; rotate_left; · (intro u; go_simp; try with_reducible rfl)
    try simp only [Act.put, gzD, gzE, gzF]
    refine wb_pureZ 46 (some 153) (v := ?_) ?_ ?_; rotate_left; · (intro u; go_simp; try with_reducible rfl)
    try simp only [Act.put, gzD, gzE, gzF]
    refine wb_pureZ 47 (some 154) (v := ?_) ?_ ?_; rotate_left; · (intro u; go_simp; try with_reducible rfl)
    try simp only [Act.put, gzD, gzE, gzF]
    refine wb_takeZ 48 (some 155) (v := ?_) ?_ ?_; rotate_left; · (intro u hu; have kc := ((HQ.out _ hbw).kb hu (List.mem_singleton.2 rfl)).cell (i := 0) rfl; go_simp; try with_reducible rfl)
    try simp only [Act.put, gzD, gzE, gzF]
    refine wb_pureZ 49 (some 156) (v := ?_) ?_ ?_; rotate_left; · (intro u; go_simp; try with_reducible rfl)
    try simp only [Act.put, gzD, gzE, gzF]
    refine wb_pureZ 50 (some 157) (v := ?_) ?_ ?_; rotate_left; · (intro u; go_simp; try with_reducible rfl)
    try simp only [Act.put, gzD, gzE, gzF]
    refine wb_pureZ 51 (some 158) (v := ?_) ?_ ?_; rotate_left; · (intro u; go_simp; try with_reducible rfl)
    try simp only [Act.put, gzD, gzE, gzF]
    refine wb_pureZ 52 (some 159) (v := ?_) ?_ ?_; rotate_left; · (intro u; go_simp; try with_reducible rfl)
    try simp only [Act.put, gzD, gzE, gzF]
    refine wb_oneZ 53 (fun K hK => ?_)
    go_simp
    refine (rest_of Aa na ca a pf pq _ _ (HA.out _ hbw) (HQ.out _ hbw) (HT.out _ hbw) (bd_nega hTh.out (by decide))).mono ?_
    rintro e u53 ⟨A53, n53, c53, p53, rfl, h53, hv⟩
    refine hK _ _ (Kb.below hv (by intro p hp; rw [List.mem_singleton.1 hp]; have := hbw.size; omega)) ?_
    replace hbw := hbw.trans (hv.mono hbw.size)
    clear hK K hv
    try simp only [Act.put, gzD, gzE, gzF]
    refine wb_oneZ 54 (fun K hK => ?_)
    go_simp
    refine (do_two op_both Aa A53 na ca n53 c53 a p53 pf _ (HA.out _ hbw) h53 (HT.out _ hbw) (bd_pos hTh.out (by decide))).mono ?_
    rintro e u54 ⟨A54, n54, c54, p54, rfl, h54, hv⟩
    refine hK _ _ (Kb.below hv (by intro p hp; rw [List.mem_singleton.1 hp]; have := hbw.size; omega)) ?_
    replace hbw := hbw.trans (hv.mono hbw.size)
    clear hK K hv
    have hn0 : n54 = 0 := sg_none h54 (by intro x y z; cases x <;> cases y <;> cases z <;> rfl)
    subst hn0
    clear h53 h54
    try simp only [Act.put, gzD, gzE, gzF]
    refine wb_takeZ 55 (some 162) (v := ?_) ?_ ?_; rotate_left; · (intro u hu; have kc := ((HQ.out _ hbw).kb hu (List.mem_singleton.2 rfl)).cell (i := 0) rfl; go_simp; try with_reducible rfl)
    try simp only [Act.put, gzD, gzE, gzF]
    refine wb_pureZ 56 (some 163) (v := ?_) ?_ ?_; rotate_left; · (intro u; go_simp; try with_reducible rfl)
    try simp only [Act.put, gzD, gzE, gzF]
    refine wb_pureZ 57 (some 164) (v := ?_) ?_ ?_; rotate_left; · (intro u; go_simp; try with_reducible rfl)
    try simp only [Act.put, gzD, gzE, gzF]
    refine wb_done (by kernel_rfl) ?_ _
    go_wp2_with fail
    go_meet
    exact ⟨rfl, hbw⟩
  case rest =>
  clear hbw
  obtain ⟨rfl, hbw⟩ := hcut
  go_upto_region 15 with fail
  refine wb_begin ([pq]) [] (by kernel_rfl) (fun u0 hb0' hz0' => ?_)
  replace hbw := hbw.trans (hb0'.mono hbw.size)
  clear hb0' hz0'
  refine wb_takeZ 0 (some 165) (v := ?_) ?_ ?_; rotate_left; · (intro u hu; have kc := ((HQ.out _ hbw).kb hu (List.mem_singleton.2 rfl)).cell (i := 0) rfl; go_simp; try with_reducible rfl)
  try simp only [Act.put, gzD, gzE, gzF]
  refine wb_pureZ 1 (some 166) (v := ?_) ?_ ?_; rotate_left; · (intro u; go_simp; try with_reducible rfl)
  try simp only [Act.put, gzD, gzE, gzF]
  refine wb_pureZ 2 (some 167) (v := ?_) ?_ ?_; rotate_left; · (intro u; go_simp; try with_reducible rfl)
  try simp only [Act.put, gzD, gzE, gzF]
  refine wb_pureZ 3 (some 168) (v := ?_) ?_ ?_; rotate_left; · (intro u; go_simp; try with_reducible rfl)
  try simp only [Act.put, gzD, gzE, gzF]
  refine wb_takeZ 5 (some 170) (v := ?_) ?_ ?_; rotate_left; · (intro u hu; have kc := ((HQ.out _ hbw).kb hu (List.mem_singleton.2 rfl)).cell (i := 0) rfl; go_simp; try with_reducible rfl)
  try simp only [Act.put, gzD, gzE, gzF]
  refine wb_pureZ 6 (some 171) (v := ?_) ?_ ?_; rotate_left; · (intro u; go_simp; try with_reducible rfl)
  try simp only [Act.put, gzD, gzE, gzF]
  refine wb_pureZ 7 (some 172) (v := ?_) ?_ ?_; rotate_left; · (intro u; go_simp; try with_reducible rfl)
  try simp only [Act.put, gzD, gzE, gzF]
  refine wb_pureZ 8 (some 173) (v := ?_) ?_ ?_; rotate_left; · (intro u; go_simp; try with_reducible rfl)
  try simp only [Act.put, gzD, gzE, gzF]
  refine wb_oneZ 4 (fun K hK => ?_)
  go_simp
  refine (do_two op_union Aa Ab na ca nb cb a b pf _ (HA.out _ hbw) (HB.out _ hbw) (HT.out _ hbw) (bd_pos hTh.out (by decide))).mono ?_
  rintro e ux ⟨Ax, nx, cx, px, rfl, hx, hv⟩
  refine hK _ _ (Kb.below hv (by intro p hp; rw [List.mem_singleton.1 hp]; have := hbw.size; omega)) ?_
  replace hbw := hbw.trans (hv.mono hbw.size)
  clear hK K hv
  try simp only [Act.put, gzD, gzE, gzF]
  refine wb_oneZ 9 (fun K hK => ?_)
  go_simp
  refine (do_two op_both Aa Ab na ca nb cb a b pf _ (HA.out _ hbw) (HB.out _ hbw) (HT.out _ hbw) (bd_pos hTh.out (by decide))).mono ?_
  rintro e uy ⟨Ay, ny, cy, py, rfl, hy, hv⟩
  refine hK _ _ (Kb.below hv (by intro p hp; rw [List.mem_singleton.1 hp]; have := hbw.size; omega)) ?_
  replace hx := hx.below hv
  replace hbw := hbw.trans (hv.mono hbw.size)
  clear hK K hv
  try simp only [Act.put, gzD, gzE, gzF]
  refine wb_pureZ 10 (some 14) (v := ?_) ?_ ?_; rotate_left; · (intro u; go_simp; try with_reducible rfl)
  try simp only [Act.put, gzD, gzE, gzF]
  refine wb_pureZ 11 (some 15) (v := ?_) ?_ ?_; rotate_left; · (intro u; go_simp; try with_reducible rfl)
  try simp only [Act.put, gzD, gzE, gzF]
  refine wb_done (by kernel_rfl) ?_ _
  have kf := (HF.out _ hbw).cell (i := 0) rfl
  have HX := Lib.hid (checkSet_sg Ax nx cx px _ hx)
  go_wp2_with fail
  refine HX.out.mono ?_
  rintro e w7 ⟨rfl, hv⟩
  replace hx := hx.below hv
  replace hy := hy.below hv
  replace hbw := hbw.trans (hv.mono hbw.size)
  clear hv HX kf
  have HX := Lib.hid (checkSet_sg Ay ny cy py _ hy)
  go_wp2_with fail
  refine HX.out.mono ?_
  rintro e w8 ⟨rfl, hv⟩
  replace hx := hx.below hv
  replace hy := hy.below hv
  replace hbw := hbw.trans (hv.mono hbw.size)
  clear hv HX
  have ga := HA.out _ hbw
  have gb := HB.out _ hbw
  have HZ := Lib.hid (sizes_any Aa Ab na nb ca cb w8 ga.sl gb.sl ga.le gb.le hTh.out.ra hTh.out.rb)
  have hsum := Lib.hid (sg_size hTh.out hx hy (by intro x y z; cases x <;> cases y <;> cases z <;> rfl) (by intro x y z; cases x <;> cases y <;> cases z <;> rfl))
  clear ga gb
  go_wp2_with fail
  refine HZ.out.mono ?_
  rintro e w9 ⟨rfl, hv⟩
  replace hx := hx.below hv
  replace hy := hy.below hv
  replace hbw := hbw.trans (hv.mono hbw.size)
  have HZ2 := Lib.hid (sizes_any Ax Ay nx ny cx cy w9 hx.sl hy.sl hx.le hy.le hx.rt hy.rt)
  rw [hsum.out] at HZ2
  clear hv HZ hx hy hsum
  generalize txt ((msd (sizeN a + sizeN b)).map (48 + ·)) = S at *
  go_wp2_with fail
  refine HZ2.out.mono ?_
  rintro e w10 ⟨rfl, hv⟩
  replace hbw := hbw.trans (hv.mono hbw.size)
  have hB10 := hB5.out.trans (hbw.mono hB5.out.size)
  clear hv HZ2
  go_wp2_with fail
  refine (HRY.out _ hB10).mono ?_
  rintro e w11 ⟨rfl, hv⟩
  have hB11 := hB10.trans (hv.mono hB10.size)
  clear hv
  go_wp2_with fail
  go_ret
  exact ⟨rfl, hB11⟩
end Go.Proofs.YtmgdkefoehlamaaGreatDoor
