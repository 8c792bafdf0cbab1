/- Packets that are read: the reference, a packet of one of the protocols. -/
import Derived.Test.YtigbbpgfblnboaaRdO
namespace Go.Proofs.Ytigbbpgfblnboaa
open Go.RowKit
set_option linter.unusedVariables false
set_option linter.unusedSimpArgs false

set_option maxHeartbeats 2000000 in
set_option maxRecDepth 100000 in
theorem packetRead_tcp (g off n cap : Nat) (bs : List Nat) (w : World) (hS : SlB w (some ⟨g, off, none⟩) n cap bs) (hn2 : n ≤ 1000) (hb : Byt bs) (hE : headE bs = 0) (hp : (headQ bs).proto = 6) (hk : headN bs + 20 ≤ n) :
    Calls Try.prog 30 #[.slice (some ⟨g, off, none⟩) n cap] w (PRPost bs w) := by
  have hl := hS.len
  have hcap := hS.2.1
  have hgw : g < w.heap.size := (hS.byte 0 (by omega)).2
  have Z1 := Blk.new w zeroP 45
  have hw1 : Below w.heap.size w (w.alloc (.cells #[.bool false, .int .u64 0, .int .u64 0, .bool false, .int .u64 0, .int .u64 0, .int .i64 0, .int .i64 0, .int .i64 0, .int .i64 0, .bool false, .bool false, .bool false, .bool false, .int .i64 0, .int .i64 0, .bool false, .int .i64 0, .slice none 0 0] 45)) := (Below.refl _ _).alloc (Nat.le_refl _) _
  have hS1 := hS.below hw1
  have HH := Lib.hid (headRead_any (some ⟨g, off, none⟩) n cap bs _ hS1 hn2 hb)
  rw [hE] at HH
  have hok := ok_head hb (head_proto hE)
  obtain ⟨kN, hkN⟩ : ∃ kN, kN = headN bs := ⟨_, rfl⟩
  rw [← hkN] at HH hk
  obtain ⟨bd, hbd⟩ : ∃ bd, bd = bs.drop kN := ⟨_, rfl⟩
  have hbb : Byt bd := by rw [hbd]; exact fun b h => hb b (List.mem_of_mem_drop h)
  obtain ⟨m, hm⟩ : ∃ m, m = n - kN := ⟨_, rfl⟩
  obtain ⟨cm, hcm⟩ : ∃ cm, cm = cap - kN := ⟨_, rfl⟩
  have hbl : Hid (m = bd.length) := Lib.hid (by rw [hbd, List.length_drop, hm, hl])
  have hsub : Hid (∀ u, SlB u (some ⟨g, off, none⟩) n cap bs → SlB u (some ⟨g, off + kN, none⟩) m cm bd) := Lib.hid (fun u h => by
    have h1 := h.part kN m cm (by omega) (by omega)
    rwa [← hbd, List.take_of_length_le (by have := hbl.out; omega)] at h1)
  have hR0 : Hid (∀ E, partER (headQ bs) bd bs = E → rdER bs = E) := Lib.hid (fun E h => by unfold rdER; rw [if_neg (fun x => x hE), ← hkN, ← hbd, h])
  have hR1 : Hid (bs.drop (headN bs) = bd) := Lib.hid (by rw [← hkN, hbd])
  replace hl := Lib.hid hl
  replace hE := Lib.hid hE
  replace hkN := Lib.hid hkN
  replace hbd := Lib.hid hbd
  replace hb := Lib.hid hb
  have i1 : (kN : Int) ≤ n := by omega
  have i2 : (kN : Int) ≤ cap := by omega
  have i3 : ¬ cap = kN := by omega
  have i4 : ¬ (m : Int) < 20 := by omega
  have i6 : n - kN = m := hm.symm
  have i7 : 20 ≤ m := by omega
  have i8 : (m : Int) ≤ 1000 := by omega
  have i9 : m ≤ cm := by omega
  have i10 : cap - kN = cm := hcm.symm
  have i11 : (m : Int) ≤ cm := by omega
  have i12 : (20 : Int) ≤ m := by omega
  have i13 : (20 : Int) ≤ cm := by omega
  replace hcm := Lib.hid hcm
  replace hm := Lib.hid hm
  replace hS1 := Lib.hid hS1
  clear hS
  go_enter Try.func30, Try.ntmps30
  go_wp2_with fail
  refine HH.out.mono ?_
  rintro e u0 ⟨q', k, rfl, hv0, hq⟩
  obtain ⟨rfl, rfl⟩ := hq trivial
  have S1 := stPk_run (q := headQ bs) (v := .slice none 0 0) (Blk.new u0 zeroP 45) rfl rfl
  generalize hPV : pkV (headQ bs) (.slice none 0 0) = PV at S1 ⊢
  replace hPV := Lib.hid hPV
  have hlt0 : w.heap.size < u0.heap.size := by have := hv0.size; simp at this; omega
  have hQ : AtQ w u0.heap.size (headQ bs) (.slice none 0 0) ((u0.alloc (.cells #[.bool false, .int .u64 0, .int .u64 0, .bool false, .int .u64 0, .int .u64 0, .int .i64 0, .int .i64 0, .int .i64 0, .int .i64 0, .bool false, .bool false, .bool false, .bool false, .int .i64 0, .int .i64 0, .bool false, .int .i64 0, .slice none 0 0] 45)).setRow u0.heap.size (pkL (headQ bs) (.slice none 0 0)).toArray) :=
    ⟨setRow_heap _ _ _ _ _ _ (Blk.new u0 zeroP 45), (setRow_other _ u0.heap.size w.heap.size _ (by omega)).trans ((Z1.below hv0).alloc _), ((hw1.trans (hv0.mono (by simp))).alloc (by omega) _).trans (gb_toBelow (B := w.heap.size) (row_gb _) (by omega) (by simp)), hlt0⟩
  have hS := ((hS1.out.below hv0).below ((Below.refl _ _).alloc (Nat.le_refl _) (.cells #[.bool false, .int .u64 0, .int .u64 0, .bool false, .int .u64 0, .int .u64 0, .int .i64 0, .int .i64 0, .int .i64 0, .int .i64 0, .bool false, .bool false, .bool false, .bool false, .int .i64 0, .int .i64 0, .bool false, .int .i64 0, .slice none 0 0] 45))).same (w' := (u0.alloc (.cells #[.bool false, .int .u64 0, .int .u64 0, .bool false, .int .u64 0, .int .u64 0, .int .i64 0, .int .i64 0, .int .i64 0, .int .i64 0, .bool false, .bool false, .bool false, .bool false, .int .i64 0, .int .i64 0, .bool false, .int .i64 0, .slice none 0 0] 45)).setRow u0.heap.size (pkL (headQ bs) (.slice none 0 0)).toArray) (by simp [World.setRow]) (fun _ => setRow_other _ u0.heap.size g _ (by omega))
  have hne : g ≠ u0.heap.size := by omega
  have d7 := hQ.x.cell (i := 7) (v := .int .i64 6) (by show some (Value.int .i64 (headQ bs).proto) = _; rw [hp])
  have hp' := Lib.hid hp
  replace hQ := Lib.hid hQ
  replace hS := Lib.hid hS
  clear HH Z1 hw1 hS1 hv0 hq hp
  have c2a : (2 : Int) ≤ cm := by omega
  have c4a : (4 : Int) ≤ cm := by omega
  have c8a : (8 : Int) ≤ cm := by omega
  have c12a : (12 : Int) ≤ cm := by omega
  have z2 : ¬ cm = 2 := by omega
  have z4 : ¬ cm = 4 := by omega
  have z8 : ¬ cm = 8 := by omega
  replace hbb := Lib.hid hbb
  have v02 : IntKind.i64.wrap (nb bd 0 2 : Int) = (nb bd 0 2 : Int) := by have := nb_lt hbb.out 0 2; rw [IntKind.wrap_i64]; omega
  have v22 : IntKind.i64.wrap (nb bd 2 2 : Int) = (nb bd 2 2 : Int) := by have := nb_lt hbb.out 2 2; rw [IntKind.wrap_i64]; omega
  have v44 : IntKind.i64.wrap (nb bd 4 4 : Int) = (nb bd 4 4 : Int) := by have := nb_lt hbb.out 4 4; rw [IntKind.wrap_i64]; omega
  have v84 : IntKind.i64.wrap (nb bd 8 4 : Int) = (nb bd 8 4 : Int) := by have := nb_lt hbb.out 8 4; rw [IntKind.wrap_i64]; omega
  have i18 : (13 : Int) < m := by omega
  have i19 : 13 < m := by omega
  have kx := ((hsub.out _ hS.out).byte 13 (by omega)).1
  obtain ⟨x13, hx13⟩ : ∃ x : Int, x = (bd.getD 13 0 : Nat) := ⟨_, rfl⟩
  rw [← hx13] at kx
  obtain ⟨r1, hr1⟩ : ∃ r, r = decide (bd.getD 13 0 % 2 = 1) := ⟨_, rfl⟩
  obtain ⟨r2, hr2⟩ : ∃ r, r = decide (bd.getD 13 0 / 2 % 2 = 1) := ⟨_, rfl⟩
  obtain ⟨r3, hr3⟩ : ∃ r, r = decide (bd.getD 13 0 / 4 % 2 = 1) := ⟨_, rfl⟩
  obtain ⟨r4, hr4⟩ : ∃ r, r = decide (bd.getD 13 0 / 16 % 2 = 1) := ⟨_, rfl⟩
  have hF : Hid (rdTcp (headQ bs) bd = { headQ bs with fp := nb bd 0 2, tp := nb bd 2 2, seq := nb bd 4 4, ack := nb bd 8 4, fin := r1, syn := r2, rst := r3, has := r4 }) := Lib.hid (by unfold rdTcp; rw [hr1, hr2, hr3, hr4])
  have g1 : decide (0 < bits .and .u8 x13 1) = r1 := by rw [hx13, hr1]; have := gt_bit (bd.getD 13 0) 0 (hbb.out.getD 13) (by omega); simpa using this
  have g2 : decide (0 < bits .and .u8 x13 2) = r2 := by rw [hx13, hr2]; have := gt_bit (bd.getD 13 0) 1 (hbb.out.getD 13) (by omega); simpa using this
  have g3 : decide (0 < bits .and .u8 x13 4) = r3 := by rw [hx13, hr3]; have := gt_bit (bd.getD 13 0) 2 (hbb.out.getD 13) (by omega); simpa using this
  have g4 : decide (0 < bits .and .u8 x13 16) = r4 := by rw [hx13, hr4]; have := gt_bit (bd.getD 13 0) 4 (hbb.out.getD 13) (by omega); simpa using this
  replace hx13 := Lib.hid hx13
  replace hr1 := Lib.hid hr1
  replace hr2 := Lib.hid hr2
  replace hr3 := Lib.hid hr3
  replace hr4 := Lib.hid hr4
  have hszP : Hid (szP (headQ bs) = 20) := Lib.hid (by unfold szP; rw [if_pos hp'.out])
  have hatP : Hid (atP (headQ bs) = 16) := Lib.hid (by unfold atP; rw [if_pos hp'.out])
  have hq1d : Hid (({ headQ bs with fp := nb bd 0 2, tp := nb bd 2 2, seq := nb bd 4 4, ack := nb bd 8 4, fin := r1, syn := r2, rst := r3, has := r4 } : Pk) = rdBodyR (headQ bs) bd) := Lib.hid (by unfold rdBodyR; rw [if_pos hp'.out]; exact hF.out.symm)
  obtain ⟨pb, hpb⟩ : ∃ pb, pb = u0.heap.size := ⟨_, rfl⟩
  go_upto_block 0 with fail
  rw [← hpb] at hQ hS hne hlt0 d7 kx ⊢
  replace hpb := Lib.hid hpb
  go_cut [9] (fun s9 wx => s9 = .int .i64 16 ∧ Hid (AtQ w pb ({ headQ bs with fp := nb bd 0 2, tp := nb bd 2 2, seq := nb bd 4 4, ack := nb bd 8 4, fin := r1, syn := r2, rst := r3, has := r4 } : Pk) (.slice none 0 0) wx) ∧ Hid (SlB wx (some ⟨g, off, none⟩) n cap bs))
  case first =>
    clear S1 i1 i2 i3 i4 i6 i10
    go_wp2_with fail
    clear kx
    refine wb_begin ([]) [] (by kernel_rfl) (fun u0 hb0' hz0' => ?_)
    replace hS := Lib.hid (hS.out.below hb0')
    replace hQ := Lib.hid (hQ.out.below hb0')
    clear hb0' hz0'
    refine wb_pure (i := 0) (d := some 63) (v := ?_) (by simp only [List.getElem?_toArray, List.getElem?_cons_succ, List.getElem?_cons_zero] <;> rfl) (by rfl) (by kernel_rfl) (by kernel_rfl) (by kernel_rfl) (fun _ _ _ h => h) (by rfl) ?_ ?_
    rotate_left
    · ((intro u); go_simp; try with_reducible rfl)
    try simp only [Act.put, List.setIfInBounds_toArray, List.set_cons_zero, List.set_cons_succ]
    refine wb_pure (i := 1) (d := some 64) (v := ?_) (by simp only [List.getElem?_toArray, List.getElem?_cons_succ, List.getElem?_cons_zero] <;> rfl) (by rfl) (by kernel_rfl) (by kernel_rfl) (by kernel_rfl) (fun _ _ _ h => h) (by rfl) ?_ ?_
    rotate_left
    · ((intro u); go_simp; try with_reducible rfl)
    try simp only [Act.put, List.setIfInBounds_toArray, List.set_cons_zero, List.set_cons_succ]
    refine wb_pure (i := 4) (d := some 67) (v := ?_) (by simp only [List.getElem?_toArray, List.getElem?_cons_succ, List.getElem?_cons_zero] <;> rfl) (by rfl) (by kernel_rfl) (by kernel_rfl) (by kernel_rfl) (fun _ _ _ h => h) (by rfl) ?_ ?_
    rotate_left
    · ((intro u); go_simp; try with_reducible rfl)
    try simp only [Act.put, List.setIfInBounds_toArray, List.set_cons_zero, List.set_cons_succ]
    refine wb_pure (i := 5) (d := some 68) (v := ?_) (by simp only [List.getElem?_toArray, List.getElem?_cons_succ, List.getElem?_cons_zero] <;> rfl) (by rfl) (by kernel_rfl) (by kernel_rfl) (by kernel_rfl) (fun _ _ _ h => h) (by rfl) ?_ ?_
    rotate_left
    · ((intro u); go_simp; try with_reducible rfl)
    try simp only [Act.put, List.setIfInBounds_toArray, List.set_cons_zero, List.set_cons_succ]
    refine wb_pure (i := 8) (d := some 71) (v := ?_) (by simp only [List.getElem?_toArray, List.getElem?_cons_succ, List.getElem?_cons_zero] <;> rfl) (by rfl) (by kernel_rfl) (by kernel_rfl) (by kernel_rfl) (fun _ _ _ h => h) (by rfl) ?_ ?_
    rotate_left
    · ((intro u); go_simp; try with_reducible rfl)
    try simp only [Act.put, List.setIfInBounds_toArray, List.set_cons_zero, List.set_cons_succ]
    refine wb_pure (i := 9) (d := some 72) (v := ?_) (by simp only [List.getElem?_toArray, List.getElem?_cons_succ, List.getElem?_cons_zero] <;> rfl) (by rfl) (by kernel_rfl) (by kernel_rfl) (by kernel_rfl) (fun _ _ _ h => h) (by rfl) ?_ ?_
    rotate_left
    · ((intro u); go_simp; try with_reducible rfl)
    try simp only [Act.put, List.setIfInBounds_toArray, List.set_cons_zero, List.set_cons_succ]
    refine wb_pure (i := 12) (d := some 75) (v := ?_) (by simp only [List.getElem?_toArray, List.getElem?_cons_succ, List.getElem?_cons_zero] <;> rfl) (by rfl) (by kernel_rfl) (by kernel_rfl) (by kernel_rfl) (fun _ _ _ h => h) (by rfl) ?_ ?_
    rotate_left
    · ((intro u); go_simp; try with_reducible rfl)
    try simp only [Act.put, List.setIfInBounds_toArray, List.set_cons_zero, List.set_cons_succ]
    refine wb_pure (i := 13) (d := some 76) (v := ?_) (by simp only [List.getElem?_toArray, List.getElem?_cons_succ, List.getElem?_cons_zero] <;> rfl) (by rfl) (by kernel_rfl) (by kernel_rfl) (by kernel_rfl) (fun _ _ _ h => h) (by rfl) ?_ ?_
    rotate_left
    · ((intro u); go_simp; try with_reducible rfl)
    try simp only [Act.put, List.setIfInBounds_toArray, List.set_cons_zero, List.set_cons_succ]
    refine wb_one (i := 2) (by simp only [List.getElem?_toArray, List.getElem?_cons_succ, List.getElem?_cons_zero] <;> rfl) (by kernel_rfl) (by rfl) (fun K hK => ?_)
    go_simp
    refine (num_part _ _ _ _ _ bd _ (hsub.out _ hS.out) 0 2 (by omega) (by omega) (by omega) hbb.out).mono ?_
    rintro e u2 ⟨rfl, hv2⟩
    refine hK.out _ _ (fun p hp => by cases hp) ?_
    replace hS := Lib.hid (hS.out.below hv2)
    replace hQ := Lib.hid (hQ.out.below hv2)
    clear hK K hv2
    try simp only [Act.put, List.setIfInBounds_toArray, List.set_cons_zero, List.set_cons_succ]
    refine wb_pure (i := 3) (d := some 66) (v := ?_) (by simp only [List.getElem?_toArray, List.getElem?_cons_succ, List.getElem?_cons_zero] <;> rfl) (by rfl) (by kernel_rfl) (by kernel_rfl) (by kernel_rfl) (fun _ _ _ h => h) (by rfl) ?_ ?_
    rotate_left
    · ((intro u); go_simp; try with_reducible rfl)
    try simp only [Act.put, List.setIfInBounds_toArray, List.set_cons_zero, List.set_cons_succ]
    refine wb_pure (i := 16) (d := some 79) (v := ?_) (by simp only [List.getElem?_toArray, List.getElem?_cons_succ, List.getElem?_cons_zero] <;> rfl) (by rfl) (by kernel_rfl) (by kernel_rfl) (by kernel_rfl) (fun _ _ _ h => h) (by rfl) ?_ ?_
    rotate_left
    · ((intro u); go_simp; try with_reducible rfl)
    try simp only [Act.put, List.setIfInBounds_toArray, List.set_cons_zero, List.set_cons_succ]
    refine wb_one (i := 6) (by simp only [List.getElem?_toArray, List.getElem?_cons_succ, List.getElem?_cons_zero] <;> rfl) (by kernel_rfl) (by rfl) (fun K hK => ?_)
    go_simp
    refine (num_part _ _ _ _ _ bd _ (hsub.out _ hS.out) 2 2 (by omega) (by omega) (by omega) hbb.out).mono ?_
    rintro e u6 ⟨rfl, hv6⟩
    refine hK.out _ _ (fun p hp => by cases hp) ?_
    replace hS := Lib.hid (hS.out.below hv6)
    replace hQ := Lib.hid (hQ.out.below hv6)
    clear hK K hv6
    try simp only [Act.put, List.setIfInBounds_toArray, List.set_cons_zero, List.set_cons_succ]
    refine wb_pure (i := 7) (d := some 70) (v := ?_) (by simp only [List.getElem?_toArray, List.getElem?_cons_succ, List.getElem?_cons_zero] <;> rfl) (by rfl) (by kernel_rfl) (by kernel_rfl) (by kernel_rfl) (fun _ _ _ h => h) (by rfl) ?_ ?_
    rotate_left
    · ((intro u); go_simp; try with_reducible rfl)
    try simp only [Act.put, List.setIfInBounds_toArray, List.set_cons_zero, List.set_cons_succ]
    refine wb_one (i := 10) (by simp only [List.getElem?_toArray, List.getElem?_cons_succ, List.getElem?_cons_zero] <;> rfl) (by kernel_rfl) (by rfl) (fun K hK => ?_)
    go_simp
    refine (num_part _ _ _ _ _ bd _ (hsub.out _ hS.out) 4 4 (by omega) (by omega) (by omega) hbb.out).mono ?_
    rintro e u10 ⟨rfl, hv10⟩
    refine hK.out _ _ (fun p hp => by cases hp) ?_
    replace hS := Lib.hid (hS.out.below hv10)
    replace hQ := Lib.hid (hQ.out.below hv10)
    clear hK K hv10
    try simp only [Act.put, List.setIfInBounds_toArray, List.set_cons_zero, List.set_cons_succ]
    refine wb_pure (i := 11) (d := some 74) (v := ?_) (by simp only [List.getElem?_toArray, List.getElem?_cons_succ, List.getElem?_cons_zero] <;> rfl) (by rfl) (by kernel_rfl) (by kernel_rfl) (by kernel_rfl) (fun _ _ _ h => h) (by rfl) ?_ ?_
    rotate_left
    · ((intro u); go_simp; try with_reducible rfl)
    try simp only [Act.put, List.setIfInBounds_toArray, List.set_cons_zero, List.set_cons_succ]
    refine wb_one (i := 14) (by simp only [List.getElem?_toArray, List.getElem?_cons_succ, List.getElem?_cons_zero] <;> rfl) (by kernel_rfl) (by rfl) (fun K hK => ?_)
    go_simp
    refine (num_part _ _ _ _ _ bd _ (hsub.out _ hS.out) 8 4 (by omega) (by omega) (by omega) hbb.out).mono ?_
    rintro e u14 ⟨rfl, hv14⟩
    refine hK.out _ _ (fun p hp => by cases hp) ?_
    replace hS := Lib.hid (hS.out.below hv14)
    replace hQ := Lib.hid (hQ.out.below hv14)
    clear hK K hv14
    try simp only [Act.put, List.setIfInBounds_toArray, List.set_cons_zero, List.set_cons_succ]
    refine wb_pure (i := 15) (d := some 78) (v := ?_) (by simp only [List.getElem?_toArray, List.getElem?_cons_succ, List.getElem?_cons_zero] <;> rfl) (by rfl) (by kernel_rfl) (by kernel_rfl) (by kernel_rfl) (fun _ _ _ h => h) (by rfl) ?_ ?_
    rotate_left
    · ((intro u); go_simp; try with_reducible rfl)
    try simp only [Act.put, List.setIfInBounds_toArray, List.set_cons_zero, List.set_cons_succ]
    refine wb_one (i := 17) (by simp only [List.getElem?_toArray, List.getElem?_cons_succ, List.getElem?_cons_zero] <;> rfl) (by kernel_rfl) (by rfl) (fun K hK => ?_)
    have f8 := hQ.out.x.free 8
    have c8 := hQ.out.x.cell (i := 8) rfl
    have f9 := hQ.out.x.free 9
    have c9 := hQ.out.x.cell (i := 9) rfl
    have f14 := hQ.out.x.free 14
    have c14 := hQ.out.x.cell (i := 14) rfl
    have f15 := hQ.out.x.free 15
    have c15 := hQ.out.x.cell (i := 15) rfl
    go_simp
    refine hK.out _ _ (fun p hp => by cases hp) ?_
    replace hQ := Lib.hid (hQ.out.set (q' := { headQ bs with fp := nb bd 0 2 }) 8 (.int .i64 (nb bd 0 2)) rfl)
    replace hS := Lib.hid (hS.out.setPk hne 8 (.int .i64 (nb bd 0 2)))
    clear hK K f8 c8
    try simp only [Act.put, List.setIfInBounds_toArray, List.set_cons_zero, List.set_cons_succ]
    refine wb_pure (i := 18) (d := some 80) (v := ?_) (by simp only [List.getElem?_toArray, List.getElem?_cons_succ, List.getElem?_cons_zero] <;> rfl) (by rfl) (by kernel_rfl) (by kernel_rfl) (by kernel_rfl) (fun _ _ _ h => h) (by rfl) ?_ ?_
    rotate_left
    · ((intro u); go_simp; try with_reducible rfl)
    try simp only [Act.put, List.setIfInBounds_toArray, List.set_cons_zero, List.set_cons_succ]
    refine wb_one (i := 19) (by simp only [List.getElem?_toArray, List.getElem?_cons_succ, List.getElem?_cons_zero] <;> rfl) (by kernel_rfl) (by rfl) (fun K hK => ?_)
    go_simp
    refine hK.out _ _ (fun p hp => by cases hp) ?_
    replace hQ := Lib.hid (hQ.out.set (q' := { headQ bs with fp := nb bd 0 2, tp := nb bd 2 2 }) 9 (.int .i64 (nb bd 2 2)) rfl)
    replace hS := Lib.hid (hS.out.setPk hne 9 (.int .i64 (nb bd 2 2)))
    clear hK K f9 c9
    try simp only [Act.put, List.setIfInBounds_toArray, List.set_cons_zero, List.set_cons_succ]
    refine wb_pure (i := 20) (d := some 81) (v := ?_) (by simp only [List.getElem?_toArray, List.getElem?_cons_succ, List.getElem?_cons_zero] <;> rfl) (by rfl) (by kernel_rfl) (by kernel_rfl) (by kernel_rfl) (fun _ _ _ h => h) (by rfl) ?_ ?_
    rotate_left
    · ((intro u); go_simp; try with_reducible rfl)
    try simp only [Act.put, List.setIfInBounds_toArray, List.set_cons_zero, List.set_cons_succ]
    refine wb_one (i := 21) (by simp only [List.getElem?_toArray, List.getElem?_cons_succ, List.getElem?_cons_zero] <;> rfl) (by kernel_rfl) (by rfl) (fun K hK => ?_)
    go_simp
    refine hK.out _ _ (fun p hp => by cases hp) ?_
    replace hQ := Lib.hid (hQ.out.set (q' := { headQ bs with fp := nb bd 0 2, tp := nb bd 2 2, seq := nb bd 4 4 }) 14 (.int .i64 (nb bd 4 4)) rfl)
    replace hS := Lib.hid (hS.out.setPk hne 14 (.int .i64 (nb bd 4 4)))
    clear hK K f14 c14
    try simp only [Act.put, List.setIfInBounds_toArray, List.set_cons_zero, List.set_cons_succ]
    refine wb_pure (i := 22) (d := some 82) (v := ?_) (by simp only [List.getElem?_toArray, List.getElem?_cons_succ, List.getElem?_cons_zero] <;> rfl) (by rfl) (by kernel_rfl) (by kernel_rfl) (by kernel_rfl) (fun _ _ _ h => h) (by rfl) ?_ ?_
    rotate_left
    · ((intro u); go_simp; try with_reducible rfl)
    try simp only [Act.put, List.setIfInBounds_toArray, List.set_cons_zero, List.set_cons_succ]
    refine wb_one (i := 23) (by simp only [List.getElem?_toArray, List.getElem?_cons_succ, List.getElem?_cons_zero] <;> rfl) (by kernel_rfl) (by rfl) (fun K hK => ?_)
    go_simp
    refine hK.out _ _ (fun p hp => by cases hp) ?_
    replace hQ := Lib.hid (hQ.out.set (q' := { headQ bs with fp := nb bd 0 2, tp := nb bd 2 2, seq := nb bd 4 4, ack := nb bd 8 4 }) 15 (.int .i64 (nb bd 8 4)) rfl)
    replace hS := Lib.hid (hS.out.setPk hne 15 (.int .i64 (nb bd 8 4)))
    clear hK K f15 c15
    try simp only [Act.put, List.setIfInBounds_toArray, List.set_cons_zero, List.set_cons_succ]
    refine wb_done (by kernel_rfl) ?_ _
    have f10 := hQ.out.x.free 10
    have f11 := hQ.out.x.free 11
    have f12 := hQ.out.x.free 12
    have f13 := hQ.out.x.free 13
    have c10 := hQ.out.x.cell (i := 10) rfl
    have c11 := hQ.out.x.cell (i := 11) rfl
    have c12 := hQ.out.x.cell (i := 12) rfl
    have c13 := hQ.out.x.cell (i := 13) rfl
    replace hQ := Lib.hid ((((hQ.out.set (q' := { headQ bs with fp := nb bd 0 2, tp := nb bd 2 2, seq := nb bd 4 4, ack := nb bd 8 4, fin := r1 }) 11 (.bool r1) rfl).set (q' := { headQ bs with fp := nb bd 0 2, tp := nb bd 2 2, seq := nb bd 4 4, ack := nb bd 8 4, fin := r1, syn := r2 }) 10 (.bool r2) rfl).set (q' := { headQ bs with fp := nb bd 0 2, tp := nb bd 2 2, seq := nb bd 4 4, ack := nb bd 8 4, fin := r1, syn := r2, rst := r3 }) 12 (.bool r3) rfl).set (q' := { headQ bs with fp := nb bd 0 2, tp := nb bd 2 2, seq := nb bd 4 4, ack := nb bd 8 4, fin := r1, syn := r2, rst := r3, has := r4 }) 13 (.bool r4) rfl)
    replace hS := Lib.hid ((((hS.out.setPk hne 11 (.bool r1)).setPk hne 10 (.bool r2)).setPk hne 12 (.bool r3)).setPk hne 13 (.bool r4))
    go_wp2_with fail
    go_meet
    exact ⟨rfl, hQ, hS⟩
  case rest =>
  clear hQ hS
  obtain ⟨rfl, hQ, hS⟩ := hcut
  rename_i ak
  refine ak _ _ ?_
  exact pr_tail g off n cap (off + kN) bs w pb _ kN m cm 20 16 bd (bd.drop 20) _ hQ.out hS.out hsub.out (by rw [hq1d.out]; exact ok_bodyR hok hbb.out) hne hn2 (by omega) (by omega) (by omega) (by omega) (by omega) hbb.out hbl.out rfl hq1d.out hszP.out hatP.out hR0.out hR1.out _ _ _ _ _ _ _ _ _ _ _ _ _ _ _ _ _ _ _ _ _ _ _ _ _ _ _ _ _ _ _ _ _ _ _ _ _ _ _ _ _ _ _ _ _ _ _ _ _ _ _ _ _ _ _ _ _ _ _ _ _ _ _ _ _ _ _ _ _ _ _ _ _ _ _ _ _ _ _ _ _ _ _ _ _ _ _ _ _ _ _ _ _ _ _ _ _ _ _ _ _ _ _ _ _ _ _ _ _ _ _ _ _ _ _ _ _ _ _ _ _ _ _ _ _ _ _ _ _ _ _ _ _ _ _ _ _ _ _ _ _ _ _ _ _ _ _ _ _ _ _ _ _ _ _ _ _ _ _ _ _

set_option maxHeartbeats 2000000 in
set_option maxRecDepth 100000 in
theorem packetRead_udp (g off n cap : Nat) (bs : List Nat) (w : World) (hS : SlB w (some ⟨g, off, none⟩) n cap bs) (hn2 : n ≤ 1000) (hb : Byt bs) (hE : headE bs = 0) (hp : (headQ bs).proto = 17) (hk : headN bs + 8 ≤ n) :
    Calls Try.prog 30 #[.slice (some ⟨g, off, none⟩) n cap] w (PRPost bs w) := by
  have hl := hS.len
  have hcap := hS.2.1
  have hgw : g < w.heap.size := (hS.byte 0 (by omega)).2
  have Z1 := Blk.new w zeroP 45
  have hw1 : Below w.heap.size w (w.alloc (.cells #[.bool false, .int .u64 0, .int .u64 0, .bool false, .int .u64 0, .int .u64 0, .int .i64 0, .int .i64 0, .int .i64 0, .int .i64 0, .bool false, .bool false, .bool false, .bool false, .int .i64 0, .int .i64 0, .bool false, .int .i64 0, .slice none 0 0] 45)) := (Below.refl _ _).alloc (Nat.le_refl _) _
  have hS1 := hS.below hw1
  have HH := Lib.hid (headRead_any (some ⟨g, off, none⟩) n cap bs _ hS1 hn2 hb)
  rw [hE] at HH
  have hok := ok_head hb (head_proto hE)
  obtain ⟨kN, hkN⟩ : ∃ kN, kN = headN bs := ⟨_, rfl⟩
  rw [← hkN] at HH hk
  obtain ⟨bd, hbd⟩ : ∃ bd, bd = bs.drop kN := ⟨_, rfl⟩
  have hbb : Byt bd := by rw [hbd]; exact fun b h => hb b (List.mem_of_mem_drop h)
  obtain ⟨m, hm⟩ : ∃ m, m = n - kN := ⟨_, rfl⟩
  obtain ⟨cm, hcm⟩ : ∃ cm, cm = cap - kN := ⟨_, rfl⟩
  have hbl : Hid (m = bd.length) := Lib.hid (by rw [hbd, List.length_drop, hm, hl])
  have hsub : Hid (∀ u, SlB u (some ⟨g, off, none⟩) n cap bs → SlB u (some ⟨g, off + kN, none⟩) m cm bd) := Lib.hid (fun u h => by
    have h1 := h.part kN m cm (by omega) (by omega)
    rwa [← hbd, List.take_of_length_le (by have := hbl.out; omega)] at h1)
  have hR0 : Hid (∀ E, partER (headQ bs) bd bs = E → rdER bs = E) := Lib.hid (fun E h => by unfold rdER; rw [if_neg (fun x => x hE), ← hkN, ← hbd, h])
  have hR1 : Hid (bs.drop (headN bs) = bd) := Lib.hid (by rw [← hkN, hbd])
  replace hl := Lib.hid hl
  replace hE := Lib.hid hE
  replace hkN := Lib.hid hkN
  replace hbd := Lib.hid hbd
  replace hb := Lib.hid hb
  have i1 : (kN : Int) ≤ n := by omega
  have i2 : (kN : Int) ≤ cap := by omega
  have i3 : ¬ cap = kN := by omega
  have i4 : ¬ (m : Int) < 8 := by omega
  have i6 : n - kN = m := hm.symm
  have i7 : 8 ≤ m := by omega
  have i8 : (m : Int) ≤ 1000 := by omega
  have i9 : m ≤ cm := by omega
  have i10 : cap - kN = cm := hcm.symm
  have i11 : (m : Int) ≤ cm := by omega
  have i12 : (8 : Int) ≤ m := by omega
  have i13 : (8 : Int) ≤ cm := by omega
  replace hcm := Lib.hid hcm
  replace hm := Lib.hid hm
  replace hS1 := Lib.hid hS1
  clear hS
  go_enter Try.func30, Try.ntmps30
  go_wp2_with fail
  refine HH.out.mono ?_
  rintro e u0 ⟨q', k, rfl, hv0, hq⟩
  obtain ⟨rfl, rfl⟩ := hq trivial
  have S1 := stPk_run (q := headQ bs) (v := .slice none 0 0) (Blk.new u0 zeroP 45) rfl rfl
  generalize hPV : pkV (headQ bs) (.slice none 0 0) = PV at S1 ⊢
  replace hPV := Lib.hid hPV
  have hlt0 : w.heap.size < u0.heap.size := by have := hv0.size; simp at this; omega
  have hQ : AtQ w u0.heap.size (headQ bs) (.slice none 0 0) ((u0.alloc (.cells #[.bool false, .int .u64 0, .int .u64 0, .bool false, .int .u64 0, .int .u64 0, .int .i64 0, .int .i64 0, .int .i64 0, .int .i64 0, .bool false, .bool false, .bool false, .bool false, .int .i64 0, .int .i64 0, .bool false, .int .i64 0, .slice none 0 0] 45)).setRow u0.heap.size (pkL (headQ bs) (.slice none 0 0)).toArray) :=
    ⟨setRow_heap _ _ _ _ _ _ (Blk.new u0 zeroP 45), (setRow_other _ u0.heap.size w.heap.size _ (by omega)).trans ((Z1.below hv0).alloc _), ((hw1.trans (hv0.mono (by simp))).alloc (by omega) _).trans (gb_toBelow (B := w.heap.size) (row_gb _) (by omega) (by simp)), hlt0⟩
  have hS := ((hS1.out.below hv0).below ((Below.refl _ _).alloc (Nat.le_refl _) (.cells #[.bool false, .int .u64 0, .int .u64 0, .bool false, .int .u64 0, .int .u64 0, .int .i64 0, .int .i64 0, .int .i64 0, .int .i64 0, .bool false, .bool false, .bool false, .bool false, .int .i64 0, .int .i64 0, .bool false, .int .i64 0, .slice none 0 0] 45))).same (w' := (u0.alloc (.cells #[.bool false, .int .u64 0, .int .u64 0, .bool false, .int .u64 0, .int .u64 0, .int .i64 0, .int .i64 0, .int .i64 0, .int .i64 0, .bool false, .bool false, .bool false, .bool false, .int .i64 0, .int .i64 0, .bool false, .int .i64 0, .slice none 0 0] 45)).setRow u0.heap.size (pkL (headQ bs) (.slice none 0 0)).toArray) (by simp [World.setRow]) (fun _ => setRow_other _ u0.heap.size g _ (by omega))
  have hne : g ≠ u0.heap.size := by omega
  have d7 := hQ.x.cell (i := 7) (v := .int .i64 17) (by show some (Value.int .i64 (headQ bs).proto) = _; rw [hp])
  have hp' := Lib.hid hp
  replace hQ := Lib.hid hQ
  replace hS := Lib.hid hS
  clear HH Z1 hw1 hS1 hv0 hq hp
  have c2a : (2 : Int) ≤ cm := by omega
  have c4a : (4 : Int) ≤ cm := by omega
  have z2 : ¬ cm = 2 := by omega
  replace hbb := Lib.hid hbb
  have v02 : IntKind.i64.wrap (nb bd 0 2 : Int) = (nb bd 0 2 : Int) := by have := nb_lt hbb.out 0 2; rw [IntKind.wrap_i64]; omega
  have v22 : IntKind.i64.wrap (nb bd 2 2 : Int) = (nb bd 2 2 : Int) := by have := nb_lt hbb.out 2 2; rw [IntKind.wrap_i64]; omega
  have hszP : Hid (szP (headQ bs) = 8) := Lib.hid (by unfold szP; rw [if_neg (by rw [hp'.out]; decide)])
  have hatP : Hid (atP (headQ bs) = 6) := Lib.hid (by unfold atP; rw [if_neg (by rw [hp'.out]; decide), if_pos hp'.out])
  have hq1d : Hid (({ headQ bs with fp := nb bd 0 2, tp := nb bd 2 2 } : Pk) = rdBodyR (headQ bs) bd) := Lib.hid (by unfold rdBodyR; rw [if_neg (by rw [hp'.out]; decide), if_pos hp'.out]; rfl)
  obtain ⟨pb, hpb⟩ : ∃ pb, pb = u0.heap.size := ⟨_, rfl⟩
  go_upto_block 0 with fail
  rw [← hpb] at hQ hS hne hlt0 d7 ⊢
  replace hpb := Lib.hid hpb
  go_cut [9] (fun s9 wx => s9 = .int .i64 6 ∧ Hid (AtQ w pb ({ headQ bs with fp := nb bd 0 2, tp := nb bd 2 2 } : Pk) (.slice none 0 0) wx) ∧ Hid (SlB wx (some ⟨g, off, none⟩) n cap bs))
  case first =>
    clear S1 i1 i2 i3 i4 i6 i10
    go_wp2_with fail
    refine wb_begin ([]) [] (by kernel_rfl) (fun u0 hb0' hz0' => ?_)
    replace hS := Lib.hid (hS.out.below hb0')
    replace hQ := Lib.hid (hQ.out.below hb0')
    clear hb0' hz0'
    refine wb_pure (i := 0) (d := some 101) (v := ?_) (by simp only [List.getElem?_toArray, List.getElem?_cons_succ, List.getElem?_cons_zero] <;> rfl) (by rfl) (by kernel_rfl) (by kernel_rfl) (by kernel_rfl) (fun _ _ _ h => h) (by rfl) ?_ ?_
    rotate_left
    · ((intro u); go_simp; try with_reducible rfl)
    try simp only [Act.put, List.setIfInBounds_toArray, List.set_cons_zero, List.set_cons_succ]
    refine wb_pure (i := 1) (d := some 102) (v := ?_) (by simp only [List.getElem?_toArray, List.getElem?_cons_succ, List.getElem?_cons_zero] <;> rfl) (by rfl) (by kernel_rfl) (by kernel_rfl) (by kernel_rfl) (fun _ _ _ h => h) (by rfl) ?_ ?_
    rotate_left
    · ((intro u); go_simp; try with_reducible rfl)
    try simp only [Act.put, List.setIfInBounds_toArray, List.set_cons_zero, List.set_cons_succ]
    refine wb_pure (i := 4) (d := some 105) (v := ?_) (by simp only [List.getElem?_toArray, List.getElem?_cons_succ, List.getElem?_cons_zero] <;> rfl) (by rfl) (by kernel_rfl) (by kernel_rfl) (by kernel_rfl) (fun _ _ _ h => h) (by rfl) ?_ ?_
    rotate_left
    · ((intro u); go_simp; try with_reducible rfl)
    try simp only [Act.put, List.setIfInBounds_toArray, List.set_cons_zero, List.set_cons_succ]
    refine wb_pure (i := 5) (d := some 106) (v := ?_) (by simp only [List.getElem?_toArray, List.getElem?_cons_succ, List.getElem?_cons_zero] <;> rfl) (by rfl) (by kernel_rfl) (by kernel_rfl) (by kernel_rfl) (fun _ _ _ h => h) (by rfl) ?_ ?_
    rotate_left
    · ((intro u); go_simp; try with_reducible rfl)
    try simp only [Act.put, List.setIfInBounds_toArray, List.set_cons_zero, List.set_cons_succ]
    refine wb_one (i := 2) (by simp only [List.getElem?_toArray, List.getElem?_cons_succ, List.getElem?_cons_zero] <;> rfl) (by kernel_rfl) (by rfl) (fun K hK => ?_)
    go_simp
    refine (num_part _ _ _ _ _ bd _ (hsub.out _ hS.out) 0 2 (by omega) (by omega) (by omega) hbb.out).mono ?_
    rintro e u2 ⟨rfl, hv2⟩
    refine hK.out _ _ (fun p hp => by cases hp) ?_
    replace hS := Lib.hid (hS.out.below hv2)
    replace hQ := Lib.hid (hQ.out.below hv2)
    clear hK K hv2
    try simp only [Act.put, List.setIfInBounds_toArray, List.set_cons_zero, List.set_cons_succ]
    refine wb_pure (i := 3) (d := some 104) (v := ?_) (by simp only [List.getElem?_toArray, List.getElem?_cons_succ, List.getElem?_cons_zero] <;> rfl) (by rfl) (by kernel_rfl) (by kernel_rfl) (by kernel_rfl) (fun _ _ _ h => h) (by rfl) ?_ ?_
    rotate_left
    · ((intro u); go_simp; try with_reducible rfl)
    try simp only [Act.put, List.setIfInBounds_toArray, List.set_cons_zero, List.set_cons_succ]
    refine wb_pure (i := 8) (d := some 109) (v := ?_) (by simp only [List.getElem?_toArray, List.getElem?_cons_succ, List.getElem?_cons_zero] <;> rfl) (by rfl) (by kernel_rfl) (by kernel_rfl) (by kernel_rfl) (fun _ _ _ h => h) (by rfl) ?_ ?_
    rotate_left
    · ((intro u); go_simp; try with_reducible rfl)
    try simp only [Act.put, List.setIfInBounds_toArray, List.set_cons_zero, List.set_cons_succ]
    refine wb_one (i := 6) (by simp only [List.getElem?_toArray, List.getElem?_cons_succ, List.getElem?_cons_zero] <;> rfl) (by kernel_rfl) (by rfl) (fun K hK => ?_)
    go_simp
    refine (num_part _ _ _ _ _ bd _ (hsub.out _ hS.out) 2 2 (by omega) (by omega) (by omega) hbb.out).mono ?_
    rintro e u6 ⟨rfl, hv6⟩
    refine hK.out _ _ (fun p hp => by cases hp) ?_
    replace hS := Lib.hid (hS.out.below hv6)
    replace hQ := Lib.hid (hQ.out.below hv6)
    clear hK K hv6
    try simp only [Act.put, List.setIfInBounds_toArray, List.set_cons_zero, List.set_cons_succ]
    refine wb_pure (i := 7) (d := some 108) (v := ?_) (by simp only [List.getElem?_toArray, List.getElem?_cons_succ, List.getElem?_cons_zero] <;> rfl) (by rfl) (by kernel_rfl) (by kernel_rfl) (by kernel_rfl) (fun _ _ _ h => h) (by rfl) ?_ ?_
    rotate_left
    · ((intro u); go_simp; try with_reducible rfl)
    try simp only [Act.put, List.setIfInBounds_toArray, List.set_cons_zero, List.set_cons_succ]
    refine wb_one (i := 9) (by simp only [List.getElem?_toArray, List.getElem?_cons_succ, List.getElem?_cons_zero] <;> rfl) (by kernel_rfl) (by rfl) (fun K hK => ?_)
    have f8 := hQ.out.x.free 8
    have c8 := hQ.out.x.cell (i := 8) rfl
    have f9 := hQ.out.x.free 9
    have c9 := hQ.out.x.cell (i := 9) rfl
    go_simp
    refine hK.out _ _ (fun p hp => by cases hp) ?_
    replace hQ := Lib.hid (hQ.out.set (q' := { headQ bs with fp := nb bd 0 2 }) 8 (.int .i64 (nb bd 0 2)) rfl)
    replace hS := Lib.hid (hS.out.setPk hne 8 (.int .i64 (nb bd 0 2)))
    clear hK K f8 c8
    try simp only [Act.put, List.setIfInBounds_toArray, List.set_cons_zero, List.set_cons_succ]
    refine wb_pure (i := 10) (d := some 110) (v := ?_) (by simp only [List.getElem?_toArray, List.getElem?_cons_succ, List.getElem?_cons_zero] <;> rfl) (by rfl) (by kernel_rfl) (by kernel_rfl) (by kernel_rfl) (fun _ _ _ h => h) (by rfl) ?_ ?_
    rotate_left
    · ((intro u); go_simp; try with_reducible rfl)
    try simp only [Act.put, List.setIfInBounds_toArray, List.set_cons_zero, List.set_cons_succ]
    refine wb_one (i := 11) (by simp only [List.getElem?_toArray, List.getElem?_cons_succ, List.getElem?_cons_zero] <;> rfl) (by kernel_rfl) (by rfl) (fun K hK => ?_)
    go_simp
    refine hK.out _ _ (fun p hp => by cases hp) ?_
    replace hQ := Lib.hid (hQ.out.set (q' := { headQ bs with fp := nb bd 0 2, tp := nb bd 2 2 }) 9 (.int .i64 (nb bd 2 2)) rfl)
    replace hS := Lib.hid (hS.out.setPk hne 9 (.int .i64 (nb bd 2 2)))
    clear hK K f9 c9
    try simp only [Act.put, List.setIfInBounds_toArray, List.set_cons_zero, List.set_cons_succ]
    refine wb_done (by kernel_rfl) ?_ _
    go_wp2_with fail
    go_meet
    exact ⟨rfl, hQ, hS⟩
  case rest =>
  clear hQ hS
  obtain ⟨rfl, hQ, hS⟩ := hcut
  rename_i ak
  refine ak _ _ ?_
  exact pr_tail g off n cap (off + kN) bs w pb _ kN m cm 8 6 bd (bd.drop 8) _ hQ.out hS.out hsub.out (by rw [hq1d.out]; exact ok_bodyR hok hbb.out) hne hn2 (by omega) (by omega) (by omega) (by omega) (by omega) hbb.out hbl.out rfl hq1d.out hszP.out hatP.out hR0.out hR1.out _ _ _ _ _ _ _ _ _ _ _ _ _ _ _ _ _ _ _ _ _ _ _ _ _ _ _ _ _ _ _ _ _ _ _ _ _ _ _ _ _ _ _ _ _ _ _ _ _ _ _ _ _ _ _ _ _ _ _ _ _ _ _ _ _ _ _ _ _ _ _ _ _ _ _ _ _ _ _ _ _ _ _ _ _ _ _ _ _ _ _ _ _ _ _ _ _ _ _ _ _ _ _ _ _ _ _ _ _ _ _ _ _ _ _ _ _ _ _ _ _ _ _ _ _ _ _ _ _ _ _ _ _ _ _ _ _ _ _ _ _ _ _ _ _ _ _ _ _ _ _ _ _ _ _ _ _ _ _ _ _

set_option maxHeartbeats 2000000 in
set_option maxRecDepth 100000 in
theorem packetRead_icmp (g off n cap : Nat) (bs : List Nat) (w : World) (hS : SlB w (some ⟨g, off, none⟩) n cap bs) (hn2 : n ≤ 1000) (hb : Byt bs) (hE : headE bs = 0) (hp : (headQ bs).proto = 1) (hk : headN bs + 8 ≤ n) :
    Calls Try.prog 30 #[.slice (some ⟨g, off, none⟩) n cap] w (PRPost bs w) := by
  have hl := hS.len
  have hcap := hS.2.1
  have hgw : g < w.heap.size := (hS.byte 0 (by omega)).2
  have Z1 := Blk.new w zeroP 45
  have hw1 : Below w.heap.size w (w.alloc (.cells #[.bool false, .int .u64 0, .int .u64 0, .bool false, .int .u64 0, .int .u64 0, .int .i64 0, .int .i64 0, .int .i64 0, .int .i64 0, .bool false, .bool false, .bool false, .bool false, .int .i64 0, .int .i64 0, .bool false, .int .i64 0, .slice none 0 0] 45)) := (Below.refl _ _).alloc (Nat.le_refl _) _
  have hS1 := hS.below hw1
  have HH := Lib.hid (headRead_any (some ⟨g, off, none⟩) n cap bs _ hS1 hn2 hb)
  rw [hE] at HH
  have hok := ok_head hb (head_proto hE)
  obtain ⟨kN, hkN⟩ : ∃ kN, kN = headN bs := ⟨_, rfl⟩
  rw [← hkN] at HH hk
  obtain ⟨bd, hbd⟩ : ∃ bd, bd = bs.drop kN := ⟨_, rfl⟩
  have hbb : Byt bd := by rw [hbd]; exact fun b h => hb b (List.mem_of_mem_drop h)
  obtain ⟨m, hm⟩ : ∃ m, m = n - kN := ⟨_, rfl⟩
  obtain ⟨cm, hcm⟩ : ∃ cm, cm = cap - kN := ⟨_, rfl⟩
  have hbl : Hid (m = bd.length) := Lib.hid (by rw [hbd, List.length_drop, hm, hl])
  have hsub : Hid (∀ u, SlB u (some ⟨g, off, none⟩) n cap bs → SlB u (some ⟨g, off + kN, none⟩) m cm bd) := Lib.hid (fun u h => by
    have h1 := h.part kN m cm (by omega) (by omega)
    rwa [← hbd, List.take_of_length_le (by have := hbl.out; omega)] at h1)
  have hR0 : Hid (∀ E, partER (headQ bs) bd bs = E → rdER bs = E) := Lib.hid (fun E h => by unfold rdER; rw [if_neg (fun x => x hE), ← hkN, ← hbd, h])
  have hR1 : Hid (bs.drop (headN bs) = bd) := Lib.hid (by rw [← hkN, hbd])
  replace hl := Lib.hid hl
  replace hE := Lib.hid hE
  replace hkN := Lib.hid hkN
  replace hbd := Lib.hid hbd
  replace hb := Lib.hid hb
  have i1 : (kN : Int) ≤ n := by omega
  have i2 : (kN : Int) ≤ cap := by omega
  have i3 : ¬ cap = kN := by omega
  have i4 : ¬ (m : Int) < 8 := by omega
  have i6 : n - kN = m := hm.symm
  have i7 : 8 ≤ m := by omega
  have i8 : (m : Int) ≤ 1000 := by omega
  have i9 : m ≤ cm := by omega
  have i10 : cap - kN = cm := hcm.symm
  have i11 : (m : Int) ≤ cm := by omega
  have i12 : (8 : Int) ≤ m := by omega
  have i13 : (8 : Int) ≤ cm := by omega
  replace hcm := Lib.hid hcm
  replace hm := Lib.hid hm
  replace hS1 := Lib.hid hS1
  clear hS
  go_enter Try.func30, Try.ntmps30
  go_wp2_with fail
  refine HH.out.mono ?_
  rintro e u0 ⟨q', k, rfl, hv0, hq⟩
  obtain ⟨rfl, rfl⟩ := hq trivial
  have S1 := stPk_run (q := headQ bs) (v := .slice none 0 0) (Blk.new u0 zeroP 45) rfl rfl
  generalize hPV : pkV (headQ bs) (.slice none 0 0) = PV at S1 ⊢
  replace hPV := Lib.hid hPV
  have hlt0 : w.heap.size < u0.heap.size := by have := hv0.size; simp at this; omega
  have hQ : AtQ w u0.heap.size (headQ bs) (.slice none 0 0) ((u0.alloc (.cells #[.bool false, .int .u64 0, .int .u64 0, .bool false, .int .u64 0, .int .u64 0, .int .i64 0, .int .i64 0, .int .i64 0, .int .i64 0, .bool false, .bool false, .bool false, .bool false, .int .i64 0, .int .i64 0, .bool false, .int .i64 0, .slice none 0 0] 45)).setRow u0.heap.size (pkL (headQ bs) (.slice none 0 0)).toArray) :=
    ⟨setRow_heap _ _ _ _ _ _ (Blk.new u0 zeroP 45), (setRow_other _ u0.heap.size w.heap.size _ (by omega)).trans ((Z1.below hv0).alloc _), ((hw1.trans (hv0.mono (by simp))).alloc (by omega) _).trans (gb_toBelow (B := w.heap.size) (row_gb _) (by omega) (by simp)), hlt0⟩
  have hS := ((hS1.out.below hv0).below ((Below.refl _ _).alloc (Nat.le_refl _) (.cells #[.bool false, .int .u64 0, .int .u64 0, .bool false, .int .u64 0, .int .u64 0, .int .i64 0, .int .i64 0, .int .i64 0, .int .i64 0, .bool false, .bool false, .bool false, .bool false, .int .i64 0, .int .i64 0, .bool false, .int .i64 0, .slice none 0 0] 45))).same (w' := (u0.alloc (.cells #[.bool false, .int .u64 0, .int .u64 0, .bool false, .int .u64 0, .int .u64 0, .int .i64 0, .int .i64 0, .int .i64 0, .int .i64 0, .bool false, .bool false, .bool false, .bool false, .int .i64 0, .int .i64 0, .bool false, .int .i64 0, .slice none 0 0] 45)).setRow u0.heap.size (pkL (headQ bs) (.slice none 0 0)).toArray) (by simp [World.setRow]) (fun _ => setRow_other _ u0.heap.size g _ (by omega))
  have hne : g ≠ u0.heap.size := by omega
  have d7 := hQ.x.cell (i := 7) (v := .int .i64 1) (by show some (Value.int .i64 (headQ bs).proto) = _; rw [hp])
  have hp' := Lib.hid hp
  replace hQ := Lib.hid hQ
  replace hS := Lib.hid hS
  clear HH Z1 hw1 hS1 hv0 hq hp
  have c4a : (4 : Int) ≤ cm := by omega
  have c6a : (6 : Int) ≤ cm := by omega
  have c8a : (8 : Int) ≤ cm := by omega
  have z4 : ¬ cm = 4 := by omega
  have z6 : ¬ cm = 6 := by omega
  replace hbb := Lib.hid hbb
  have v42 : IntKind.i64.wrap (nb bd 4 2 : Int) = (nb bd 4 2 : Int) := by have := nb_lt hbb.out 4 2; rw [IntKind.wrap_i64]; omega
  have v62 : IntKind.i64.wrap (nb bd 6 2 : Int) = (nb bd 6 2 : Int) := by have := nb_lt hbb.out 6 2; rw [IntKind.wrap_i64]; omega
  have i18 : (0 : Int) < m := by omega
  have i19 : 0 < m := by omega
  have kx := ((hsub.out _ hS.out).byte 0 (by omega)).1
  rw [Nat.add_zero] at kx
  obtain ⟨x0, hx0⟩ : ∃ x : Int, x = (bd.getD 0 0 : Nat) := ⟨_, rfl⟩
  rw [← hx0] at kx
  obtain ⟨r, hrr⟩ : ∃ r, r = decide (bd.getD 0 0 = 0 ∨ bd.getD 0 0 = 129) := ⟨_, rfl⟩
  replace hrr := Lib.hid hrr
  replace hx0 := Lib.hid hx0
  have hszP : Hid (szP (headQ bs) = 8) := Lib.hid (by unfold szP; rw [if_neg (by rw [hp'.out]; decide)])
  have hatP : Hid (atP (headQ bs) = 2) := Lib.hid (by unfold atP; rw [if_neg (by rw [hp'.out]; decide), if_neg (by rw [hp'.out]; decide)])
  have hq1d : Hid (({ headQ bs with reply := r, id := nb bd 4 2, seq := nb bd 6 2 } : Pk) = rdBodyR (headQ bs) bd) := Lib.hid (by unfold rdBodyR; rw [if_neg (by rw [hp'.out]; decide), if_neg (by rw [hp'.out]; decide), ← hrr.out]; rfl)
  obtain ⟨pb, hpb⟩ : ∃ pb, pb = u0.heap.size := ⟨_, rfl⟩
  go_upto_block 0 with fail
  rw [← hpb] at hQ hS hne hlt0 d7 kx ⊢
  replace hpb := Lib.hid hpb
  go_cut [9] (fun s9 wx => s9 = .int .i64 2 ∧ Hid (AtQ w pb ({ headQ bs with reply := r, id := nb bd 4 2, seq := nb bd 6 2 } : Pk) (.slice none 0 0) wx) ∧ Hid (SlB wx (some ⟨g, off, none⟩) n cap bs))
  case first =>
    clear S1 i1 i2 i3 i4 i6 i10
    have f16 := hQ.out.x.free 16
    have c16 := hQ.out.x.cell (i := 16) rfl
    go_upto_region 12 with fail
    go_cut [] (fun wx => Hid (AtQ w pb ({ headQ bs with reply := r } : Pk) (.slice none 0 0) wx) ∧ Hid (SlB wx (some ⟨g, off, none⟩) n cap bs))
    case first =>
      by_cases h0 : x0 = 0
      · have hxe := h0
        have hx00 : (x0 == 0) = true := by simp [h0]
        replace h0 := Lib.hid h0
        have hrv := Lib.hid (show r = true by rw [hrr.out]; apply decide_eq_true; left; have := hx0.out; have := h0.out; omega)
        replace hxe := Lib.hid hxe
        go_wp2_with fail
        go_meet
        exact ⟨by rw [hrv.out]; exact Lib.hid (hQ.out.set (q' := { headQ bs with reply := true }) 16 (.bool true) rfl), Lib.hid (hS.out.setPk hne 16 (.bool true))⟩
      · have hx00 : (x0 == 0) = false := by simp [h0]
        by_cases h9 : x0 = 129
        · have hxe := h9
          have hx99 : (x0 == 129) = true := by simp [h9]
          replace h0 := Lib.hid h0
          replace h9 := Lib.hid h9
          have hrv := Lib.hid (show r = true by rw [hrr.out]; apply decide_eq_true; right; have := hx0.out; have := h9.out; omega)
          replace hxe := Lib.hid hxe
          go_wp2_with fail
          go_meet
          exact ⟨by rw [hrv.out]; exact Lib.hid (hQ.out.set (q' := { headQ bs with reply := true }) 16 (.bool true) rfl), Lib.hid (hS.out.setPk hne 16 (.bool true))⟩
        · have hxe := h9
          have hx99 : (x0 == 129) = false := by simp [h9]
          replace h0 := Lib.hid h0
          replace h9 := Lib.hid h9
          have hrv := Lib.hid (show r = false by rw [hrr.out]; apply decide_eq_false; rintro (h | h); exact h0.out (by have := hx0.out; omega); exact h9.out (by have := hx0.out; omega))
          replace hxe := Lib.hid hxe
          go_wp2_with fail
          go_meet
          exact ⟨by rw [hrv.out]; exact Lib.hid (hQ.out.set (q' := { headQ bs with reply := false }) 16 (.bool false) rfl), Lib.hid (hS.out.setPk hne 16 (.bool false))⟩
    case rest =>
    clear hQ hS kx f16 c16
    obtain ⟨hQ, hS⟩ := hcut
    go_wp2_with fail
    refine wb_begin ([]) [] (by kernel_rfl) (fun u0 hb0' hz0' => ?_)
    replace hS := Lib.hid (hS.out.below hb0')
    replace hQ := Lib.hid (hQ.out.below hb0')
    clear hb0' hz0'
    refine wb_pure (i := 0) (d := some 48) (v := ?_) (by simp only [List.getElem?_toArray, List.getElem?_cons_succ, List.getElem?_cons_zero] <;> rfl) (by rfl) (by kernel_rfl) (by kernel_rfl) (by kernel_rfl) (fun _ _ _ h => h) (by rfl) ?_ ?_
    rotate_left
    · ((intro u); go_simp; try with_reducible rfl)
    try simp only [Act.put, List.setIfInBounds_toArray, List.set_cons_zero, List.set_cons_succ]
    refine wb_pure (i := 1) (d := some 49) (v := ?_) (by simp only [List.getElem?_toArray, List.getElem?_cons_succ, List.getElem?_cons_zero] <;> rfl) (by rfl) (by kernel_rfl) (by kernel_rfl) (by kernel_rfl) (fun _ _ _ h => h) (by rfl) ?_ ?_
    rotate_left
    · ((intro u); go_simp; try with_reducible rfl)
    try simp only [Act.put, List.setIfInBounds_toArray, List.set_cons_zero, List.set_cons_succ]
    refine wb_pure (i := 4) (d := some 52) (v := ?_) (by simp only [List.getElem?_toArray, List.getElem?_cons_succ, List.getElem?_cons_zero] <;> rfl) (by rfl) (by kernel_rfl) (by kernel_rfl) (by kernel_rfl) (fun _ _ _ h => h) (by rfl) ?_ ?_
    rotate_left
    · ((intro u); go_simp; try with_reducible rfl)
    try simp only [Act.put, List.setIfInBounds_toArray, List.set_cons_zero, List.set_cons_succ]
    refine wb_pure (i := 5) (d := some 53) (v := ?_) (by simp only [List.getElem?_toArray, List.getElem?_cons_succ, List.getElem?_cons_zero] <;> rfl) (by rfl) (by kernel_rfl) (by kernel_rfl) (by kernel_rfl) (fun _ _ _ h => h) (by rfl) ?_ ?_
    rotate_left
    · ((intro u); go_simp; try with_reducible rfl)
    try simp only [Act.put, List.setIfInBounds_toArray, List.set_cons_zero, List.set_cons_succ]
    refine wb_one (i := 2) (by simp only [List.getElem?_toArray, List.getElem?_cons_succ, List.getElem?_cons_zero] <;> rfl) (by kernel_rfl) (by rfl) (fun K hK => ?_)
    go_simp
    refine (num_part _ _ _ _ _ bd _ (hsub.out _ hS.out) 4 2 (by omega) (by omega) (by omega) hbb.out).mono ?_
    rintro e u2 ⟨rfl, hv2⟩
    refine hK.out _ _ (fun p hp => by cases hp) ?_
    replace hS := Lib.hid (hS.out.below hv2)
    replace hQ := Lib.hid (hQ.out.below hv2)
    clear hK K hv2
    try simp only [Act.put, List.setIfInBounds_toArray, List.set_cons_zero, List.set_cons_succ]
    refine wb_pure (i := 3) (d := some 51) (v := ?_) (by simp only [List.getElem?_toArray, List.getElem?_cons_succ, List.getElem?_cons_zero] <;> rfl) (by rfl) (by kernel_rfl) (by kernel_rfl) (by kernel_rfl) (fun _ _ _ h => h) (by rfl) ?_ ?_
    rotate_left
    · ((intro u); go_simp; try with_reducible rfl)
    try simp only [Act.put, List.setIfInBounds_toArray, List.set_cons_zero, List.set_cons_succ]
    refine wb_pure (i := 8) (d := some 56) (v := ?_) (by simp only [List.getElem?_toArray, List.getElem?_cons_succ, List.getElem?_cons_zero] <;> rfl) (by rfl) (by kernel_rfl) (by kernel_rfl) (by kernel_rfl) (fun _ _ _ h => h) (by rfl) ?_ ?_
    rotate_left
    · ((intro u); go_simp; try with_reducible rfl)
    try simp only [Act.put, List.setIfInBounds_toArray, List.set_cons_zero, List.set_cons_succ]
    refine wb_one (i := 6) (by simp only [List.getElem?_toArray, List.getElem?_cons_succ, List.getElem?_cons_zero] <;> rfl) (by kernel_rfl) (by rfl) (fun K hK => ?_)
    go_simp
    refine (num_part _ _ _ _ _ bd _ (hsub.out _ hS.out) 6 2 (by omega) (by omega) (by omega) hbb.out).mono ?_
    rintro e u6 ⟨rfl, hv6⟩
    refine hK.out _ _ (fun p hp => by cases hp) ?_
    replace hS := Lib.hid (hS.out.below hv6)
    replace hQ := Lib.hid (hQ.out.below hv6)
    clear hK K hv6
    try simp only [Act.put, List.setIfInBounds_toArray, List.set_cons_zero, List.set_cons_succ]
    refine wb_pure (i := 7) (d := some 55) (v := ?_) (by simp only [List.getElem?_toArray, List.getElem?_cons_succ, List.getElem?_cons_zero] <;> rfl) (by rfl) (by kernel_rfl) (by kernel_rfl) (by kernel_rfl) (fun _ _ _ h => h) (by rfl) ?_ ?_
    rotate_left
    · ((intro u); go_simp; try with_reducible rfl)
    try simp only [Act.put, List.setIfInBounds_toArray, List.set_cons_zero, List.set_cons_succ]
    refine wb_one (i := 9) (by simp only [List.getElem?_toArray, List.getElem?_cons_succ, List.getElem?_cons_zero] <;> rfl) (by kernel_rfl) (by rfl) (fun K hK => ?_)
    have f17 := hQ.out.x.free 17
    have c17 := hQ.out.x.cell (i := 17) rfl
    have f14 := hQ.out.x.free 14
    have c14 := hQ.out.x.cell (i := 14) rfl
    go_simp
    refine hK.out _ _ (fun p hp => by cases hp) ?_
    replace hQ := Lib.hid (hQ.out.set (q' := { headQ bs with reply := r, id := nb bd 4 2 }) 17 (.int .i64 (nb bd 4 2)) rfl)
    replace hS := Lib.hid (hS.out.setPk hne 17 (.int .i64 (nb bd 4 2)))
    clear hK K f17 c17
    try simp only [Act.put, List.setIfInBounds_toArray, List.set_cons_zero, List.set_cons_succ]
    refine wb_pure (i := 10) (d := some 57) (v := ?_) (by simp only [List.getElem?_toArray, List.getElem?_cons_succ, List.getElem?_cons_zero] <;> rfl) (by rfl) (by kernel_rfl) (by kernel_rfl) (by kernel_rfl) (fun _ _ _ h => h) (by rfl) ?_ ?_
    rotate_left
    · ((intro u); go_simp; try with_reducible rfl)
    try simp only [Act.put, List.setIfInBounds_toArray, List.set_cons_zero, List.set_cons_succ]
    refine wb_one (i := 11) (by simp only [List.getElem?_toArray, List.getElem?_cons_succ, List.getElem?_cons_zero] <;> rfl) (by kernel_rfl) (by rfl) (fun K hK => ?_)
    go_simp
    refine hK.out _ _ (fun p hp => by cases hp) ?_
    replace hQ := Lib.hid (hQ.out.set (q' := { headQ bs with reply := r, id := nb bd 4 2, seq := nb bd 6 2 }) 14 (.int .i64 (nb bd 6 2)) rfl)
    replace hS := Lib.hid (hS.out.setPk hne 14 (.int .i64 (nb bd 6 2)))
    clear hK K f14 c14
    try simp only [Act.put, List.setIfInBounds_toArray, List.set_cons_zero, List.set_cons_succ]
    refine wb_done (by kernel_rfl) ?_ _
    go_wp2_with fail
    go_meet
    exact ⟨rfl, hQ, hS⟩
  case rest =>
  clear hQ hS
  obtain ⟨rfl, hQ, hS⟩ := hcut
  rename_i ak
  refine ak _ _ ?_
  exact pr_tail g off n cap (off + kN) bs w pb _ kN m cm 8 2 bd (bd.drop 8) _ hQ.out hS.out hsub.out (by rw [hq1d.out]; exact ok_bodyR hok hbb.out) hne hn2 (by omega) (by omega) (by omega) (by omega) (by omega) hbb.out hbl.out rfl hq1d.out hszP.out hatP.out hR0.out hR1.out _ _ _ _ _ _ _ _ _ _ _ _ _ _ _ _ _ _ _ _ _ _ _ _ _ _ _ _ _ _ _ _ _ _ _ _ _ _ _ _ _ _ _ _ _ _ _ _ _ _ _ _ _ _ _ _ _ _ _ _ _ _ _ _ _ _ _ _ _ _ _ _ _ _ _ _ _ _ _ _ _ _ _ _ _ _ _ _ _ _ _ _ _ _ _ _ _ _ _ _ _ _ _ _ _ _ _ _ _ _ _ _ _ _ _ _ _ _ _ _ _ _ _ _ _ _ _ _ _ _ _ _ _ _ _ _ _ _ _ _ _ _ _ _ _ _ _ _ _ _ _ _ _ _ _ _ _ _ _ _ _
end Go.Proofs.Ytigbbpgfblnboaa
