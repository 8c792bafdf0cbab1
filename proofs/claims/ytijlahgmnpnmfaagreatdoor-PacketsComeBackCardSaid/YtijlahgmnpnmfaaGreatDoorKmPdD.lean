/- Packets that are read: ports, and what the protocols tell. -/
import Derived.Test.YtijlahgmnpnmfaaGreatDoorKmPdC
namespace Go.Proofs.YtijlahgmnpnmfaaGreatDoor
open Go.RowKit
set_option linter.unusedVariables false
set_option linter.unusedSimpArgs false

theorem int_part (g off n cap c : Nat) (bs : List Nat) (w : World) (hS : SlB w (some ⟨g, off, none⟩) n cap bs) (i k : Nat) (hk : i + k ≤ n) (hk4 : k ≤ 4) (hc : k ≤ c) (hb : Byt bs) :
    Calls Tryz.prog 41 #[.slice (some ⟨g, off + i, none⟩) k c] w fun e w' => e = .returned (.int .i64 (nb bs i k)) ∧ Below w.heap.size w w' :=
  intOf_any _ k c _ w (hS.part i k c hk hc) hk4 (hb.sub i k)
/-- A box. -/
structure Bx (w : World) (B : Nat) (x : Value) (t : TypeId) : Prop where
  blk : Blk w B [x] t
theorem Bx.below {w w' : World} {B : Nat} {x : Value} {t : TypeId} (h : Bx w B x t) (hb : Below w.heap.size w w') : Bx w' B x t := ⟨h.blk.below hb⟩
theorem Bx.other {w : World} {B : Nat} {x : Value} {t : TypeId} (h : Bx w B x t) {a : Addr} (ha : B ≠ a.block) (v : Value) : Bx (w.setCell a v) B x t := ⟨h.blk.other ha v⟩
theorem Bx.rdp {w w' : World} {B pb : Nat} {x : Value} {t : TypeId} {q : Pk} {v : Value} (h : Bx w B x t) (hr : RdP w pb q v w') (hne : B ≠ pb) : Bx w' B x t := ⟨(hr.gb.block B h.blk.lt (by intro e; cases e; exact hne rfl)).trans h.blk⟩
theorem SlB.setPk {w : World} {g off n cap pb : Nat} {bs : List Nat} (h : SlB w (some ⟨g, off, none⟩) n cap bs) (hne : g ≠ pb) (i : Nat) (x : Value) : SlB (w.setCell ⟨pb, i, none⟩ x) (some ⟨g, off, none⟩) n cap bs :=
  h.same (by simp [World.setCell]) fun _ => Below.heap_setCell _ _ _ _ hne
/-- A byte of a slice. -/
theorem SlB.byte {w : World} {g off n cap : Nat} {bs : List Nat} (h : SlB w (some ⟨g, off, none⟩) n cap bs) (i : Nat) (hi : i < n) : w.cell? ⟨g, off + i, none⟩ = some (.int .u8 (bs.getD i 0 : Nat)) ∧ g < w.heap.size := by
  have hl := h.len
  rcases h.2.2 with h0 | ⟨g', off', hA, hg, hc⟩
  · omega
  · cases hA
    have hx : bs[i]? = some (bs.getD i 0) := by rw [List.getD_eq_getElem?_getD, List.getElem?_eq_getElem (by omega)]; rfl
    exact ⟨hc i _ (bV_get hx), hg⟩
theorem Kb.cellB {r : List Nat} {x y : World} (h : Kb r x y) {p o : Nat} {v : Value} (hp : p ∈ r) (hc : x.cell? ⟨p, o, none⟩ = some v) : y.cell? ⟨p, o, none⟩ = some v := by
  rw [World.cell?_of_block (w := x) (h p hp)]; exact hc

theorem land_bit (x k : Nat) : x &&& 2 ^ k = if x / 2 ^ k % 2 = 1 then 2 ^ k else 0 := by
  have hb : x.testBit k = decide (x / 2 ^ k % 2 = 1) := Nat.testBit_eq_decide_div_mod_eq
  apply Nat.eq_of_testBit_eq
  intro i
  rw [Nat.testBit_and, Nat.testBit_two_pow]
  by_cases hi : k = i
  · subst hi
    by_cases h : x / 2 ^ k % 2 = 1
    · rw [if_pos h, hb, Nat.testBit_two_pow]; simp [h]
    · rw [if_neg h, hb]; simp [h]
  · by_cases h : x / 2 ^ k % 2 = 1
    · rw [if_pos h, Nat.testBit_two_pow]; simp [hi]
    · rw [if_neg h]; simp [hi]
theorem and_bit (x k : Nat) (hx : x < 256) (hk : k < 8) : bits .and .u8 (x : Int) ((2 ^ k : Nat) : Int) = ((if x / 2 ^ k % 2 = 1 then 2 ^ k else 0 : Nat) : Int) := by
  have hp : 2 ^ k < 256 := by
    have := Nat.pow_lt_pow_right (a := 2) (by decide) hk
    omega
  have hl := land_bit x k
  generalize 2 ^ k = P at hp hl ⊢
  have e1 : (BitVec.ofInt 8 (x : Int)).toNat = x := by rw [BitVec.toNat_ofInt]; omega
  have e2 : (BitVec.ofInt 8 (P : Int)).toNat = P := by rw [BitVec.toNat_ofInt]; omega
  show IntKind.u8.wrap ((BitVec.ofInt 8 (x : Int) &&& BitVec.ofInt 8 (P : Int)).toNat : Nat) = _
  rw [BitVec.toNat_and, e1, e2, hl, IntKind.wrap_u8]
  by_cases h : x / P % 2 = 1
  · rw [if_pos h]; omega
  · rw [if_neg h]; omega
set_option maxHeartbeats 2000000 in
theorem has_any (g off n cap B : Nat) (bs : List Nat) (w : World) (hS : SlB w (some ⟨g, off, none⟩) n cap bs) (hn : 14 ≤ n) (hb : Byt bs) (hB : w.cell? ⟨B, 0, none⟩ = some (.slice (some ⟨g, off, none⟩) n cap)) (k : Nat) (hk : k < 8) (bit : Int) (hbit : bit = ((2 ^ k : Nat) : Int)) (r : Bool) (hr : r = decide (bs.getD 13 0 / 2 ^ k % 2 = 1)) :
    Calls Tryz.prog 118 #[.int .u8 bit, .pointer (some ⟨B, 0, none⟩)] w fun e w' => e = .returned (.bool r) ∧ w = w' := by
  obtain ⟨c13, hg⟩ := hS.byte 13 (by omega)
  have ha := and_bit (bs.getD 13 0) k (hb.getD 13) hk
  have hn' : (14 : Int) ≤ n := by omega
  rw [← hbit] at ha
  have hp : 0 < 2 ^ k := Nat.pow_pos (by decide)
  obtain ⟨y, hy⟩ : ∃ y : Int, y = bits .and .u8 (bs.getD 13 0 : Nat) bit := ⟨_, rfl⟩
  rw [← hy] at ha
  have hr2 : (y != 0) = r := by
    rw [ha, hr]
    by_cases h : bs.getD 13 0 / 2 ^ k % 2 = 1
    · rw [if_pos h, decide_eq_true h]; generalize 2 ^ k = P at hp; simp; omega
    · rw [if_neg h, decide_eq_false h]; rfl
  clear ha hr hbit hp hS hb
  generalize (bs.getD 13 0 : Nat) = x at c13 hy
  replace hy := Lib.hid hy.symm
  have hy2 := hy.out
  go_enter Tryz.func118, Tryz.ntmps118
  cases r
  · go_wp2_with fail
    go_ret
    exact ⟨rfl, rfl⟩
  · go_wp2_with fail
    go_ret
    exact ⟨rfl, rfl⟩

set_option maxHeartbeats 2000000 in
set_option maxRecDepth 100000 in
theorem readPorts_any (q : Pk) (v : Value) (pb g off n cap : Nat) (bs : List Nat) (w : World) (hX : Blk w pb (pkL q v) 31) (hS : SlB w (some ⟨g, off, none⟩) n cap bs) (hne : g ≠ pb) (hn : 4 ≤ n) (hb : Byt bs) :
    Calls Tryz.prog 117 #[.slice (some ⟨g, off, none⟩) n cap, .pointer (some ⟨pb, 0, none⟩)] w fun e w' => e = .returned (.tuple #[]) ∧ RdP w pb { q with fp := nb bs 0 2, tp := nb bs 2 2 } v w' := by
  have hcap := hS.2.1
  have h2 : (2 : Int) ≤ cap := by omega
  have h4 : (4 : Int) ≤ cap := by omega
  have hn2 : ¬ cap = 2 := by omega
  replace hX := Lib.hid (RdP.refl hX)
  replace hS := Lib.hid hS
  replace hb := Lib.hid hb
  go_enter Tryz.func117, Tryz.ntmps117
  go_wp2_with fail
  refine wb_begin ([]) [] (by kernel_rfl) (fun u0 hb0' hz0' => ?_)
  replace hS := Lib.hid (hS.out.below hb0')
  replace hX := Lib.hid (hX.out.below hb0')
  clear hb0' hz0'
  refine wb_pure (i := 0) (d := some 4) (v := ?_) (by simp only [List.getElem?_toArray, List.getElem?_cons_succ, List.getElem?_cons_zero] <;> rfl) (by rfl) (by kernel_rfl) (by kernel_rfl) (by kernel_rfl) (fun _ _ _ h => h) (by rfl) ?_ ?_
  rotate_left
  · ((intro u); go_simp; try with_reducible rfl)
  try simp only [Act.put, List.setIfInBounds_toArray, List.set_cons_zero, List.set_cons_succ]
  refine wb_pure (i := 1) (d := some 5) (v := ?_) (by simp only [List.getElem?_toArray, List.getElem?_cons_succ, List.getElem?_cons_zero] <;> rfl) (by rfl) (by kernel_rfl) (by kernel_rfl) (by kernel_rfl) (fun _ _ _ h => h) (by rfl) ?_ ?_
  rotate_left
  · ((intro u); go_simp; try with_reducible rfl)
  try simp only [Act.put, List.setIfInBounds_toArray, List.set_cons_zero, List.set_cons_succ]
  refine wb_pure (i := 2) (d := some 6) (v := ?_) (by simp only [List.getElem?_toArray, List.getElem?_cons_succ, List.getElem?_cons_zero] <;> rfl) (by rfl) (by kernel_rfl) (by kernel_rfl) (by kernel_rfl) (fun _ _ _ h => h) (by rfl) ?_ ?_
  rotate_left
  · ((intro u); go_simp; try with_reducible rfl)
  try simp only [Act.put, List.setIfInBounds_toArray, List.set_cons_zero, List.set_cons_succ]
  refine wb_pure (i := 3) (d := some 7) (v := ?_) (by simp only [List.getElem?_toArray, List.getElem?_cons_succ, List.getElem?_cons_zero] <;> rfl) (by rfl) (by kernel_rfl) (by kernel_rfl) (by kernel_rfl) (fun _ _ _ h => h) (by rfl) ?_ ?_
  rotate_left
  · ((intro u); go_simp; try with_reducible rfl)
  try simp only [Act.put, List.setIfInBounds_toArray, List.set_cons_zero, List.set_cons_succ]
  refine wb_pure (i := 5) (d := some 9) (v := ?_) (by simp only [List.getElem?_toArray, List.getElem?_cons_succ, List.getElem?_cons_zero] <;> rfl) (by rfl) (by kernel_rfl) (by kernel_rfl) (by kernel_rfl) (fun _ _ _ h => h) (by rfl) ?_ ?_
  rotate_left
  · ((intro u); go_simp; try with_reducible rfl)
  try simp only [Act.put, List.setIfInBounds_toArray, List.set_cons_zero, List.set_cons_succ]
  refine wb_pure (i := 6) (d := some 10) (v := ?_) (by simp only [List.getElem?_toArray, List.getElem?_cons_succ, List.getElem?_cons_zero] <;> rfl) (by rfl) (by kernel_rfl) (by kernel_rfl) (by kernel_rfl) (fun _ _ _ h => h) (by rfl) ?_ ?_
  rotate_left
  · ((intro u); go_simp; try with_reducible rfl)
  try simp only [Act.put, List.setIfInBounds_toArray, List.set_cons_zero, List.set_cons_succ]
  refine wb_one (i := 4) (by simp only [List.getElem?_toArray, List.getElem?_cons_succ, List.getElem?_cons_zero] <;> rfl) (by kernel_rfl) (by rfl) (fun K hK => ?_)
  go_simp
  refine (int_part _ _ _ _ _ bs _ hS.out 0 2 (by omega) (by omega) (by omega) hb.out).mono ?_
  rintro e u4 ⟨rfl, hv4⟩
  refine hK.out _ _ (fun p hp => by cases hp) ?_
  replace hS := Lib.hid (hS.out.below hv4)
  replace hX := Lib.hid (hX.out.below hv4)
  clear hK K hv4
  try simp only [Act.put, List.setIfInBounds_toArray, List.set_cons_zero, List.set_cons_succ]
  refine wb_one (i := 7) (by simp only [List.getElem?_toArray, List.getElem?_cons_succ, List.getElem?_cons_zero] <;> rfl) (by kernel_rfl) (by rfl) (fun K hK => ?_)
  go_simp
  refine (int_part _ _ _ _ _ bs _ hS.out 2 2 (by omega) (by omega) (by omega) hb.out).mono ?_
  rintro e u7 ⟨rfl, hv7⟩
  refine hK.out _ _ (fun p hp => by cases hp) ?_
  replace hS := Lib.hid (hS.out.below hv7)
  replace hX := Lib.hid (hX.out.below hv7)
  clear hK K hv7
  try simp only [Act.put, List.setIfInBounds_toArray, List.set_cons_zero, List.set_cons_succ]
  refine wb_pure (i := 8) (d := some 12) (v := ?_) (by simp only [List.getElem?_toArray, List.getElem?_cons_succ, List.getElem?_cons_zero] <;> rfl) (by rfl) (by kernel_rfl) (by kernel_rfl) (by kernel_rfl) (fun _ _ _ h => h) (by rfl) ?_ ?_
  rotate_left
  · ((intro u); go_simp; try with_reducible rfl)
  try simp only [Act.put, List.setIfInBounds_toArray, List.set_cons_zero, List.set_cons_succ]
  refine wb_pure (i := 9) (d := some 13) (v := ?_) (by simp only [List.getElem?_toArray, List.getElem?_cons_succ, List.getElem?_cons_zero] <;> rfl) (by rfl) (by kernel_rfl) (by kernel_rfl) (by kernel_rfl) (fun _ _ _ h => h) (by rfl) ?_ ?_
  rotate_left
  · ((intro u); go_simp; try with_reducible rfl)
  try simp only [Act.put, List.setIfInBounds_toArray, List.set_cons_zero, List.set_cons_succ]
  refine wb_one (i := 10) (by simp only [List.getElem?_toArray, List.getElem?_cons_succ, List.getElem?_cons_zero] <;> rfl) (by kernel_rfl) (by rfl) (fun K hK => ?_)
  have f8 := hX.out.blk.free 8
  have c8 := hX.out.blk.cell (i := 8) rfl
  go_simp
  refine hK.out _ _ (fun p hp => by cases hp) ?_
  replace hX := Lib.hid (hX.out.set (q' := { q with fp := nb bs 0 2 }) 8 (.int .i64 (nb bs 0 2)) rfl)
  replace hS := Lib.hid (hS.out.setPk hne 8 (.int .i64 (nb bs 0 2)))
  clear hK K f8 c8
  try simp only [Act.put, List.setIfInBounds_toArray, List.set_cons_zero, List.set_cons_succ]
  refine wb_pure (i := 11) (d := some 14) (v := ?_) (by simp only [List.getElem?_toArray, List.getElem?_cons_succ, List.getElem?_cons_zero] <;> rfl) (by rfl) (by kernel_rfl) (by kernel_rfl) (by kernel_rfl) (fun _ _ _ h => h) (by rfl) ?_ ?_
  rotate_left
  · ((intro u); go_simp; try with_reducible rfl)
  try simp only [Act.put, List.setIfInBounds_toArray, List.set_cons_zero, List.set_cons_succ]
  refine wb_pure (i := 12) (d := some 15) (v := ?_) (by simp only [List.getElem?_toArray, List.getElem?_cons_succ, List.getElem?_cons_zero] <;> rfl) (by rfl) (by kernel_rfl) (by kernel_rfl) (by kernel_rfl) (fun _ _ _ h => h) (by rfl) ?_ ?_
  rotate_left
  · ((intro u); go_simp; try with_reducible rfl)
  try simp only [Act.put, List.setIfInBounds_toArray, List.set_cons_zero, List.set_cons_succ]
  refine wb_one (i := 13) (by simp only [List.getElem?_toArray, List.getElem?_cons_succ, List.getElem?_cons_zero] <;> rfl) (by kernel_rfl) (by rfl) (fun K hK => ?_)
  have f9 := hX.out.blk.free 9
  have c9 := hX.out.blk.cell (i := 9) rfl
  go_simp
  refine hK.out _ _ (fun p hp => by cases hp) ?_
  replace hX := Lib.hid (hX.out.set (q' := { q with fp := nb bs 0 2, tp := nb bs 2 2 }) 9 (.int .i64 (nb bs 2 2)) rfl)
  replace hS := Lib.hid (hS.out.setPk hne 9 (.int .i64 (nb bs 2 2)))
  clear hK K f9 c9
  try simp only [Act.put, List.setIfInBounds_toArray, List.set_cons_zero, List.set_cons_succ]
  refine wb_done (by kernel_rfl) ?_ _
  go_wp2_with fail
  go_end0
  exact ⟨rfl, hX.out⟩
set_option maxHeartbeats 2000000 in
set_option maxRecDepth 100000 in
theorem readUdp_any (q : Pk) (v : Value) (pb g off n cap : Nat) (bs : List Nat) (w : World) (hX : Blk w pb (pkL q v) 31) (hS : SlB w (some ⟨g, off, none⟩) n cap bs) (hne : g ≠ pb) (hn : 8 ≤ n) (hb : Byt bs) :
    Calls Tryz.prog 61 #[.slice (some ⟨g, off, none⟩) n cap, .pointer (some ⟨pb, 0, none⟩)] w fun e w' => e = .returned (.tuple #[]) ∧ RdP w pb (rdUdp q bs) v w' := by
  have HP := Lib.hid (readPorts_any q v pb g off n cap bs w hX hS hne (by omega) hb)
  clear hX hS hb
  go_enter Tryz.func61, Tryz.ntmps61
  go_wp2_with fail
  refine HP.out.mono ?_
  rintro e w1 ⟨rfl, h1⟩
  replace h1 := Lib.hid h1
  clear HP
  go_wp2_with fail
  go_end0
  exact ⟨rfl, h1.out⟩
set_option maxHeartbeats 2000000 in
set_option maxRecDepth 100000 in
theorem readIcmp_any (q : Pk) (v : Value) (pb g off n cap : Nat) (bs : List Nat) (w : World) (hX : Blk w pb (pkL q v) 31) (hS : SlB w (some ⟨g, off, none⟩) n cap bs) (hne : g ≠ pb) (hn : 8 ≤ n) (hb : Byt bs) :
    Calls Tryz.prog 63 #[.slice (some ⟨g, off, none⟩) n cap, .pointer (some ⟨pb, 0, none⟩)] w fun e w' => e = .returned (.tuple #[]) ∧ RdP w pb (rdIcmp q bs (decide (bs.getD 0 0 = kindN q.fs true))) v w' := by
  have hcap := hS.2.1
  have h6 : (6 : Int) ≤ cap := by omega
  have h8 : (8 : Int) ≤ cap := by omega
  have hn4 : ¬ cap = 4 := by omega
  have hn6 : ¬ cap = 6 := by omega
  have hn1 : (0 : Int) < n := by omega
  obtain ⟨c0', hgl⟩ := hS.byte 0 (by omega)
  have c0 : w.cell? ⟨g, off, none⟩ = some (.int .u8 (bs.getD 0 0 : Nat)) := c0'
  clear c0'
  obtain ⟨r, hr⟩ : ∃ r, r = decide (bs.getD 0 0 = kindN q.fs true) := ⟨_, rfl⟩
  rw [← hr]
  obtain ⟨x, hx⟩ : ∃ x : Int, x = (bs.getD 0 0 : Nat) := ⟨_, rfl⟩
  rw [← hx] at c0
  have HK0 := fun w' => kind_any q.fs true w'
  obtain ⟨KN, hKN⟩ : ∃ KN : Int, KN = ((kindN q.fs true : Nat) : Int) := ⟨_, rfl⟩
  have HK : Hid (∀ w', Calls Tryz.prog 119 #[.bool q.fs, .bool true] w' fun e w'' => e = .returned (.int .u8 KN) ∧ w' = w'') := Lib.hid (by rw [hKN]; exact HK0)
  clear HK0
  replace hr := Lib.hid (show (x == KN) = r by rw [hr, hx, hKN]; apply Bool.eq_iff_iff.2; simp; omega)
  clear hx hKN
  have hn0 : 0 < n := by omega
  replace hX := Lib.hid (RdP.refl hX)
  replace hS := Lib.hid hS
  replace hb := Lib.hid hb
  unfold rdIcmp
  go_enter Tryz.func63, Tryz.ntmps63
  go_wp2_with fail
  refine wb_begin ([pb, g]) [13] (by kernel_rfl) (fun u0 hb0' hz0' => ?_)
  replace hS := Lib.hid (hS.out.below hb0')
  replace hX := Lib.hid (hX.out.below hb0')
  replace c0 := (hb0'.cell (p := ⟨g, off, none⟩) hgl).trans c0
  clear hb0' hz0'
  have hr2 := hr.out
  refine wb_pure (i := 0) (d := some 4) (v := ?_) (by simp only [List.getElem?_toArray, List.getElem?_cons_succ, List.getElem?_cons_zero] <;> rfl) (by rfl) (by kernel_rfl) (by kernel_rfl) (by kernel_rfl) (fun _ _ _ h => h) (by rfl) ?_ ?_
  rotate_left
  · ((intro u); go_simp; try with_reducible rfl)
  try simp only [Act.put, List.setIfInBounds_toArray, List.set_cons_zero, List.set_cons_succ]
  refine wb_pure (i := 1) (d := some 5) (v := ?_) (by simp only [List.getElem?_toArray, List.getElem?_cons_succ, List.getElem?_cons_zero] <;> rfl) (by rfl) (by kernel_rfl) (by kernel_rfl) (by kernel_rfl) (fun _ _ _ h => h) (by rfl) ?_ ?_
  rotate_left
  · ((intro u); go_simp; try with_reducible rfl)
  try simp only [Act.put, List.setIfInBounds_toArray, List.set_cons_zero, List.set_cons_succ]
  refine wb_pure (i := 2) (d := some 6) (v := ?_) (by simp only [List.getElem?_toArray, List.getElem?_cons_succ, List.getElem?_cons_zero] <;> rfl) (by rfl) (by kernel_rfl) (by kernel_rfl) (by kernel_rfl) (fun _ _ _ h => h) (by rfl) ?_ ?_
  rotate_left
  · ((intro u); go_simp; try with_reducible rfl)
  try simp only [Act.put, List.setIfInBounds_toArray, List.set_cons_zero, List.set_cons_succ]
  refine wb_take (i := 3) (d := some 7) (v := ?_) (by simp only [List.getElem?_toArray, List.getElem?_cons_succ, List.getElem?_cons_zero] <;> rfl) (by rfl) (by kernel_rfl) (by kernel_rfl) (by kernel_rfl) (fun _ _ _ h => h) (by rfl) (by kernel_rfl) ?_ ?_
  rotate_left
  · ((intro u hu); have k0 := (hX.out.blk.kb hu (by simp)).cell (i := 0) (v := .bool q.fs) rfl; have k1 : u.cell? ⟨g, off, none⟩ = some (.int .u8 x) := (Kb.cellB hu (by simp) c0); go_simp; try with_reducible rfl)
  try simp only [Act.put, List.setIfInBounds_toArray, List.set_cons_zero, List.set_cons_succ]
  refine wb_pure (i := 4) (d := some 8) (v := ?_) (by simp only [List.getElem?_toArray, List.getElem?_cons_succ, List.getElem?_cons_zero] <;> rfl) (by rfl) (by kernel_rfl) (by kernel_rfl) (by kernel_rfl) (fun _ _ _ h => h) (by rfl) ?_ ?_
  rotate_left
  · ((intro u); go_simp; try with_reducible rfl)
  try simp only [Act.put, List.setIfInBounds_toArray, List.set_cons_zero, List.set_cons_succ]
  refine wb_pure (i := 5) (d := some 9) (v := ?_) (by simp only [List.getElem?_toArray, List.getElem?_cons_succ, List.getElem?_cons_zero] <;> rfl) (by rfl) (by kernel_rfl) (by kernel_rfl) (by kernel_rfl) (fun _ _ _ h => h) (by rfl) ?_ ?_
  rotate_left
  · ((intro u); go_simp; try with_reducible rfl)
  try simp only [Act.put, List.setIfInBounds_toArray, List.set_cons_zero, List.set_cons_succ]
  refine wb_pure (i := 6) (d := some 10) (v := ?_) (by simp only [List.getElem?_toArray, List.getElem?_cons_succ, List.getElem?_cons_zero] <;> rfl) (by rfl) (by kernel_rfl) (by kernel_rfl) (by kernel_rfl) (fun _ _ _ h => h) (by rfl) ?_ ?_
  rotate_left
  · ((intro u); go_simp; try with_reducible rfl)
  try simp only [Act.put, List.setIfInBounds_toArray, List.set_cons_zero, List.set_cons_succ]
  refine wb_pure (i := 7) (d := some 11) (v := ?_) (by simp only [List.getElem?_toArray, List.getElem?_cons_succ, List.getElem?_cons_zero] <;> rfl) (by rfl) (by kernel_rfl) (by kernel_rfl) (by kernel_rfl) (fun _ _ _ h => h) (by rfl) ?_ ?_
  rotate_left
  · ((intro u); go_simp; try with_reducible rfl)
  try simp only [Act.put, List.setIfInBounds_toArray, List.set_cons_zero, List.set_cons_succ]
  refine wb_take (i := 8) (d := some 12) (v := ?_) (by simp only [List.getElem?_toArray, List.getElem?_cons_succ, List.getElem?_cons_zero] <;> rfl) (by rfl) (by kernel_rfl) (by kernel_rfl) (by kernel_rfl) (fun _ _ _ h => h) (by rfl) (by kernel_rfl) ?_ ?_
  rotate_left
  · ((intro u hu); have k0 := (hX.out.blk.kb hu (by simp)).cell (i := 0) (v := .bool q.fs) rfl; have k1 : u.cell? ⟨g, off, none⟩ = some (.int .u8 x) := (Kb.cellB hu (by simp) c0); go_simp; try with_reducible rfl)
  try simp only [Act.put, List.setIfInBounds_toArray, List.set_cons_zero, List.set_cons_succ]
  refine wb_one (i := 9) (by simp only [List.getElem?_toArray, List.getElem?_cons_succ, List.getElem?_cons_zero] <;> rfl) (by kernel_rfl) (by rfl) (fun K hK => ?_)
  go_simp
  refine (HK.out _).mono ?_
  rintro e u9 ⟨rfl, rfl⟩
  refine hK.out _ _ (Kb.refl _ _) ?_
  clear hK K
  try simp only [Act.put, List.setIfInBounds_toArray, List.set_cons_zero, List.set_cons_succ]
  refine wb_pure (i := 10) (d := some 14) (v := ?_) (by simp only [List.getElem?_toArray, List.getElem?_cons_succ, List.getElem?_cons_zero] <;> rfl) (by rfl) (by kernel_rfl) (by kernel_rfl) (by kernel_rfl) (fun _ _ _ h => h) (by rfl) ?_ ?_
  rotate_left
  · ((intro u); go_simp; try with_reducible rfl)
  try simp only [Act.put, List.setIfInBounds_toArray, List.set_cons_zero, List.set_cons_succ]
  refine wb_pure (i := 11) (d := some 15) (v := ?_) (by simp only [List.getElem?_toArray, List.getElem?_cons_succ, List.getElem?_cons_zero] <;> rfl) (by rfl) (by kernel_rfl) (by kernel_rfl) (by kernel_rfl) (fun _ _ _ h => h) (by rfl) ?_ ?_
  rotate_left
  · ((intro u); go_simp; try with_reducible rfl)
  try simp only [Act.put, List.setIfInBounds_toArray, List.set_cons_zero, List.set_cons_succ]
  refine wb_pure (i := 12) (d := some 16) (v := ?_) (by simp only [List.getElem?_toArray, List.getElem?_cons_succ, List.getElem?_cons_zero] <;> rfl) (by rfl) (by kernel_rfl) (by kernel_rfl) (by kernel_rfl) (fun _ _ _ h => h) (by rfl) ?_ ?_
  rotate_left
  · ((intro u); go_simp; try with_reducible rfl)
  try simp only [Act.put, List.setIfInBounds_toArray, List.set_cons_zero, List.set_cons_succ]
  refine wb_store (i := 13) (by simp only [List.getElem?_toArray, List.getElem?_cons_succ, List.getElem?_cons_zero] <;> rfl) (by kernel_rfl) (by rfl) (by kernel_rfl) (fun K hK => ?_)
  have f16 := hX.out.blk.free 16
  have c16 := hX.out.blk.cell (i := 16) rfl
  go_simp
  refine hK.out _ _ ?_
  replace hX := Lib.hid (hX.out.set (q' := { q with reply := r }) 16 (.bool r) rfl)
  replace hS := Lib.hid (hS.out.setPk hne 16 (.bool r))
  clear hK K f16 c16
  try simp only [Act.put, List.setIfInBounds_toArray, List.set_cons_zero, List.set_cons_succ]
  refine wb_done (by kernel_rfl) ?_ _
  clear hr2 c0
  go_wp2_with fail
  refine wb_begin ([]) [] (by kernel_rfl) (fun u0 hb0' hz0' => ?_)
  replace hS := Lib.hid (hS.out.below hb0')
  replace hX := Lib.hid (hX.out.below hb0')
  clear hb0' hz0'
  refine wb_pure (i := 0) (d := some 17) (v := ?_) (by simp only [List.getElem?_toArray, List.getElem?_cons_succ, List.getElem?_cons_zero] <;> rfl) (by rfl) (by kernel_rfl) (by kernel_rfl) (by kernel_rfl) (fun _ _ _ h => h) (by rfl) ?_ ?_
  rotate_left
  · ((intro u); go_simp; try with_reducible rfl)
  try simp only [Act.put, List.setIfInBounds_toArray, List.set_cons_zero, List.set_cons_succ]
  refine wb_pure (i := 1) (d := some 18) (v := ?_) (by simp only [List.getElem?_toArray, List.getElem?_cons_succ, List.getElem?_cons_zero] <;> rfl) (by rfl) (by kernel_rfl) (by kernel_rfl) (by kernel_rfl) (fun _ _ _ h => h) (by rfl) ?_ ?_
  rotate_left
  · ((intro u); go_simp; try with_reducible rfl)
  try simp only [Act.put, List.setIfInBounds_toArray, List.set_cons_zero, List.set_cons_succ]
  refine wb_pure (i := 2) (d := some 19) (v := ?_) (by simp only [List.getElem?_toArray, List.getElem?_cons_succ, List.getElem?_cons_zero] <;> rfl) (by rfl) (by kernel_rfl) (by kernel_rfl) (by kernel_rfl) (fun _ _ _ h => h) (by rfl) ?_ ?_
  rotate_left
  · ((intro u); go_simp; try with_reducible rfl)
  try simp only [Act.put, List.setIfInBounds_toArray, List.set_cons_zero, List.set_cons_succ]
  refine wb_pure (i := 3) (d := some 20) (v := ?_) (by simp only [List.getElem?_toArray, List.getElem?_cons_succ, List.getElem?_cons_zero] <;> rfl) (by rfl) (by kernel_rfl) (by kernel_rfl) (by kernel_rfl) (fun _ _ _ h => h) (by rfl) ?_ ?_
  rotate_left
  · ((intro u); go_simp; try with_reducible rfl)
  try simp only [Act.put, List.setIfInBounds_toArray, List.set_cons_zero, List.set_cons_succ]
  refine wb_pure (i := 5) (d := some 22) (v := ?_) (by simp only [List.getElem?_toArray, List.getElem?_cons_succ, List.getElem?_cons_zero] <;> rfl) (by rfl) (by kernel_rfl) (by kernel_rfl) (by kernel_rfl) (fun _ _ _ h => h) (by rfl) ?_ ?_
  rotate_left
  · ((intro u); go_simp; try with_reducible rfl)
  try simp only [Act.put, List.setIfInBounds_toArray, List.set_cons_zero, List.set_cons_succ]
  refine wb_pure (i := 6) (d := some 23) (v := ?_) (by simp only [List.getElem?_toArray, List.getElem?_cons_succ, List.getElem?_cons_zero] <;> rfl) (by rfl) (by kernel_rfl) (by kernel_rfl) (by kernel_rfl) (fun _ _ _ h => h) (by rfl) ?_ ?_
  rotate_left
  · ((intro u); go_simp; try with_reducible rfl)
  try simp only [Act.put, List.setIfInBounds_toArray, List.set_cons_zero, List.set_cons_succ]
  refine wb_one (i := 4) (by simp only [List.getElem?_toArray, List.getElem?_cons_succ, List.getElem?_cons_zero] <;> rfl) (by kernel_rfl) (by rfl) (fun K hK => ?_)
  go_simp
  refine (int_part _ _ _ _ _ bs _ hS.out 4 2 (by omega) (by omega) (by omega) hb.out).mono ?_
  rintro e u4 ⟨rfl, hv4⟩
  refine hK.out _ _ (fun p hp => by cases hp) ?_
  replace hS := Lib.hid (hS.out.below hv4)
  replace hX := Lib.hid (hX.out.below hv4)
  clear hK K hv4
  try simp only [Act.put, List.setIfInBounds_toArray, List.set_cons_zero, List.set_cons_succ]
  refine wb_one (i := 7) (by simp only [List.getElem?_toArray, List.getElem?_cons_succ, List.getElem?_cons_zero] <;> rfl) (by kernel_rfl) (by rfl) (fun K hK => ?_)
  go_simp
  refine (int_part _ _ _ _ _ bs _ hS.out 6 2 (by omega) (by omega) (by omega) hb.out).mono ?_
  rintro e u7 ⟨rfl, hv7⟩
  refine hK.out _ _ (fun p hp => by cases hp) ?_
  replace hS := Lib.hid (hS.out.below hv7)
  replace hX := Lib.hid (hX.out.below hv7)
  clear hK K hv7
  try simp only [Act.put, List.setIfInBounds_toArray, List.set_cons_zero, List.set_cons_succ]
  refine wb_pure (i := 8) (d := some 25) (v := ?_) (by simp only [List.getElem?_toArray, List.getElem?_cons_succ, List.getElem?_cons_zero] <;> rfl) (by rfl) (by kernel_rfl) (by kernel_rfl) (by kernel_rfl) (fun _ _ _ h => h) (by rfl) ?_ ?_
  rotate_left
  · ((intro u); go_simp; try with_reducible rfl)
  try simp only [Act.put, List.setIfInBounds_toArray, List.set_cons_zero, List.set_cons_succ]
  refine wb_pure (i := 9) (d := some 26) (v := ?_) (by simp only [List.getElem?_toArray, List.getElem?_cons_succ, List.getElem?_cons_zero] <;> rfl) (by rfl) (by kernel_rfl) (by kernel_rfl) (by kernel_rfl) (fun _ _ _ h => h) (by rfl) ?_ ?_
  rotate_left
  · ((intro u); go_simp; try with_reducible rfl)
  try simp only [Act.put, List.setIfInBounds_toArray, List.set_cons_zero, List.set_cons_succ]
  refine wb_one (i := 10) (by simp only [List.getElem?_toArray, List.getElem?_cons_succ, List.getElem?_cons_zero] <;> rfl) (by kernel_rfl) (by rfl) (fun K hK => ?_)
  have f17 := hX.out.blk.free 17
  have c17 := hX.out.blk.cell (i := 17) rfl
  go_simp
  refine hK.out _ _ (fun p hp => by cases hp) ?_
  replace hX := Lib.hid (hX.out.set (q' := { q with reply := r, id := nb bs 4 2 }) 17 (.int .i64 (nb bs 4 2)) rfl)
  replace hS := Lib.hid (hS.out.setPk hne 17 (.int .i64 (nb bs 4 2)))
  clear hK K f17 c17
  try simp only [Act.put, List.setIfInBounds_toArray, List.set_cons_zero, List.set_cons_succ]
  refine wb_pure (i := 11) (d := some 27) (v := ?_) (by simp only [List.getElem?_toArray, List.getElem?_cons_succ, List.getElem?_cons_zero] <;> rfl) (by rfl) (by kernel_rfl) (by kernel_rfl) (by kernel_rfl) (fun _ _ _ h => h) (by rfl) ?_ ?_
  rotate_left
  · ((intro u); go_simp; try with_reducible rfl)
  try simp only [Act.put, List.setIfInBounds_toArray, List.set_cons_zero, List.set_cons_succ]
  refine wb_pure (i := 12) (d := some 28) (v := ?_) (by simp only [List.getElem?_toArray, List.getElem?_cons_succ, List.getElem?_cons_zero] <;> rfl) (by rfl) (by kernel_rfl) (by kernel_rfl) (by kernel_rfl) (fun _ _ _ h => h) (by rfl) ?_ ?_
  rotate_left
  · ((intro u); go_simp; try with_reducible rfl)
  try simp only [Act.put, List.setIfInBounds_toArray, List.set_cons_zero, List.set_cons_succ]
  refine wb_one (i := 13) (by simp only [List.getElem?_toArray, List.getElem?_cons_succ, List.getElem?_cons_zero] <;> rfl) (by kernel_rfl) (by rfl) (fun K hK => ?_)
  have f14 := hX.out.blk.free 14
  have c14 := hX.out.blk.cell (i := 14) rfl
  go_simp
  refine hK.out _ _ (fun p hp => by cases hp) ?_
  replace hX := Lib.hid (hX.out.set (q' := { q with reply := r, id := nb bs 4 2, seq := nb bs 6 2 }) 14 (.int .i64 (nb bs 6 2)) rfl)
  replace hS := Lib.hid (hS.out.setPk hne 14 (.int .i64 (nb bs 6 2)))
  clear hK K f14 c14
  try simp only [Act.put, List.setIfInBounds_toArray, List.set_cons_zero, List.set_cons_succ]
  refine wb_done (by kernel_rfl) ?_ _
  go_wp2_with fail
  go_end0
  exact ⟨rfl, hX.out⟩
set_option maxHeartbeats 4000000 in
set_option maxRecDepth 100000 in
theorem readTcp_any (q : Pk) (v : Value) (pb g off n cap : Nat) (bs : List Nat) (w : World) (hX : Blk w pb (pkL q v) 31) (hS : SlB w (some ⟨g, off, none⟩) n cap bs) (hne : g ≠ pb) (hn : 20 ≤ n) (hb : Byt bs) :
    Calls Tryz.prog 59 #[.slice (some ⟨g, off, none⟩) n cap, .pointer (some ⟨pb, 0, none⟩)] w fun e w' => e = .returned (.tuple #[]) ∧ RdP w pb (rdTcp q bs) v w' := by
  have hcap := hS.2.1
  have h8 : (8 : Int) ≤ cap := by omega
  have h12 : (12 : Int) ≤ cap := by omega
  have hn4 : ¬ cap = 4 := by omega
  have hn8 : ¬ cap = 8 := by omega
  obtain ⟨r1, hr1⟩ : ∃ r, r = decide (bs.getD 13 0 / 2 ^ 0 % 2 = 1) := ⟨_, rfl⟩
  obtain ⟨r2, hr2⟩ : ∃ r, r = decide (bs.getD 13 0 / 2 ^ 1 % 2 = 1) := ⟨_, rfl⟩
  obtain ⟨r3, hr3⟩ : ∃ r, r = decide (bs.getD 13 0 / 2 ^ 2 % 2 = 1) := ⟨_, rfl⟩
  obtain ⟨r4, hr4⟩ : ∃ r, r = decide (bs.getD 13 0 / 2 ^ 4 % 2 = 1) := ⟨_, rfl⟩
  have hF := Lib.hid (show rdTcp q bs = { q with fp := nb bs 0 2, tp := nb bs 2 2, seq := nb bs 4 4, ack := nb bs 8 4, fin := r1, syn := r2, rst := r3, has := r4 } by
    unfold rdTcp; rw [hr1, hr2, hr3, hr4]; simp)
  have hPt := Lib.hid (fun w' h1 h2 => readPorts_any q v pb g off n cap bs w' h1 h2 hne (by omega) hb)
  have hpl := hX.lt
  replace hr1 := Lib.hid hr1
  replace hr2 := Lib.hid hr2
  replace hr3 := Lib.hid hr3
  replace hr4 := Lib.hid hr4
  obtain ⟨B, hBd⟩ : ∃ B, B = w.heap.size := ⟨_, rfl⟩
  have hBne : B ≠ pb := by omega
  have hBk : Bx (w.alloc (.cells #[.slice (some ⟨g, off, none⟩) n cap] 29)) B (.slice (some ⟨g, off, none⟩) n cap) 29 := ⟨by rw [hBd]; exact Blk.new w [.slice (some ⟨g, off, none⟩) n cap] 29⟩
  have cB := hBk.blk.cell (i := 0) (v := .slice (some ⟨g, off, none⟩) n cap) rfl
  replace hX := (RdP.refl hX).alloc (.cells #[.slice (some ⟨g, off, none⟩) n cap] 29)
  replace hS := hS.below ((Below.refl w.heap.size w).alloc (Nat.le_refl _) (.cells #[.slice (some ⟨g, off, none⟩) n cap] 29))
  have HP1 := Lib.hid (hPt.out _ hX.blk hS)
  replace hX := Lib.hid hX
  replace hS := Lib.hid hS
  replace hb := Lib.hid hb
  replace hBk := Lib.hid hBk
  replace hBd := Lib.hid hBd
  clear hPt hpl
  go_enter Tryz.func59, Tryz.ntmps59
  go_wp2_with fail
  rw [← hBd.out] at *
  go_wp2_with fail
  refine HP1.out.mono ?_
  rintro e w1 ⟨rfl, h1⟩
  replace hS := Lib.hid (hS.out.rdp h1 hne)
  replace hBk := Lib.hid (hBk.out.rdp h1 hBne)
  replace hX := Lib.hid (hX.out.trans h1)
  clear HP1 h1 cB
  go_wp2_with fail
  refine wb_begin ([B]) [] (by kernel_rfl) (fun u0 hb0' hz0' => ?_)
  replace hS := Lib.hid (hS.out.below hb0')
  replace hX := Lib.hid (hX.out.below hb0')
  replace hBk := Lib.hid (hBk.out.below hb0')
  clear hb0' hz0'
  refine wb_pure (i := 0) (d := some 8) (v := ?_) (by simp only [List.getElem?_toArray, List.getElem?_cons_succ, List.getElem?_cons_zero] <;> rfl) (by rfl) (by kernel_rfl) (by kernel_rfl) (by kernel_rfl) (fun _ _ _ h => h) (by rfl) ?_ ?_
  rotate_left
  · ((intro u); go_simp; try with_reducible rfl)
  try simp only [Act.put, List.setIfInBounds_toArray, List.set_cons_zero, List.set_cons_succ]
  refine wb_pure (i := 1) (d := some 9) (v := ?_) (by simp only [List.getElem?_toArray, List.getElem?_cons_succ, List.getElem?_cons_zero] <;> rfl) (by rfl) (by kernel_rfl) (by kernel_rfl) (by kernel_rfl) (fun _ _ _ h => h) (by rfl) ?_ ?_
  rotate_left
  · ((intro u); go_simp; try with_reducible rfl)
  try simp only [Act.put, List.setIfInBounds_toArray, List.set_cons_zero, List.set_cons_succ]
  refine wb_take (i := 2) (d := some 10) (v := ?_) (by simp only [List.getElem?_toArray, List.getElem?_cons_succ, List.getElem?_cons_zero] <;> rfl) (by rfl) (by kernel_rfl) (by kernel_rfl) (by kernel_rfl) (fun _ _ _ h => h) (by rfl) (by kernel_rfl) ?_ ?_
  rotate_left
  · ((intro u hu); have kB := (hBk.out.blk.kb hu (by simp)).cell (i := 0) (v := .slice (some ⟨g, off, none⟩) n cap) rfl; go_simp; try with_reducible rfl)
  try simp only [Act.put, List.setIfInBounds_toArray, List.set_cons_zero, List.set_cons_succ]
  refine wb_pure (i := 3) (d := some 11) (v := ?_) (by simp only [List.getElem?_toArray, List.getElem?_cons_succ, List.getElem?_cons_zero] <;> rfl) (by rfl) (by kernel_rfl) (by kernel_rfl) (by kernel_rfl) (fun _ _ _ h => h) (by rfl) ?_ ?_
  rotate_left
  · ((intro u); go_simp; try with_reducible rfl)
  try simp only [Act.put, List.setIfInBounds_toArray, List.set_cons_zero, List.set_cons_succ]
  refine wb_take (i := 5) (d := some 13) (v := ?_) (by simp only [List.getElem?_toArray, List.getElem?_cons_succ, List.getElem?_cons_zero] <;> rfl) (by rfl) (by kernel_rfl) (by kernel_rfl) (by kernel_rfl) (fun _ _ _ h => h) (by rfl) (by kernel_rfl) ?_ ?_
  rotate_left
  · ((intro u hu); have kB := (hBk.out.blk.kb hu (by simp)).cell (i := 0) (v := .slice (some ⟨g, off, none⟩) n cap) rfl; go_simp; try with_reducible rfl)
  try simp only [Act.put, List.setIfInBounds_toArray, List.set_cons_zero, List.set_cons_succ]
  refine wb_pure (i := 6) (d := some 14) (v := ?_) (by simp only [List.getElem?_toArray, List.getElem?_cons_succ, List.getElem?_cons_zero] <;> rfl) (by rfl) (by kernel_rfl) (by kernel_rfl) (by kernel_rfl) (fun _ _ _ h => h) (by rfl) ?_ ?_
  rotate_left
  · ((intro u); go_simp; try with_reducible rfl)
  try simp only [Act.put, List.setIfInBounds_toArray, List.set_cons_zero, List.set_cons_succ]
  refine wb_one (i := 4) (by simp only [List.getElem?_toArray, List.getElem?_cons_succ, List.getElem?_cons_zero] <;> rfl) (by kernel_rfl) (by rfl) (fun K hK => ?_)
  go_simp
  refine (int_part _ _ _ _ _ bs _ hS.out 4 4 (by omega) (by omega) (by omega) hb.out).mono ?_
  rintro e u4 ⟨rfl, hv4⟩
  refine hK.out _ _ (Kb.below hv4 (by intro p hp; simp at hp; subst hp; exact hBk.out.blk.lt)) ?_
  replace hS := Lib.hid (hS.out.below hv4)
  replace hX := Lib.hid (hX.out.below hv4)
  replace hBk := Lib.hid (hBk.out.below hv4)
  clear hK K hv4
  try simp only [Act.put, List.setIfInBounds_toArray, List.set_cons_zero, List.set_cons_succ]
  refine wb_one (i := 7) (by simp only [List.getElem?_toArray, List.getElem?_cons_succ, List.getElem?_cons_zero] <;> rfl) (by kernel_rfl) (by rfl) (fun K hK => ?_)
  go_simp
  refine (int_part _ _ _ _ _ bs _ hS.out 8 4 (by omega) (by omega) (by omega) hb.out).mono ?_
  rintro e u7 ⟨rfl, hv7⟩
  refine hK.out _ _ (Kb.below hv7 (by intro p hp; simp at hp; subst hp; exact hBk.out.blk.lt)) ?_
  replace hS := Lib.hid (hS.out.below hv7)
  replace hX := Lib.hid (hX.out.below hv7)
  replace hBk := Lib.hid (hBk.out.below hv7)
  clear hK K hv7
  try simp only [Act.put, List.setIfInBounds_toArray, List.set_cons_zero, List.set_cons_succ]
  refine wb_pure (i := 8) (d := some 16) (v := ?_) (by simp only [List.getElem?_toArray, List.getElem?_cons_succ, List.getElem?_cons_zero] <;> rfl) (by rfl) (by kernel_rfl) (by kernel_rfl) (by kernel_rfl) (fun _ _ _ h => h) (by rfl) ?_ ?_
  rotate_left
  · ((intro u); go_simp; try with_reducible rfl)
  try simp only [Act.put, List.setIfInBounds_toArray, List.set_cons_zero, List.set_cons_succ]
  refine wb_pure (i := 9) (d := some 17) (v := ?_) (by simp only [List.getElem?_toArray, List.getElem?_cons_succ, List.getElem?_cons_zero] <;> rfl) (by rfl) (by kernel_rfl) (by kernel_rfl) (by kernel_rfl) (fun _ _ _ h => h) (by rfl) ?_ ?_
  rotate_left
  · ((intro u); go_simp; try with_reducible rfl)
  try simp only [Act.put, List.setIfInBounds_toArray, List.set_cons_zero, List.set_cons_succ]
  refine wb_one (i := 10) (by simp only [List.getElem?_toArray, List.getElem?_cons_succ, List.getElem?_cons_zero] <;> rfl) (by kernel_rfl) (by rfl) (fun K hK => ?_)
  have f14 := hX.out.blk.free 14
  have c14 := hX.out.blk.cell (i := 14) rfl
  go_simp
  refine hK.out _ _ (fun p hp => by simp at hp; subst hp; exact Below.heap_setCell _ _ _ _ hBne) ?_
  replace hX := Lib.hid (hX.out.set (q' := { q with fp := nb bs 0 2, tp := nb bs 2 2, seq := nb bs 4 4 }) 14 (.int .i64 (nb bs 4 4)) rfl)
  replace hS := Lib.hid (hS.out.setPk hne 14 (.int .i64 (nb bs 4 4)))
  replace hBk := Lib.hid (hBk.out.other (a := ⟨pb, 14, none⟩) hBne (.int .i64 (nb bs 4 4)))
  clear hK K f14 c14
  try simp only [Act.put, List.setIfInBounds_toArray, List.set_cons_zero, List.set_cons_succ]
  refine wb_pure (i := 11) (d := some 18) (v := ?_) (by simp only [List.getElem?_toArray, List.getElem?_cons_succ, List.getElem?_cons_zero] <;> rfl) (by rfl) (by kernel_rfl) (by kernel_rfl) (by kernel_rfl) (fun _ _ _ h => h) (by rfl) ?_ ?_
  rotate_left
  · ((intro u); go_simp; try with_reducible rfl)
  try simp only [Act.put, List.setIfInBounds_toArray, List.set_cons_zero, List.set_cons_succ]
  refine wb_pure (i := 12) (d := some 19) (v := ?_) (by simp only [List.getElem?_toArray, List.getElem?_cons_succ, List.getElem?_cons_zero] <;> rfl) (by rfl) (by kernel_rfl) (by kernel_rfl) (by kernel_rfl) (fun _ _ _ h => h) (by rfl) ?_ ?_
  rotate_left
  · ((intro u); go_simp; try with_reducible rfl)
  try simp only [Act.put, List.setIfInBounds_toArray, List.set_cons_zero, List.set_cons_succ]
  refine wb_one (i := 13) (by simp only [List.getElem?_toArray, List.getElem?_cons_succ, List.getElem?_cons_zero] <;> rfl) (by kernel_rfl) (by rfl) (fun K hK => ?_)
  have f15 := hX.out.blk.free 15
  have c15 := hX.out.blk.cell (i := 15) rfl
  go_simp
  refine hK.out _ _ (fun p hp => by simp at hp; subst hp; exact Below.heap_setCell _ _ _ _ hBne) ?_
  replace hX := Lib.hid (hX.out.set (q' := { q with fp := nb bs 0 2, tp := nb bs 2 2, seq := nb bs 4 4, ack := nb bs 8 4 }) 15 (.int .i64 (nb bs 8 4)) rfl)
  replace hS := Lib.hid (hS.out.setPk hne 15 (.int .i64 (nb bs 8 4)))
  replace hBk := Lib.hid (hBk.out.other (a := ⟨pb, 15, none⟩) hBne (.int .i64 (nb bs 8 4)))
  clear hK K f15 c15
  try simp only [Act.put, List.setIfInBounds_toArray, List.set_cons_zero, List.set_cons_succ]
  refine wb_done (by kernel_rfl) ?_ _
  have hw1 := hBk.out.blk.cell (i := 0) (v := .slice (some ⟨g, off, none⟩) n cap) rfl
  have H1 := Lib.hid (has_any g off n cap B bs _ hS.out (by omega) hb.out hw1 0 (by omega) 1 (by decide) r1 hr1.out)
  have H2 := Lib.hid (has_any g off n cap B bs _ hS.out (by omega) hb.out hw1 1 (by omega) 2 (by decide) r2 hr2.out)
  have H3 := Lib.hid (has_any g off n cap B bs _ hS.out (by omega) hb.out hw1 2 (by omega) 4 (by decide) r3 hr3.out)
  have H4 := Lib.hid (has_any g off n cap B bs _ hS.out (by omega) hb.out hw1 4 (by omega) 16 (by decide) r4 hr4.out)
  have f10 := hX.out.blk.free 10
  have f11 := hX.out.blk.free 11
  have f12 := hX.out.blk.free 12
  have f13 := hX.out.blk.free 13
  have c10 := hX.out.blk.cell (i := 10) rfl
  have c11 := hX.out.blk.cell (i := 11) rfl
  have c12 := hX.out.blk.cell (i := 12) rfl
  have c13 := hX.out.blk.cell (i := 13) rfl
  clear hw1 hBk hS
  go_wp2_with fail
  refine H1.out.mono ?_
  rintro e w1 ⟨rfl, rfl⟩
  go_wp2_with fail
  refine H2.out.mono ?_
  rintro e w1 ⟨rfl, rfl⟩
  go_wp2_with fail
  refine H3.out.mono ?_
  rintro e w1 ⟨rfl, rfl⟩
  go_wp2_with fail
  refine H4.out.mono ?_
  rintro e w1 ⟨rfl, rfl⟩
  go_wp2_with fail
  go_end0
  rw [hF.out]
  exact ⟨rfl, (((hX.out.set (q' := { q with fp := nb bs 0 2, tp := nb bs 2 2, seq := nb bs 4 4, ack := nb bs 8 4, fin := r1 }) 11 (.bool r1) rfl).set (q' := { q with fp := nb bs 0 2, tp := nb bs 2 2, seq := nb bs 4 4, ack := nb bs 8 4, fin := r1, syn := r2 }) 10 (.bool r2) rfl).set (q' := { q with fp := nb bs 0 2, tp := nb bs 2 2, seq := nb bs 4 4, ack := nb bs 8 4, fin := r1, syn := r2, rst := r3 }) 12 (.bool r3) rfl).set 13 (.bool r4) rfl⟩
end Go.Proofs.YtijlahgmnpnmfaaGreatDoor
