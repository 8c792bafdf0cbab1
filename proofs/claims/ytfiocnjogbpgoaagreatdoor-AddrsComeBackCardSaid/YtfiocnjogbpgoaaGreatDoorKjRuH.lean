/- Lines that are read. -/
import Derived.Test.YtfiocnjogbpgoaaGreatDoorKjRuD
import Derived.Test.YtfiocnjogbpgoaaGreatDoorKjRlB
import Derived.Test.YtfiocnjogbpgoaaGreatDoorKjWaysB
namespace Go.Proofs.YtfiocnjogbpgoaaGreatDoor
open Go.RowKit
set_option linter.unusedVariables false
set_option linter.unusedSimpArgs false

set_option maxHeartbeats 400000 in
theorem readOptionShort_any (A : Option Addr) (n c : Nat) (name : List UInt8) (fv : Value) (w : World) (hn : n < 2) :
    Calls Tryz.prog 194 #[.slice A n c, .string ⟨name.toArray⟩, fv] w fun e w' => e = .returned (.tuple #[.slice A n c, .bool true]) ∧ w = w' := by
  have h1 : (n : Int) < 2 := by omega
  have d1 : decide ((n : Int) < 2) = true := decide_eq_true h1
  go_enter Tryz.func194, Tryz.ntmps194
  go_wp2_with fail
  go_ret2
  exact ⟨rfl, rfl⟩
/-- The reader's cells. -/
def rdC (gr : Value) (last : Int) : List Value := [.slice none 0 0, .slice none 0 0, gr, .slice none 0 0, .int .i64 last]

set_option maxHeartbeats 400000 in
theorem comes_any (R : Nat) (last k : Int) (w : World) (hR : Blk w R (rdC (.slice none 0 0) last) 147) (hk : last ≤ k) :
    Calls Tryz.prog 129 #[.pointer (some ⟨R, 0, none⟩), .int .i64 k] w fun e w' => e = .returned (.bool true) ∧ w' = w.setCell ⟨R, 4, none⟩ (.int .i64 k) := by
  have c4 := hR.cell (i := 4) (v := .int .i64 last) rfl
  have f4 := hR.free 4
  have d4 : decide (last ≤ k) = true := decide_eq_true hk
  go_enter Tryz.func129, Tryz.ntmps129
  go_wp2_with fail
  go_ret
  exact ⟨rfl, rfl⟩
end Go.Proofs.YtfiocnjogbpgoaaGreatDoor
namespace Go.Proofs.YtfiocnjogbpgoaaGreatDoor
open Go.RowKit
set_option linter.unusedVariables false
set_option linter.unusedSimpArgs false

theorem two_mem2 {a b : Nat} {P : Nat → Prop} (h1 : P a) (h2 : P b) : ∀ q ∈ [a, b], P q := by
  intro q hq
  rcases List.mem_cons.1 hq with h | h
  · rw [h]; exact h1
  · rw [List.mem_singleton.1 h]; exact h2
theorem gb_below_none {w w' : World} (h : w.grownBy w' (Value.slice none 0 0).ownBlock) : Below w.heap.size w w' := ⟨h.os, h.tape, h.output, h.size, fun k hk => h.block k hk (by intro e; cases e)⟩
theorem gb_belU {a x y : World} {r : Option Nat} {B : Nat} (h : a.grownBy x r) (hb : Below B x y) (hB : a.heap.size ≤ B) : a.grownBy y r :=
  ⟨hb.os.trans h.os, hb.tape.trans h.tape, hb.output.trans h.output, Nat.le_trans h.size hb.size, fun k hk hne => (hb.block k (Nat.lt_of_lt_of_le hk hB)).trans (h.block k hk hne)⟩
theorem gb_cell1U (w : World) (p i : Nat) (x : Value) : w.grownBy (w.setCell ⟨p, i, none⟩ x) (some p) :=
  ⟨rfl, rfl, rfl, by simp, fun k _ hne => Below.heap_setCell _ _ _ _ (by intro e; exact hne (by rw [e]))⟩
theorem slE_gbU {α : Type} {E : Enc α} {w w' : World} {A : Option Addr} {n cap : Nat} {xs : List α} {r : Option Nat} (h : SlE E w A n cap xs) (hg : w.grownBy w' r) (hr : ∀ ad, A = some ad → some ad.block ≠ r) : SlE E w' A n cap xs := by
  obtain ⟨h1, h2, h3, h4⟩ := h
  refine ⟨h1, h2, h3, ?_⟩
  rcases h4 with h4 | ⟨g, off, hA, hlt, hc⟩
  · exact .inl h4
  · exact .inr ⟨g, off, hA, Nat.lt_of_lt_of_le hlt hg.size, fun k x hx i v hv => hg.cell (hc k x hx i v hv) (fun e => hr _ hA e)⟩
theorem pieces_star : pieces [42] 44 = [[42]] := by decide
/-- One part is read: a list of it. -/
def OneP {α : Type} (E : Enc α) (t : TypeId) (x : α) (w : World) (e : Ending) (w' : World) : Prop := ∃ g c, e = .returned (.tuple #[.slice (some ⟨g, 0, none⟩) 1 c, .bool true]) ∧ SlE E w' (some ⟨g, 0, none⟩) 1 c [x] ∧ Below w.heap.size w w' ∧ w.heap.size ≤ g
theorem RlP.one {α : Type} {E : Enc α} {t : TypeId} {x : α} {w w' : World} {e : Ending} (h : RlP E t (fun _ => x) (fun _ => true) (pieces [42] 44) w e w') : OneP E t x w e w' := by
  rw [pieces_star] at h
  obtain ⟨hb, ⟨_, v, rfl, hown⟩ | ⟨h0, _⟩⟩ := h
  · obtain ⟨g, c, hv, hgB, _⟩ := hown.form (by simp)
    obtain ⟨A', c', hv', hS⟩ := hown.sl
    rw [hv] at hv'
    injection hv' with e1 e2 e3
    subst e1 e3
    exact ⟨g, c, by rw [hv]; rfl, hS, hb, hgB⟩
  · cases h0
theorem readListWhStar_any (w : World) (hF : Rd2 w) : Calls Tryz.prog 190 #[.string ⟨#[42]⟩, .func (.func 191) #[] #[]] w (OneP eWh 244 wStar w) :=
  (readListWh_any (fun _ => wStar) (fun _ => true) [42] w (by decide) (by rw [pieces_star]; decide) (fun p hp W hW => by
    rw [pieces_star] at hp
    rw [List.mem_singleton.1 hp]
    exact readWhatStar_any W (hF.below hW))).mono fun _ _ h => h.one
theorem readListTgStar_any (w : World) (hF : Rd2 w) : Calls Tryz.prog 192 #[.string ⟨#[42]⟩, .func (.func 193) #[] #[]] w (OneP eTg 252 tStar w) :=
  (readListTg_any (fun _ => tStar) (fun _ => true) [42] w (by decide) (by rw [pieces_star]; decide) (fun p hp W hW => by
    rw [pieces_star] at hp
    rw [List.mem_singleton.1 hp]
    exact readTargetStar_any W (hF.below hW))).mono fun _ _ h => h.one
/-- What the grant's line leaves. -/
def GrP (R : Nat) (w : World) (e : Ending) (w' : World) : Prop := e = .returned (.bool true) ∧ ∃ g c s d, Blk w' R (rdC (.slice (some ⟨g, 0, none⟩) 1 c) 2) 147 ∧ OwnE eGt 255 w.heap.size w' (.slice (some ⟨g, 0, none⟩) 1 c) [⟨s, d, 0, ⟨none, 0, 0⟩⟩] ∧ SlE eWh w' s.A s.n s.c [wStar] ∧ SlE eTg w' d.A d.n d.c [tStar] ∧ w.grownBy w' (some R)

set_option maxHeartbeats 4000000 in
set_option maxRecDepth 100000 in
theorem takeGrantStar_any (R gw : Nat) (w : World) (hF : Rd2 w) (hR : Blk w R (rdC (.slice none 0 0) 2) 147) (hgw0 : gw < w.heap.size) (k1 : w.cell? ⟨gw, 1, none⟩ = some (.string ⟨#[42]⟩)) (k2 : w.cell? ⟨gw, 2, none⟩ = some (.string ⟨#[45, 62]⟩)) (k3 : w.cell? ⟨gw, 3, none⟩ = some (.string ⟨#[42]⟩)) :
    Calls Tryz.prog 132 #[.pointer (some ⟨R, 0, none⟩), .slice (some ⟨gw, 1, none⟩) 3 3] w (GrP R w) := by
  have H1 := Lib.hid (readListWhStar_any w hF)
  have hgw := Below.refl w.heap.size w
  have hRw := hR.lt
  go_enter Tryz.func132, Tryz.ntmps132
  go_wp2_with fail
  refine H1.out.mono ?_
  rintro e w1 ⟨gs, cs, rfl, hSs, hb1, hgs⟩
  have hs1 := hb1.size
  replace hF := hF.below hb1
  replace hR := hR.below hb1
  replace hgw := hgw.trans hb1
  have k3' : w1.cell? ⟨gw, 3, none⟩ = some (.string ⟨#[42]⟩) := by rw [World.cell?_of_block (w := w) (hb1.block _ hgw0)]; exact k3
  have H2 := Lib.hid (readListTgStar_any w1 hF)
  clear H1 hb1 k1 k2 k3
  go_wp2_with fail
  refine H2.out.mono ?_
  rintro e w2 ⟨gd, cd, rfl, hSt, hb2, hgd0⟩
  have hgd : w.heap.size ≤ gd := Nat.le_trans hs1 hgd0
  clear hgd0 hs1
  replace hR := hR.below hb2
  replace hSs := hSs.below hb2
  replace hgw := hgw.trans (hb2.mono hgw.size)
  clear H2 hb2 k3' hF
  obtain ⟨gt, hgt⟩ : ∃ gt : Gt, gt = ⟨⟨some ⟨gs, 0, none⟩, 1, cs⟩, ⟨some ⟨gd, 0, none⟩, 1, cd⟩, 0, ⟨none, 0, 0⟩⟩ := ⟨_, rfl⟩
  have B5 : (bdT 255 (.slice (some ⟨gs, 0, none⟩) 1 cs) (.slice (some ⟨gd, 0, none⟩) 1 cd)).run Tryz.prog w2 = .ok (.value (.agg (gtC gt).toArray)) w2 := by rw [hgt]; exact run_bdGt ⟨some ⟨gs, 0, none⟩, 1, cs⟩ ⟨some ⟨gd, 0, none⟩, 1, cd⟩ w2
  have S5 : (stT 255 (.pointer (some ⟨w2.heap.size, 0, none⟩)) (.agg (gtC gt).toArray)).run Tryz.prog (w2.alloc (.cells #[.slice none 0 0, .slice none 0 0, .int .i64 0, .slice none 0 0] 255)) = .ok .skip (w2.alloc (.cells (gtC gt).toArray 255)) :=
    stT_new rowGt w2 w2.heap.size rfl zGtC (gtC gt) rfl (gtC_len _) (gtC_one _)
  have hG := Blk.new w2 (gtC gt) 255
  have hrl := hR.lt
  have hgn : R ≠ w2.heap.size := by omega
  have hbA : Below w2.heap.size w2 (w2.alloc (.cells (gtC gt).toArray 255)) := (Below.refl _ _).alloc (Nat.le_refl _) _
  replace hR := hR.below hbA
  replace hSs := hSs.below hbA
  replace hSt := hSt.below hbA
  replace hgw := hgw.trans (hbA.mono hgw.size)
  have hgw2 : w.grownBy (w2.alloc (.cells (gtC gt).toArray 255)) (some R) := ⟨hgw.os, hgw.tape, hgw.output, hgw.size, fun k hk _ => hgw.block k hk⟩
  have hzw := hgw.size
  replace hgt := Lib.hid hgt
  go_upto_region 6 with fail
  obtain ⟨wX, hwX⟩ : ∃ x, x = w2.alloc (.cells (gtC gt).toArray 255) := ⟨_, rfl⟩
  rw [← hwX] at hG hR hSs hSt hgw2 hgw hzw ⊢
  generalize w2.heap.size = gp at hG hgn ⊢
  clear hwX hbA B5 S5 hgw
  have hgw := hgw2
  clear hgw2
  go_wp2_with fail
  refine (readOptionShort_any _ _ _ _ _ _ (by decide)).mono ?_
  rintro e wo ⟨rfl, rfl⟩
  go_wp2_with fail
  refine (readOptionShort_any _ _ _ _ _ _ (by decide)).mono ?_
  rintro e wo ⟨rfl, rfl⟩
  go_upto_region 8 with fail
  refine wb_begin ([R, gp]) [12] (by kernel_rfl) (fun u0 hb0' hz0' => ?_)
  replace hR := hR.below hb0'
  replace hG := hG.below hb0'
  replace hSs := hSs.below hb0'
  replace hSt := hSt.below hb0'
  replace hgw := gb_belU hgw hb0' (by have := hgw.size; omega)
  replace hzw : w.heap.size ≤ _ := Nat.le_trans hzw hb0'.size
  clear hb0' hz0'
  refine wb_pure (i := 0) (d := some 52) (v := ?_) (by simp only [List.getElem?_toArray, List.getElem?_cons_succ, List.getElem?_cons_zero] <;> rfl) (by rfl) (by kernel_rfl) (by kernel_rfl) (by kernel_rfl) (fun _ _ _ h => h) (by rfl) ?_ ?_
  rotate_left
  · ((intro u); go_simp; try with_reducible rfl)
  try simp only [Act.put, List.setIfInBounds_toArray, List.set_cons_zero, List.set_cons_succ]
  refine wb_pure (i := 1) (d := some 53) (v := ?_) (by simp only [List.getElem?_toArray, List.getElem?_cons_succ, List.getElem?_cons_zero] <;> rfl) (by rfl) (by kernel_rfl) (by kernel_rfl) (by kernel_rfl) (fun _ _ _ h => h) (by rfl) ?_ ?_
  rotate_left
  · ((intro u); go_simp; try with_reducible rfl)
  try simp only [Act.put, List.setIfInBounds_toArray, List.set_cons_zero, List.set_cons_succ]
  refine wb_pure (i := 2) (d := some 54) (v := ?_) (by simp only [List.getElem?_toArray, List.getElem?_cons_succ, List.getElem?_cons_zero] <;> rfl) (by rfl) (by kernel_rfl) (by kernel_rfl) (by kernel_rfl) (fun _ _ _ h => h) (by rfl) ?_ ?_
  rotate_left
  · ((intro u); go_simp; try with_reducible rfl)
  try simp only [Act.put, List.setIfInBounds_toArray, List.set_cons_zero, List.set_cons_succ]
  refine wb_pure (i := 3) (d := some 55) (v := ?_) (by simp only [List.getElem?_toArray, List.getElem?_cons_succ, List.getElem?_cons_zero] <;> rfl) (by rfl) (by kernel_rfl) (by kernel_rfl) (by kernel_rfl) (fun _ _ _ h => h) (by rfl) ?_ ?_
  rotate_left
  · ((intro u); go_simp; try with_reducible rfl)
  try simp only [Act.put, List.setIfInBounds_toArray, List.set_cons_zero, List.set_cons_succ]
  refine wb_pure (i := 4) (d := some 56) (v := ?_) (by simp only [List.getElem?_toArray, List.getElem?_cons_succ, List.getElem?_cons_zero] <;> rfl) (by rfl) (by kernel_rfl) (by kernel_rfl) (by kernel_rfl) (fun _ _ _ h => h) (by rfl) ?_ ?_
  rotate_left
  · ((intro u); go_simp; try with_reducible rfl)
  try simp only [Act.put, List.setIfInBounds_toArray, List.set_cons_zero, List.set_cons_succ]
  refine wb_take (i := 5) (d := some 57) (v := ?_) (by simp only [List.getElem?_toArray, List.getElem?_cons_succ, List.getElem?_cons_zero] <;> rfl) (by rfl) (by kernel_rfl) (by kernel_rfl) (by kernel_rfl) (fun _ _ _ h => h) (by rfl) (by kernel_rfl) ?_ ?_
  rotate_left
  · ((intro u hu); have kR := (hR.kb hu (List.mem_cons_self ..)).cell (i := 2) rfl; have kG := (hG.kb hu (List.mem_cons_of_mem _ (List.mem_singleton.2 rfl))).ld rowGt (gtC_len gt); go_simp; try with_reducible rfl)
  try simp only [Act.put, List.setIfInBounds_toArray, List.set_cons_zero, List.set_cons_succ]
  refine wb_take (i := 6) (d := some 58) (v := ?_) (by simp only [List.getElem?_toArray, List.getElem?_cons_succ, List.getElem?_cons_zero] <;> rfl) (by rfl) (by kernel_rfl) (by kernel_rfl) (by kernel_rfl) (fun _ _ _ h => h) (by rfl) (by kernel_rfl) ?_ ?_
  rotate_left
  · ((intro u hu); have kR := (hR.kb hu (List.mem_cons_self ..)).cell (i := 2) rfl; have kG := (hG.kb hu (List.mem_cons_of_mem _ (List.mem_singleton.2 rfl))).ld rowGt (gtC_len gt); go_simp; try with_reducible rfl)
  try simp only [Act.put, List.setIfInBounds_toArray, List.set_cons_zero, List.set_cons_succ]
  refine wb_one (i := 7) (by simp only [List.getElem?_toArray, List.getElem?_cons_succ, List.getElem?_cons_zero] <;> rfl) (by kernel_rfl) (by rfl) (fun K hK => ?_)
  go_simp
  refine hK _ _ (Kb.gb (World.grownBy_alloc _ _ none) (two_mem2 ⟨hR.lt, by simp⟩ ⟨hG.lt, by simp⟩)) ?_
  refine wb_new (cs := gtC gt) (t := 255) (fun u3 hv3 hL3 hz3 => ?_)
  replace hR := hR.below hv3
  replace hG := hG.below hv3
  replace hSs := hSs.below hv3
  replace hSt := hSt.below hv3
  replace hgw := gb_belU hgw hv3 hgw.size
  replace hzw := Nat.le_trans hzw hv3.size
  clear hK K hv3 hz3
  try simp only [Act.put, List.setIfInBounds_toArray, List.set_cons_zero, List.set_cons_succ]
  refine wb_one (i := 8) (by simp only [List.getElem?_toArray, List.getElem?_cons_succ, List.getElem?_cons_zero] <;> rfl) (by kernel_rfl) (by rfl) (fun K hK => ?_)
  refine wp_app tyeGt _ _ rfl (w.heap.size) _ [] [gt] rfl (OwnE.nil _ _) ⟨_, 0, none⟩ 1 1 rfl rfl ?c1 ?c2 ?c3 ?_
  case c1 =>
    intro j u hj
    rw [Enc.cells_single] at hj
    rw [Addr.add_lit, Nat.zero_add]
    exact hL3.cell hj
  case c2 => simp
  case c3 => exact hzw
  intro v3 x3 hown3 hg3 hd3
  clear hd3
  have hg3' : Below _ u3 x3 := gb_below_none hg3
  refine hK _ _ (Kb.below hg3' (two_mem2 hR.lt hG.lt)) ?_
  replace hR := hR.below hg3'
  replace hSs := hSs.below hg3'
  replace hSt := hSt.below hg3'
  replace hgw := gb_belU hgw hg3' hgw.size
  replace hzw := Nat.le_trans hzw hg3'.size
  obtain ⟨g3, c3, rfl, hg3w, hg3l, _, _⟩ := hown3.form (by simp)
  clear hK K hg3 hg3' hL3 hG
  try simp only [Act.put, List.setIfInBounds_toArray, List.set_cons_zero, List.set_cons_succ]
  refine wb_pure (i := 9) (d := some 61) (v := ?_) (by simp only [List.getElem?_toArray, List.getElem?_cons_succ, List.getElem?_cons_zero] <;> rfl) (by rfl) (by kernel_rfl) (by kernel_rfl) (by kernel_rfl) (fun _ _ _ h => h) (by rfl) ?_ ?_
  rotate_left
  · ((intro u); go_simp; try with_reducible rfl)
  try simp only [Act.put, List.setIfInBounds_toArray, List.set_cons_zero, List.set_cons_succ]
  refine wb_pure (i := 10) (d := some 62) (v := ?_) (by simp only [List.getElem?_toArray, List.getElem?_cons_succ, List.getElem?_cons_zero] <;> rfl) (by rfl) (by kernel_rfl) (by kernel_rfl) (by kernel_rfl) (fun _ _ _ h => h) (by rfl) ?_ ?_
  rotate_left
  · ((intro u); go_simp; try with_reducible rfl)
  try simp only [Act.put, List.setIfInBounds_toArray, List.set_cons_zero, List.set_cons_succ]
  refine wb_pure (i := 11) (d := some 63) (v := ?_) (by simp only [List.getElem?_toArray, List.getElem?_cons_succ, List.getElem?_cons_zero] <;> rfl) (by rfl) (by kernel_rfl) (by kernel_rfl) (by kernel_rfl) (fun _ _ _ h => h) (by rfl) ?_ ?_
  rotate_left
  · ((intro u); go_simp; try with_reducible rfl)
  try simp only [Act.put, List.setIfInBounds_toArray, List.set_cons_zero, List.set_cons_succ]
  refine wb_store (i := 12) (by simp only [List.getElem?_toArray, List.getElem?_cons_succ, List.getElem?_cons_zero] <;> rfl) (by kernel_rfl) (by rfl) (by kernel_rfl) (fun K hK => ?_)
  go_simp
  have cR := hR.cell (i := 2) rfl
  have fR := hR.free 2
  go_simp
  refine hK _ _ ?_
  clear hK K
  try simp only [Act.put, List.setIfInBounds_toArray, List.set_cons_zero, List.set_cons_succ]
  refine wb_done (by kernel_rfl) ?_ _
  skip
  have hRS := hR.set 2 (.slice (some ⟨g3, 0, none⟩) 1 c3)
  have hgS := gb_cell1U x3 R 2 (.slice (some ⟨g3, 0, none⟩) 1 c3)
  have hoS : OwnE eGt 255 w.heap.size (x3.setCell ⟨R, 2, none⟩ (.slice (some ⟨g3, 0, none⟩) 1 c3)) (.slice (some ⟨g3, 0, none⟩) 1 c3) [gt] := OwnE.gb (show OwnE eGt 255 w.heap.size x3 (.slice (some ⟨g3, 0, none⟩) 1 c3) [gt] from hown3) hgS (.inr (by intro e; have h : g3 = R := Option.some.inj e; omega))
  have h1S := slE_gbU hSs hgS (fun ad e k => by cases e; have h : gs = R := Option.some.inj k; omega)
  have h2S := slE_gbU hSt hgS (fun ad e k => by cases e; have h : gd = R := Option.some.inj k; omega)
  have hgF := gb_trans hgw hgS
  rw [hgt.out] at hoS
  clear hR hSs hSt hgw hzw hown3 hgS
  replace hRS := Lib.hid hRS
  replace hoS := Lib.hid hoS
  replace h1S := Lib.hid h1S
  replace h2S := Lib.hid h2S
  go_wp2_with fail
  go_ret
  exact ⟨rfl, g3, c3, _, _, hRS.out, hoS.out, h1S.out, h2S.out, hgF⟩
end Go.Proofs.YtfiocnjogbpgoaaGreatDoor
namespace Go.Proofs.YtfiocnjogbpgoaaGreatDoor
open Go.RowKit
set_option linter.unusedVariables false
set_option linter.unusedSimpArgs false

theorem Rd2.setCell {w : World} (h : Rd2 w) {p : Addr} (hp : 9 ≤ p.block) (v : Value) : Rd2 (w.setCell p v) := by
  have hl := h.lt
  obtain ⟨m, hm⟩ := h.maxl
  refine ⟨⟨m, ?_⟩, ?_, Nat.le_trans hl (by simp [World.setCell])⟩
  · rw [World.cell?_of_block (w := w) (Below.heap_setCell _ _ _ _ (fun e => by have e' : 0 = p.block := e; omega))]; exact hm
  · intro i v hv
    have := h.forms i v hv
    rw [World.cell?_of_block (w := w) (Below.heap_setCell _ _ _ _ (fun e => by have e' : 2 = p.block := e; omega))]
    exact this
abbrev lineB : ByteArray := ⟨#[97, 108, 108, 111, 119, 32, 42, 32, 45, 62, 32, 42]⟩
theorem line_count : Lib.countB lineB ⟨#[32]⟩ = 3 := by decide +kernel
theorem line_split : Lib.splitB ⟨#[32]⟩ 0 3 lineB = [⟨#[97, 108, 108, 111, 119]⟩, ⟨#[42]⟩, ⟨#[45, 62]⟩, ⟨#[42]⟩] := by decide +kernel
abbrev wordsC : List Value := [.string ⟨#[97, 108, 108, 111, 119]⟩, .string ⟨#[42]⟩, .string ⟨#[45, 62]⟩, .string ⟨#[42]⟩]
theorem splitLine_any (w : World) (hF : Rd2 w) : Calls Tryz.prog 77 #[.string lineB, .string ⟨#[32]⟩] w fun e w' => e = .returned (.slice (some ⟨w.heap.size, 0, none⟩) 4 4) ∧ w' = w.alloc (.cells wordsC.toArray 9) := by
  obtain ⟨m, hm⟩ := hF.maxl
  refine (Tryz.strings_Split lineB ⟨#[32]⟩ m w (by decide) hm (by decide)).mono ?_
  rintro e w' ⟨rfl, rfl⟩
  rw [line_count, line_split]
  exact ⟨rfl, rfl⟩

set_option maxHeartbeats 2000000 in
set_option maxRecDepth 100000 in
theorem takeStar_any (R : Nat) (w : World) (hF : Rd2 w) (hR : Blk w R (rdC (.slice none 0 0) 0) 147) (hRN : 9 ≤ R) :
    Calls Tryz.prog 89 #[.pointer (some ⟨R, 0, none⟩), .string lineB] w (GrP R w) := by
  have HS := Lib.hid (splitLine_any w hF)
  have hL := Blk.new w wordsC 9
  have hbA : Below w.heap.size w (w.alloc (.cells wordsC.toArray 9)) := (Below.refl _ _).alloc (Nat.le_refl _) _
  have hRw := hR.lt
  have hRA := hR.below hbA
  have hFA := hF.below hbA
  have HC := Lib.hid (Tryz.slices_Contains_string w.heap.size 0 4 4 [⟨#[97, 108, 108, 111, 119]⟩, ⟨#[42]⟩, ⟨#[45, 62]⟩, ⟨#[42]⟩] ⟨#[]⟩ (w.alloc (.cells wordsC.toArray 9)) (by decide) (by decide) (fun j hj => by
    rw [Nat.zero_add]
    refine hL.cell ?_
    match j, hj with
    | 0, _ => rfl
    | 1, _ => rfl
    | 2, _ => rfl
    | 3, _ => rfl))
  rw [show Lib.containsS (List.take 4 [⟨#[97, 108, 108, 111, 119]⟩, ⟨#[42]⟩, ⟨#[45, 62]⟩, ⟨#[42]⟩]) ⟨#[]⟩ = false by decide +kernel] at HC
  have hz : (w.alloc (.cells wordsC.toArray 9)).heap.size = w.heap.size + 1 := World.size_alloc _ _
  go_enter Tryz.func89, Tryz.ntmps89
  go_wp2_with fail
  refine HS.out.mono ?_
  rintro e w1 ⟨rfl, hw1⟩
  rw [← hw1] at hL hbA hRA hFA HC hz
  clear HS hw1
  obtain ⟨g0, hg0⟩ : ∃ g, g = w.heap.size := ⟨_, rfl⟩
  rw [← hg0] at hL HC hz ⊢
  replace hg0 := Lib.hid hg0
  replace hz := Lib.hid hz
  go_wp2_with fail
  refine HC.out.mono ?_
  rintro e w2 ⟨rfl, hw2⟩
  rw [hw2]
  clear hw2
  have l0 := hL.cell (i := 0) rfl
  clear HC
  have HK := Lib.hid (comes_any R 0 2 w1 hRA (by decide))
  have hR2 := hRA.set 4 (.int .i64 2)
  replace hR2 : Blk _ R (rdC (.slice none 0 0) 2) 147 := hR2
  have hL2 := hL.other (a := ⟨R, 4, none⟩) (by have := hg0.out; simp; omega) (.int .i64 2)
  have hF2 := hFA.setCell (p := ⟨R, 4, none⟩) hRN (.int .i64 2)
  have hgS := gb_cell1U w1 R 4 (.int .i64 2)
  have HG := Lib.hid (takeGrantStar_any R g0 _ hF2 hR2 hL2.lt (hL2.cell (i := 1) rfl) (hL2.cell (i := 2) rfl) (hL2.cell (i := 3) rfl))
  have hgw : w.grownBy w1 (some R) := ⟨hbA.os, hbA.tape, hbA.output, hbA.size, fun k hk _ => hbA.block k hk⟩
  clear hR2 hL2 hF2 hFA hRA hL hF hR hbA
  go_wp2_with fail
  refine HK.out.mono ?_
  rintro e w3 ⟨rfl, hw3⟩
  rw [← hw3] at HG hgS
  have hgw3 := gb_trans hgw hgS
  clear hw3 HK hgS hgw
  go_wp2_with fail
  refine HG.out.mono ?_
  rintro e w4 ⟨rfl, g, c, s, d, hR4, hO4, h1, h2, hg4⟩
  have hgF := gb_trans hgw3 hg4
  replace hR4 := Lib.hid hR4
  replace hO4 := Lib.hid (hO4.mono hgw3.size)
  replace h1 := Lib.hid h1
  replace h2 := Lib.hid h2
  clear HG hg4 hgw3
  go_wp2_with fail
  go_ret
  exact ⟨rfl, g, c, s, d, hR4.out, hO4.out, h1.out, h2.out, hgF⟩
end Go.Proofs.YtfiocnjogbpgoaaGreatDoor
namespace Go.Proofs.YtfiocnjogbpgoaaGreatDoor
open Go.RowKit
set_option linter.unusedVariables false
set_option linter.unusedSimpArgs false

abbrev textB : ByteArray := ⟨#[97, 108, 108, 111, 119, 32, 42, 32, 45, 62, 32, 42, 10]⟩
theorem cutLine_any (w : World) (hF : Rd2 w) : Calls Tryz.prog 38 #[.string textB, .string ⟨#[10]⟩] w (GivesV (.tuple #[.string lineB, .string ⟨#[]⟩, .bool true]) w) := by
  have h := cutNo_any [97, 108, 108, 111, 119, 32, 42, 32, 45, 62, 32, 42, 10] [10] w hF (by decide)
  rw [show Lib.cut [97, 108, 108, 111, 119, 32, 42, 32, 45, 62, 32, 42, 10] [10] = ([97, 108, 108, 111, 119, 32, 42, 32, 45, 62, 32, 42], [], true) by decide +kernel] at h
  exact h
/-- What the reader holds when the line is read. -/
def GrQ (R : Nat) (w w' : World) : Prop := ∃ g c s d, Blk w' R (rdC (.slice (some ⟨g, 0, none⟩) 1 c) 2) 147 ∧ OwnE eGt 255 w.heap.size w' (.slice (some ⟨g, 0, none⟩) 1 c) [⟨s, d, 0, ⟨none, 0, 0⟩⟩] ∧ SlE eWh w' s.A s.n s.c [wStar] ∧ SlE eTg w' d.A d.n d.c [tStar] ∧ w.grownBy w' (some R)

set_option maxHeartbeats 2000000 in
set_option maxRecDepth 100000 in
theorem readLinesStar_any (R : Nat) (w : World) (hF : Rd2 w) (hR : Blk w R (rdC (.slice none 0 0) 0) 147) (hRN : 9 ≤ R) :
    Calls Tryz.prog 88 #[.string textB, .func (.func 89) #[.pointer (some ⟨R, 0, none⟩)] #[]] w fun e w' => e = .returned (.tuple #[.int .i64 0, .int .i64 0]) ∧ GrQ R w w' := by
  have HC := Lib.hid (cutLine_any w hF)
  go_enter Tryz.func88, Tryz.ntmps88
  go_wp2_with fail
  refine wp_loop_rounds 2 ?_
  rw [rounds_succ]
  go_wp2_with fail
  refine HC.out.mono ?_
  rintro e w1 ⟨rfl, hb1⟩
  have HT := Lib.hid (takeStar_any R w1 (hF.below hb1) (hR.below hb1) hRN)
  clear HC hF hR
  go_wp2_with fail
  refine HT.out.mono ?_
  rintro e w2 ⟨rfl, g, c, s, d, hR2, hO2, h1, h2, hg2⟩
  have hgF : w.grownBy w2 (some R) := gb_trans ⟨hb1.os, hb1.tape, hb1.output, hb1.size, fun k hk _ => hb1.block k hk⟩ hg2
  replace hR2 := Lib.hid hR2
  replace hO2 := Lib.hid (hO2.mono hb1.size)
  replace h1 := Lib.hid h1
  replace h2 := Lib.hid h2
  clear HT hb1 hg2
  go_wp2_with fail
  rw [rounds_succ]
  go_wp2_with fail
  go_ret2
  exact ⟨rfl, g, c, s, d, hR2.out, hO2.out, h1.out, h2.out, hgF⟩
end Go.Proofs.YtfiocnjogbpgoaaGreatDoor
