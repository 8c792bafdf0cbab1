/- A policy that is read. -/
import Derived.Test.YtfbggfpihiegpaaGreatDoorKpGzA
import Derived.Test.YtfbggfpihiegpaaGreatDoorKpRuK
import Derived.Test.YtfbggfpihiegpaaGreatDoorKpRlB
import Derived.Test.YtfbggfpihiegpaaGreatDoorKpWaysB
import Derived.Test.YtfbggfpihiegpaaGreatDoorKpRvC
set_option linter.unusedVariables false
set_option linter.unusedSimpArgs false
set_option maxRecDepth 100000
namespace Go.Proofs.YtfbggfpihiegpaaGreatDoor
open Go.RowKit

set_option maxHeartbeats 400000 in
theorem readOptionShort_any (A : Option Addr) (n c : Nat) (name : List UInt8) (fv : Value) (w : World) (hn : n < 2) :
    Calls Tryz.prog 150 #[.slice A n c, .string ⟨name.toArray⟩, fv] w fun e w' => e = .returned (.tuple #[.slice A n c, .bool true]) ∧ w = w' := by
  have h1 : (n : Int) < 2 := by omega
  have d1 : decide ((n : Int) < 2) = true := decide_eq_true h1
  go_enter Tryz.func150, Tryz.ntmps150
  go_wp2_with fail
  go_ret2
  exact ⟨rfl, rfl⟩
def rdC (gr : Value) (last : Int) : List Value := [.slice none 0 0, .slice none 0 0, gr, .slice none 0 0, .int .i64 last]

set_option maxHeartbeats 400000 in
theorem comes_any (R : Nat) (last k : Int) (w : World) (hR : Blk w R (rdC (.slice none 0 0) last) 117) (hk : last ≤ k) :
    Calls Tryz.prog 85 #[.pointer (some ⟨R, 0, none⟩), .int .i64 k] w fun e w' => e = .returned (.bool true) ∧ w' = w.setCell ⟨R, 4, none⟩ (.int .i64 k) := by
  have c4 := hR.cell (i := 4) (v := .int .i64 last) rfl
  have f4 := hR.free 4
  have d4 : decide (last ≤ k) = true := decide_eq_true hk
  go_enter Tryz.func85, Tryz.ntmps85
  go_wp2_with fail
  go_ret
  exact ⟨rfl, rfl⟩

theorem two_mem2 {a b : Nat} {P : Nat → Prop} (h1 : P a) (h2 : P b) : ∀ q ∈ [a, b], P q := by
  intro q hq
  rcases List.mem_cons.1 hq with h | h
  · rw [h]; exact h1
  · rw [List.mem_singleton.1 h]; exact h2
theorem gb_below_none {w w' : World} (h : w.grownBy w' (Value.slice none 0 0).ownBlock) : Below w.heap.size w w' := ⟨h.os, h.tape, h.output, h.size, fun k hk => h.block k hk (by intro e; cases e)⟩
theorem gb_belU {a x y : World} {r : Option Nat} {B : Nat} (h : a.grownBy x r) (hb : Below B x y) (hB : a.heap.size ≤ B) : a.grownBy y r :=
  ⟨hb.os.trans h.os, hb.tape.trans h.tape, hb.output.trans h.output, Nat.le_trans h.size hb.size, fun k hk hne => (hb.block k (Nat.lt_of_lt_of_le hk hB)).trans (h.block k hk hne)⟩
theorem gb_cell1U (w : World) (p i : Nat) (x : Value) : w.grownBy (w.setCell ⟨p, i, none⟩ x) (some p) :=
  ⟨rfl, rfl, rfl, by simp, fun k _ hne => Below.heap_setCell _ _ _ _ (by intro e; exact hne (by rw [e]))⟩
theorem slE_gbU {α : Type} {E : Enc α} {w w' : World} {A : Option Addr} {n cap : Nat} {xs : List α} {r : Option Nat} (h : SlE E w A n cap xs) (hg : w.grownBy w' r) (hr : ∀ ad, A = some ad → some ad.block ≠ r) : SlE E w' A n cap xs := by
  obtain ⟨h1, h2, h3, h4⟩ := h
  refine ⟨h1, h2, h3, ?_⟩
  rcases h4 with h4 | ⟨g, off, hA, hlt, hc⟩
  · exact .inl h4
  · exact .inr ⟨g, off, hA, Nat.lt_of_lt_of_le hlt hg.size, fun k x hx i v hv => hg.cell (hc k x hx i v hv) (fun e => hr _ hA e)⟩
theorem pieces_star : pieces [42] 44 = [[42]] := by decide
def OneP {α : Type} (E : Enc α) (t : TypeId) (x : α) (w : World) (e : Ending) (w' : World) : Prop := ∃ g c, e = .returned (.tuple #[.slice (some ⟨g, 0, none⟩) 1 c, .bool true]) ∧ SlE E w' (some ⟨g, 0, none⟩) 1 c [x] ∧ Below w.heap.size w w' ∧ w.heap.size ≤ g
theorem RlP.one {α : Type} {E : Enc α} {t : TypeId} {x : α} {w w' : World} {e : Ending} (h : RlP E t (fun _ => x) (fun _ => true) (pieces [42] 44) w e w') : OneP E t x w e w' := by
  rw [pieces_star] at h
  obtain ⟨hb, ⟨_, v, rfl, hown⟩ | ⟨h0, _⟩⟩ := h
  · obtain ⟨g, c, hv, hgB, _⟩ := hown.form (by simp)
    obtain ⟨A', c', hv', hS⟩ := hown.sl
    rw [hv] at hv'
    injection hv' with e1 e2 e3
    subst e1 e3
    exact ⟨g, c, by rw [hv]; rfl, hS, hb, hgB⟩
  · cases h0
theorem readListWhStar_any (w : World) (hF : Rd2 w) : Calls Tryz.prog 146 #[.string ⟨#[42]⟩, .func (.func 147) #[] #[]] w (OneP eWh 222 wStar w) :=
  (readListWh_any (fun _ => wStar) (fun _ => true) [42] w (by decide) (by rw [pieces_star]; decide) (fun p hp W hW => by
    rw [pieces_star] at hp
    rw [List.mem_singleton.1 hp]
    exact readWhatStar_any W (hF.below hW))).mono fun _ _ h => h.one
theorem readListTgStar_any (w : World) (hF : Rd2 w) : Calls Tryz.prog 148 #[.string ⟨#[42]⟩, .func (.func 149) #[] #[]] w (OneP eTg 230 tStar w) :=
  (readListTg_any (fun _ => tStar) (fun _ => true) [42] w (by decide) (by rw [pieces_star]; decide) (fun p hp W hW => by
    rw [pieces_star] at hp
    rw [List.mem_singleton.1 hp]
    exact readTargetStar_any W (hF.below hW))).mono fun _ _ h => h.one
def GrP (R : Nat) (w : World) (e : Ending) (w' : World) : Prop := e = .returned (.bool true) ∧ ∃ g c s d, Blk w' R (rdC (.slice (some ⟨g, 0, none⟩) 1 c) 2) 117 ∧ OwnE eGt 233 w.heap.size w' (.slice (some ⟨g, 0, none⟩) 1 c) [⟨s, d, 0, ⟨none, 0, 0⟩⟩] ∧ SlE eWh w' s.A s.n s.c [wStar] ∧ SlE eTg w' d.A d.n d.c [tStar] ∧ w.grownBy w' (some R)

set_option maxHeartbeats 4000000 in
theorem takeGrantStar_any (R gw : Nat) (w : World) (hF : Rd2 w) (hR : Blk w R (rdC (.slice none 0 0) 2) 117) (hgw0 : gw < w.heap.size) (k1 : w.cell? ⟨gw, 1, none⟩ = some (.string ⟨#[42]⟩)) (k2 : w.cell? ⟨gw, 2, none⟩ = some (.string ⟨#[45, 62]⟩)) (k3 : w.cell? ⟨gw, 3, none⟩ = some (.string ⟨#[42]⟩)) :
    Calls Tryz.prog 88 #[.pointer (some ⟨R, 0, none⟩), .slice (some ⟨gw, 1, none⟩) 3 3] w (GrP R w) := by
  have H1 := Lib.hid (readListWhStar_any w hF)
  have hgw := Below.refl w.heap.size w
  have hRw := hR.lt
  go_enter Tryz.func88, Tryz.ntmps88
  go_wp2_with fail
  refine H1.out.mono ?_
  rintro e w1 ⟨gs, cs, rfl, hSs, hb1, hgs⟩
  have hs1 := hb1.size
  replace hF := hF.below hb1
  replace hR := hR.below hb1
  replace hgw := hgw.trans hb1
  have k3' : w1.cell? ⟨gw, 3, none⟩ = some (.string ⟨#[42]⟩) := by rw [World.cell?_of_block (w := w) (hb1.block _ hgw0)]; exact k3
  have H2 := Lib.hid (readListTgStar_any w1 hF)
  clear H1 hb1 k1 k2 k3
  go_wp2_with fail
  refine H2.out.mono ?_
  rintro e w2 ⟨gd, cd, rfl, hSt, hb2, hgd0⟩
  have hgd : w.heap.size ≤ gd := Nat.le_trans hs1 hgd0
  clear hgd0 hs1
  replace hR := hR.below hb2
  replace hSs := hSs.below hb2
  replace hgw := hgw.trans (hb2.mono hgw.size)
  clear H2 hb2 k3' hF
  obtain ⟨gt, hgt⟩ : ∃ gt : Gt, gt = ⟨⟨some ⟨gs, 0, none⟩, 1, cs⟩, ⟨some ⟨gd, 0, none⟩, 1, cd⟩, 0, ⟨none, 0, 0⟩⟩ := ⟨_, rfl⟩
  have B5 : (bdT 233 (.slice (some ⟨gs, 0, none⟩) 1 cs) (.slice (some ⟨gd, 0, none⟩) 1 cd)).run Tryz.prog w2 = .ok (.value (.agg (gtC gt).toArray)) w2 := by rw [hgt]; exact run_bdGt ⟨some ⟨gs, 0, none⟩, 1, cs⟩ ⟨some ⟨gd, 0, none⟩, 1, cd⟩ w2
  have S5 : (stT 233 (.pointer (some ⟨w2.heap.size, 0, none⟩)) (.agg (gtC gt).toArray)).run Tryz.prog (w2.alloc (.cells #[.slice none 0 0, .slice none 0 0, .int .i64 0, .slice none 0 0] 233)) = .ok .skip (w2.alloc (.cells (gtC gt).toArray 233)) :=
    stT_new rowGt w2 w2.heap.size rfl zGtC (gtC gt) rfl (gtC_len _) (gtC_one _)
  have hG := Blk.new w2 (gtC gt) 233
  have hrl := hR.lt
  have hgn : R ≠ w2.heap.size := by omega
  have hbA : Below w2.heap.size w2 (w2.alloc (.cells (gtC gt).toArray 233)) := (Below.refl _ _).alloc (Nat.le_refl _) _
  replace hR := hR.below hbA
  replace hSs := hSs.below hbA
  replace hSt := hSt.below hbA
  replace hgw := hgw.trans (hbA.mono hgw.size)
  have hgw2 : w.grownBy (w2.alloc (.cells (gtC gt).toArray 233)) (some R) := ⟨hgw.os, hgw.tape, hgw.output, hgw.size, fun k hk _ => hgw.block k hk⟩
  have hzw := hgw.size
  replace hgt := Lib.hid hgt
  go_upto_region 6 with fail
  obtain ⟨wX, hwX⟩ : ∃ x, x = w2.alloc (.cells (gtC gt).toArray 233) := ⟨_, rfl⟩
  rw [← hwX] at hG hR hSs hSt hgw2 hgw hzw ⊢
  generalize w2.heap.size = gp at hG hgn ⊢
  clear hwX hbA B5 S5 hgw
  have hgw := hgw2
  clear hgw2
  go_wp2_with fail
  refine (readOptionShort_any _ _ _ _ _ _ (by decide)).mono ?_
  rintro e wo ⟨rfl, rfl⟩
  go_wp2_with fail
  refine (readOptionShort_any _ _ _ _ _ _ (by decide)).mono ?_
  rintro e wo ⟨rfl, rfl⟩
  go_upto_region 8 with fail
  refine wb_begin ([R, gp]) [12] (by kernel_rfl) (fun u0 hb0' hz0' => ?_)
  replace hR := hR.below hb0'
  replace hG := hG.below hb0'
  replace hSs := hSs.below hb0'
  replace hSt := hSt.below hb0'
  replace hgw := gb_belU hgw hb0' (by have := hgw.size; omega)
  replace hzw : w.heap.size ≤ _ := Nat.le_trans hzw hb0'.size
  clear hb0' hz0'
  refine wb_pureZ 0 (some 52) (v := ?_) ?_ ?_; rotate_left; · (intro u; go_simp; try with_reducible rfl)
  try simp only [Act.put, gzD, gzE, gzF]
  refine wb_pureZ 1 (some 53) (v := ?_) ?_ ?_; rotate_left; · (intro u; go_simp; try with_reducible rfl)
  try simp only [Act.put, gzD, gzE, gzF]
  refine wb_pureZ 2 (some 54) (v := ?_) ?_ ?_; rotate_left; · (intro u; go_simp; try with_reducible rfl)
  try simp only [Act.put, gzD, gzE, gzF]
  refine wb_pureZ 3 (some 55) (v := ?_) ?_ ?_; rotate_left; · (intro u; go_simp; try with_reducible rfl)
  try simp only [Act.put, gzD, gzE, gzF]
  refine wb_pureZ 4 (some 56) (v := ?_) ?_ ?_; rotate_left; · (intro u; go_simp; try with_reducible rfl)
  try simp only [Act.put, gzD, gzE, gzF]
  refine wb_takeZ 5 (some 57) (v := ?_) ?_ ?_; rotate_left; · (intro u hu; have kR := (hR.kb hu (List.mem_cons_self ..)).cell (i := 2) rfl; have kG := (hG.kb hu (List.mem_cons_of_mem _ (List.mem_singleton.2 rfl))).ld rowGt (gtC_len gt); go_simp; try with_reducible rfl)
  try simp only [Act.put, gzD, gzE, gzF]
  refine wb_takeZ 6 (some 58) (v := ?_) ?_ ?_; rotate_left; · (intro u hu; have kR := (hR.kb hu (List.mem_cons_self ..)).cell (i := 2) rfl; have kG := (hG.kb hu (List.mem_cons_of_mem _ (List.mem_singleton.2 rfl))).ld rowGt (gtC_len gt); go_simp; try with_reducible rfl)
  try simp only [Act.put, gzD, gzE, gzF]
  refine wb_oneZ 7 (fun K hK => ?_)
  go_simp
  refine hK _ _ (Kb.gb (World.grownBy_alloc _ _ none) (two_mem2 ⟨hR.lt, by simp⟩ ⟨hG.lt, by simp⟩)) ?_
  refine wb_new (cs := gtC gt) (t := 233) (fun u3 hv3 hL3 hz3 => ?_)
  replace hR := hR.below hv3
  replace hG := hG.below hv3
  replace hSs := hSs.below hv3
  replace hSt := hSt.below hv3
  replace hgw := gb_belU hgw hv3 hgw.size
  replace hzw := Nat.le_trans hzw hv3.size
  clear hK K hv3 hz3
  try simp only [Act.put, gzD, gzE, gzF]
  refine wb_oneZ 8 (fun K hK => ?_)
  refine wp_app tyeGt _ _ rfl (w.heap.size) _ [] [gt] rfl (OwnE.nil _ _) ⟨_, 0, none⟩ 1 1 rfl rfl ?c1 ?c2 ?c3 ?_
  case c1 =>
    intro j u hj
    rw [Enc.cells_single] at hj
    rw [Addr.add_lit, Nat.zero_add]
    exact hL3.cell hj
  case c2 => simp
  case c3 => exact hzw
  intro v3 x3 hown3 hg3 hd3
  clear hd3
  have hg3' : Below _ u3 x3 := gb_below_none hg3
  refine hK _ _ (Kb.below hg3' (two_mem2 hR.lt hG.lt)) ?_
  replace hR := hR.below hg3'
  replace hSs := hSs.below hg3'
  replace hSt := hSt.below hg3'
  replace hgw := gb_belU hgw hg3' hgw.size
  replace hzw := Nat.le_trans hzw hg3'.size
  obtain ⟨g3, c3, rfl, hg3w, hg3l, _, _⟩ := hown3.form (by simp)
  clear hK K hg3 hg3' hL3 hG
  try simp only [Act.put, gzD, gzE, gzF]
  refine wb_pureZ 9 (some 61) (v := ?_) ?_ ?_; rotate_left; · (intro u; go_simp; try with_reducible rfl)
  try simp only [Act.put, gzD, gzE, gzF]
  refine wb_pureZ 10 (some 62) (v := ?_) ?_ ?_; rotate_left; · (intro u; go_simp; try with_reducible rfl)
  try simp only [Act.put, gzD, gzE, gzF]
  refine wb_pureZ 11 (some 63) (v := ?_) ?_ ?_; rotate_left; · (intro u; go_simp; try with_reducible rfl)
  try simp only [Act.put, gzD, gzE, gzF]
  refine wb_store (i := 12) (by simp only [gzA, gzB, gzC] <;> rfl) (by kernel_rfl) (by rfl) (by kernel_rfl) (fun K hK => ?_)
  go_simp
  have cR := hR.cell (i := 2) rfl
  have fR := hR.free 2
  go_simp
  refine hK _ _ ?_
  clear hK K
  try simp only [Act.put, gzD, gzE, gzF]
  refine wb_done (by kernel_rfl) ?_ _
  skip
  have hRS := hR.set 2 (.slice (some ⟨g3, 0, none⟩) 1 c3)
  have hgS := gb_cell1U x3 R 2 (.slice (some ⟨g3, 0, none⟩) 1 c3)
  have hoS : OwnE eGt 233 w.heap.size (x3.setCell ⟨R, 2, none⟩ (.slice (some ⟨g3, 0, none⟩) 1 c3)) (.slice (some ⟨g3, 0, none⟩) 1 c3) [gt] := OwnE.gb (show OwnE eGt 233 w.heap.size x3 (.slice (some ⟨g3, 0, none⟩) 1 c3) [gt] from hown3) hgS (.inr (by intro e; have h : g3 = R := Option.some.inj e; omega))
  have h1S := slE_gbU hSs hgS (fun ad e k => by cases e; have h : gs = R := Option.some.inj k; omega)
  have h2S := slE_gbU hSt hgS (fun ad e k => by cases e; have h : gd = R := Option.some.inj k; omega)
  have hgF := gb_trans hgw hgS
  rw [hgt.out] at hoS
  clear hR hSs hSt hgw hzw hown3 hgS
  replace hRS := Lib.hid hRS
  replace hoS := Lib.hid hoS
  replace h1S := Lib.hid h1S
  replace h2S := Lib.hid h2S
  go_wp2_with fail
  go_ret
  exact ⟨rfl, g3, c3, _, _, hRS.out, hoS.out, h1S.out, h2S.out, hgF⟩

theorem Rd2.setCell {w : World} (h : Rd2 w) {p : Addr} (hp : 9 ≤ p.block) (v : Value) : Rd2 (w.setCell p v) := by
  have hl := h.lt
  obtain ⟨m, hm⟩ := h.maxl
  refine ⟨⟨m, ?_⟩, ?_, Nat.le_trans hl (by simp [World.setCell])⟩
  · rw [World.cell?_of_block (w := w) (Below.heap_setCell _ _ _ _ (fun e => by have e' : 1 = p.block := e; omega))]; exact hm
  · intro i v hv
    have := h.forms i v hv
    rw [World.cell?_of_block (w := w) (Below.heap_setCell _ _ _ _ (fun e => by have e' : 0 = p.block := e; omega))]
    exact this
abbrev lineB : ByteArray := ⟨#[97, 108, 108, 111, 119, 32, 42, 32, 45, 62, 32, 42]⟩
theorem line_count : Lib.countB lineB ⟨#[32]⟩ = 3 := by decide +kernel
theorem line_split : Lib.splitB ⟨#[32]⟩ 0 3 lineB = [⟨#[97, 108, 108, 111, 119]⟩, ⟨#[42]⟩, ⟨#[45, 62]⟩, ⟨#[42]⟩] := by decide +kernel
abbrev wordsC : List Value := [.string ⟨#[97, 108, 108, 111, 119]⟩, .string ⟨#[42]⟩, .string ⟨#[45, 62]⟩, .string ⟨#[42]⟩]
theorem splitLine_any (w : World) (hF : Rd2 w) : Calls Tryz.prog 83 #[.string lineB, .string ⟨#[32]⟩] w fun e w' => e = .returned (.slice (some ⟨w.heap.size, 0, none⟩) 4 4) ∧ w' = w.alloc (.cells wordsC.toArray 9) := by
  obtain ⟨m, hm⟩ := hF.maxl
  refine (Tryz.strings_Split lineB ⟨#[32]⟩ m w (by decide) hm (by decide)).mono ?_
  rintro e w' ⟨rfl, rfl⟩
  rw [line_count, line_split]
  exact ⟨rfl, rfl⟩

set_option maxHeartbeats 2000000 in
theorem takeStar_any (R : Nat) (w : World) (hF : Rd2 w) (hR : Blk w R (rdC (.slice none 0 0) 0) 117) (hRN : 9 ≤ R) :
    Calls Tryz.prog 54 #[.pointer (some ⟨R, 0, none⟩), .string lineB] w (GrP R w) := by
  have HS := Lib.hid (splitLine_any w hF)
  have hL := Blk.new w wordsC 9
  have hbA : Below w.heap.size w (w.alloc (.cells wordsC.toArray 9)) := (Below.refl _ _).alloc (Nat.le_refl _) _
  have hRw := hR.lt
  have hRA := hR.below hbA
  have hFA := hF.below hbA
  have HC := Lib.hid (Tryz.slices_Contains_string w.heap.size 0 4 4 [⟨#[97, 108, 108, 111, 119]⟩, ⟨#[42]⟩, ⟨#[45, 62]⟩, ⟨#[42]⟩] ⟨#[]⟩ (w.alloc (.cells wordsC.toArray 9)) (by decide) (by decide) (fun j hj => by
    rw [Nat.zero_add]
    refine hL.cell ?_
    match j, hj with
    | 0, _ => rfl
    | 1, _ => rfl
    | 2, _ => rfl
    | 3, _ => rfl))
  rw [show Lib.containsS (List.take 4 [⟨#[97, 108, 108, 111, 119]⟩, ⟨#[42]⟩, ⟨#[45, 62]⟩, ⟨#[42]⟩]) ⟨#[]⟩ = false by decide +kernel] at HC
  have hz : (w.alloc (.cells wordsC.toArray 9)).heap.size = w.heap.size + 1 := World.size_alloc _ _
  go_enter Tryz.func54, Tryz.ntmps54
  go_wp2_with fail
  refine HS.out.mono ?_
  rintro e w1 ⟨rfl, hw1⟩
  rw [← hw1] at hL hbA hRA hFA HC hz
  clear HS hw1
  obtain ⟨g0, hg0⟩ : ∃ g, g = w.heap.size := ⟨_, rfl⟩
  rw [← hg0] at hL HC hz ⊢
  replace hg0 := Lib.hid hg0
  replace hz := Lib.hid hz
  go_wp2_with fail
  refine HC.out.mono ?_
  rintro e w2 ⟨rfl, hw2⟩
  rw [hw2]
  clear hw2
  have l0 := hL.cell (i := 0) rfl
  clear HC
  have HK := Lib.hid (comes_any R 0 2 w1 hRA (by decide))
  have hR2 := hRA.set 4 (.int .i64 2)
  replace hR2 : Blk _ R (rdC (.slice none 0 0) 2) 117 := hR2
  have hL2 := hL.other (a := ⟨R, 4, none⟩) (by have := hg0.out; simp; omega) (.int .i64 2)
  have hF2 := hFA.setCell (p := ⟨R, 4, none⟩) hRN (.int .i64 2)
  have hgS := gb_cell1U w1 R 4 (.int .i64 2)
  have HG := Lib.hid (takeGrantStar_any R g0 _ hF2 hR2 hL2.lt (hL2.cell (i := 1) rfl) (hL2.cell (i := 2) rfl) (hL2.cell (i := 3) rfl))
  have hgw : w.grownBy w1 (some R) := ⟨hbA.os, hbA.tape, hbA.output, hbA.size, fun k hk _ => hbA.block k hk⟩
  clear hR2 hL2 hF2 hFA hRA hL hF hR hbA
  go_wp2_with fail
  refine HK.out.mono ?_
  rintro e w3 ⟨rfl, hw3⟩
  rw [← hw3] at HG hgS
  have hgw3 := gb_trans hgw hgS
  clear hw3 HK hgS hgw
  go_wp2_with fail
  refine HG.out.mono ?_
  rintro e w4 ⟨rfl, g, c, s, d, hR4, hO4, h1, h2, hg4⟩
  have hgF := gb_trans hgw3 hg4
  replace hR4 := Lib.hid hR4
  replace hO4 := Lib.hid (hO4.mono hgw3.size)
  replace h1 := Lib.hid h1
  replace h2 := Lib.hid h2
  clear HG hg4 hgw3
  go_wp2_with fail
  go_ret
  exact ⟨rfl, g, c, s, d, hR4.out, hO4.out, h1.out, h2.out, hgF⟩

abbrev textB : ByteArray := ⟨#[97, 108, 108, 111, 119, 32, 42, 32, 45, 62, 32, 42, 10]⟩
theorem cutLine_any (w : World) (hF : Rd2 w) : Calls Tryz.prog 82 #[.string textB, .string ⟨#[10]⟩] w (GivesV (.tuple #[.string lineB, .string ⟨#[]⟩, .bool true]) w) := by
  have h := cutNo_any [97, 108, 108, 111, 119, 32, 42, 32, 45, 62, 32, 42, 10] [10] w hF (by decide)
  rw [show Lib.cut [97, 108, 108, 111, 119, 32, 42, 32, 45, 62, 32, 42, 10] [10] = ([97, 108, 108, 111, 119, 32, 42, 32, 45, 62, 32, 42], [], true) by decide +kernel] at h
  exact h
def GrQ (R : Nat) (w w' : World) : Prop := ∃ g c s d, Blk w' R (rdC (.slice (some ⟨g, 0, none⟩) 1 c) 2) 117 ∧ OwnE eGt 233 w.heap.size w' (.slice (some ⟨g, 0, none⟩) 1 c) [⟨s, d, 0, ⟨none, 0, 0⟩⟩] ∧ SlE eWh w' s.A s.n s.c [wStar] ∧ SlE eTg w' d.A d.n d.c [tStar] ∧ w.grownBy w' (some R)

set_option maxHeartbeats 2000000 in
theorem readLinesStar_any (R : Nat) (w : World) (hF : Rd2 w) (hR : Blk w R (rdC (.slice none 0 0) 0) 117) (hRN : 9 ≤ R) :
    Calls Tryz.prog 53 #[.string textB, .func (.func 54) #[.pointer (some ⟨R, 0, none⟩)] #[]] w fun e w' => e = .returned (.tuple #[.int .i64 0, .int .i64 0]) ∧ GrQ R w w' := by
  have HC := Lib.hid (cutLine_any w hF)
  go_enter Tryz.func53, Tryz.ntmps53
  go_wp2_with fail
  refine wp_loop_rounds 2 ?_
  rw [rounds_succ]
  go_wp2_with fail
  refine HC.out.mono ?_
  rintro e w1 ⟨rfl, hb1⟩
  have HT := Lib.hid (takeStar_any R w1 (hF.below hb1) (hR.below hb1) hRN)
  clear HC hF hR
  go_wp2_with fail
  refine HT.out.mono ?_
  rintro e w2 ⟨rfl, g, c, s, d, hR2, hO2, h1, h2, hg2⟩
  have hgF : w.grownBy w2 (some R) := gb_trans ⟨hb1.os, hb1.tape, hb1.output, hb1.size, fun k hk _ => hb1.block k hk⟩ hg2
  replace hR2 := Lib.hid hR2
  replace hO2 := Lib.hid (hO2.mono hb1.size)
  replace h1 := Lib.hid h1
  replace h2 := Lib.hid h2
  clear HT hb1 hg2
  go_wp2_with fail
  rw [rounds_succ]
  go_wp2_with fail
  go_ret2
  exact ⟨rfl, g, c, s, d, hR2.out, hO2.out, h1.out, h2.out, hgF⟩

set_option maxHeartbeats 1000000 in
theorem isRightAll_any (w : World) : Calls Tryz.prog 291 #[.agg #[.int .i64 0, .int .i64 65535]] w (GivesV (.bool true) w) := by
  have hB := Blk.new w [.int .i64 0, .int .i64 65535] 228
  have hb : Below w.heap.size w (w.alloc (.cells #[.int .i64 0, .int .i64 65535] 228)) := (Below.refl _ _).alloc (Nat.le_refl _) _
  have c0 := hB.cell (i := 0) rfl
  have c1 := hB.cell (i := 1) rfl
  go_enter Tryz.func291, Tryz.ntmps291
  go_wp2_with fail
  go_ret
  exact ⟨rfl, hb⟩
@[go_sem] theorem run_fieldTg (x : Wh) (a b : Int) (w : World) : (Instr.field 230 (.agg (tgC ⟨x, a, b⟩).toArray) 1).run Tryz.prog w = .ok (.agg #[.int .i64 a, .int .i64 b]) w := by kernel_rfl

set_option maxHeartbeats 2000000 in
theorem checkEndsStar_any (s d : Sl3) (m : Value) (w : World) (hF : Rd2 w) (hs : SlE eWh w s.A s.n s.c [wStar]) (hd : SlE eTg w d.A d.n d.c [tStar]) :
    Calls Tryz.prog 235 #[.agg (gtC ⟨s, d, 0, ⟨none, 0, 0⟩⟩).toArray, m] w (GivesV (.int .i64 0) w) := by
  obtain ⟨sA, sn, sc⟩ := s
  obtain ⟨dA, dn, dc⟩ := d
  simp only at hs hd
  have en : sn = 1 := hs.1
  have em : dn = 1 := hd.1
  subst en em
  obtain ⟨gs, os, rfl⟩ : ∃ g o, sA = some ⟨g, o, none⟩ := by
    rcases hs.2.2.2 with h | ⟨g, o, h, _⟩
    · cases h
    · exact ⟨g, o, h⟩
  obtain ⟨gd, od, rfl⟩ : ∃ g o, dA = some ⟨g, o, none⟩ := by
    rcases hd.2.2.2 with h | ⟨g, o, h, _⟩
    · cases h
    · exact ⟨g, o, h⟩
  have hcs := hs.2.1
  have hcd := hd.2.1
  have hG := Blk.new w (gtC ⟨⟨some ⟨gs, os, none⟩, 1, sc⟩, ⟨some ⟨gd, od, none⟩, 1, dc⟩, 0, ⟨none, 0, 0⟩⟩) 233
  obtain ⟨w1, hw1⟩ : ∃ x, x = w.alloc (.cells (gtC ⟨⟨some ⟨gs, os, none⟩, 1, sc⟩, ⟨some ⟨gd, od, none⟩, 1, dc⟩, 0, ⟨none, 0, 0⟩⟩).toArray 233) := ⟨_, rfl⟩
  have hb1 : Below w.heap.size w w1 := by rw [hw1]; exact (Below.refl _ _).alloc (Nat.le_refl _) _
  replace hG : Blk w1 w.heap.size (gtC ⟨⟨some ⟨gs, os, none⟩, 1, sc⟩, ⟨some ⟨gd, od, none⟩, 1, dc⟩, 0, ⟨none, 0, 0⟩⟩) 233 := by rw [hw1]; exact hG
  have hs1 := hs.below hb1
  have ls : (ldT 222 (.pointer (some ⟨gs, os, none⟩))).run Tryz.prog w1 = .ok (.value (whA wStar)) w1 := by
    have := hs1.ld rowWh (k := 0) (x := wStar) rfl
    simp only [Nat.zero_mul, Nat.add_zero] at this
    exact this
  have c0 := hG.cell (i := 0) (v := .slice (some ⟨gs, os, none⟩) 1 sc) rfl
  have S6 : (stT 222 (.pointer (some ⟨w1.heap.size, 0, none⟩)) (whA wStar)).run Tryz.prog (w1.alloc (.cells #[.int .i64 0, .string ⟨#[]⟩, .bool false, .int .u64 0, .int .u64 0, .int .i64 0] 222)) = .ok .skip (w1.alloc (.cells (whC wStar).toArray 222)) :=
    stT_new rowWh w1 w1.heap.size rfl zWhC (whC wStar) rfl (whC_len _) (whC_one _)
  have hX := Blk.new w1 (whC wStar) 222
  have lX := hX.ld rowWh (whC_len wStar)
  have hbA : Below w1.heap.size w1 (w1.alloc (.cells (whC wStar).toArray 222)) := (Below.refl _ _).alloc (Nat.le_refl _) _
  have hF2 := (hF.below hb1).below hbA
  have HW := Lib.hid (checkWhatStar_any m _ hF2)
  have hz1 := World.size_alloc w1 (.cells (whC wStar).toArray 222)
  replace hz1 := Lib.hid hz1
  replace hG := hG.below hbA
  replace hd := hd.below (hb1.trans (hbA.mono hb1.size))
  replace hb1 := hb1.trans (hbA.mono hb1.size)
  clear hs hs1 hF hbA
  go_enter Tryz.func235, Tryz.ntmps235
  go_upto_region 1 with fail
  rw [← hw1]
  clear hw1
  go_wp2_with fail
  refine wp_loop_rounds 2 ?_
  rw [rounds_succ]
  go_wp2_with fail
  refine HW.out.mono ?_
  rintro e w2 ⟨rfl, hb2⟩
  have k0 := (hX.below hb2).cell (i := 0) (v := .int .i64 1) rfl
  replace hG := hG.below hb2
  replace hd := hd.below hb2
  have hF3 := hF2.below hb2
  replace hb1 := hb1.trans (hb2.mono hb1.size)
  clear HW lX ls S6 c0
  have c1 := hG.cell (i := 1) (v := .slice (some ⟨gd, od, none⟩) 1 dc) rfl
  go_wp2_with fail
  rw [rounds_succ]
  go_wp2_with fail
  have ld : (ldT 230 (.pointer (some ⟨gd, od, none⟩))).run Tryz.prog w2 = .ok (.value (tgA tStar)) w2 := by
    have := hd.ld rowTg (k := 0) (x := tStar) rfl
    simp only [Nat.zero_mul, Nat.add_zero] at this
    exact this
  have S9 : (stT 230 (.pointer (some ⟨w2.heap.size, 0, none⟩)) (tgA tStar)).run Tryz.prog (w2.alloc (.cells #[.int .i64 0, .string ⟨#[]⟩, .bool false, .int .u64 0, .int .u64 0, .int .i64 0, .int .i64 0, .int .i64 0] 230)) = .ok .skip (w2.alloc (.cells (tgC tStar).toArray 230)) :=
    stT_new rowTg w2 w2.heap.size rfl zTgC (tgC tStar) rfl (tgC_len _) (tgC_one _)
  have hT := Blk.new w2 (tgC tStar) 230
  have lT := hT.ldAt rowWh 0 (whC wStar) [.int .i64 0, .int .i64 65535] rfl rfl
  have hbB : Below w2.heap.size w2 (w2.alloc (.cells (tgC tStar).toArray 230)) := (Below.refl _ _).alloc (Nat.le_refl _) _
  have HW2 := Lib.hid (checkWhatStar_any m _ (hF3.below hbB))
  have hb3 := hb1.trans (hbB.mono hb1.size)
  clear hd hG hbB hb1
  refine wp_loop_rounds 2 ?_
  rw [rounds_succ]
  go_wp2_with fail
  refine HW2.out.mono ?_
  rintro e w4 ⟨rfl, hb4⟩
  have hT4 := hT.below hb4
  have p6 := hT4.cell (i := 6) (v := .int .i64 0) rfl
  have p7 := hT4.cell (i := 7) (v := .int .i64 65535) rfl
  replace hb3 := hb3.trans (hb4.mono hb3.size)
  clear HW2 lT S9 ld hb4 hT
  go_wp2_with fail
  refine (isRightAll_any _).mono ?_
  rintro e w5 ⟨rfl, hb5⟩
  replace hb3 := hb3.trans (hb5.mono hb3.size)
  clear hb5 p6 p7 hT4
  go_wp2_with fail
  rw [rounds_succ]
  go_wp2_with fail
  go_ret
  exact ⟨rfl, hb3⟩

theorem neqPt (w : World) : (binOp .neq 228 (.agg #[.int .i64 0, .int .i64 65535]) (.agg #[.int .i64 0, .int .i64 65535])).run Tryz.prog w = .ok (.bool false) w := by kernel_rfl

set_option maxHeartbeats 1000000 in
theorem someOnly1_any (w : World) : Calls Tryz.prog 237 #[tgA tStar] w (GivesV (.bool false) w) := by
  have nq := neqPt
  have hT := Blk.new w (tgC tStar) 230
  have hbw : Below w.heap.size w (w.alloc (.cells (tgC tStar).toArray 230)) := (Below.refl _ _).alloc (Nat.le_refl _) _
  go_enter Tryz.func237, Tryz.ntmps237
  go_upto_region 1 with fail
  refine wx_begin (none) [] (by kernel_rfl) (fun u0 hb0' hz0' => ?_)
  replace hT := hT.below hb0'
  replace hbw := hbw.trans (hb0'.mono hbw.size)
  clear hb0' hz0'
  refine wx_pureZ 0 (some 3) (v := ?_) ?_ ?_; rotate_left; · (intro u; go_simp; try with_reducible rfl)
  try simp only [Act.put, gzD, gzE, gzF]
  refine wx_takeZ 1 (some 4) (v := ?_) ?_ ?_; rotate_left; · (intro u hu; have k6 := (hT.gn hu).cell (i := 6) (v := .int .i64 0) rfl; have k7 := (hT.gn hu).cell (i := 7) (v := .int .i64 65535) rfl; go_simp; try with_reducible rfl)
  try simp only [Act.put, gzD, gzE, gzF]
  refine wx_oneZ 2 (fun K hK => ?_)
  go_simp
  refine (portsAll_any _).mono ?_
  rintro e wq2 ⟨rfl, hv1⟩
  refine hK.out _ _ (gbB hv1) ?_
  replace hT := hT.below hv1
  replace hbw := hbw.trans (hv1.mono hbw.size)
  clear hK K hv1
  try simp only [Act.put, gzD, gzE, gzF]
  refine wx_pureZ 3 (some 6) (v := ?_) ?_ ?_; rotate_left; · (intro u; go_simp; try with_reducible rfl)
  try simp only [Act.put, gzD, gzE, gzF]
  refine wx_pureZ 4 (some 2) (v := ?_) ?_ ?_; rotate_left; · (intro u; go_simp; try with_reducible rfl)
  try simp only [Act.put, gzD, gzE, gzF]
  refine wx_done (by kernel_rfl) ?_ _
  go_wp2_with fail
  go_ret
  exact ⟨rfl, hbw⟩

set_option maxHeartbeats 1000000 in
theorem indexTgStar_any (gd od dc : Nat) (w : World) (hd : SlE eTg w (some ⟨gd, od, none⟩) 1 dc [tStar]) :
    Calls Tryz.prog 292 #[.slice (some ⟨gd, od, none⟩) 1 dc, .func (.func 237) #[] #[]] w (GivesV (.int .i64 (-1)) w) := by
  have hcd := hd.2.1
  have ld : (ldT 230 (.pointer (some ⟨gd, od, none⟩))).run Tryz.prog w = .ok (.value (tgA tStar)) w := by
    have := hd.ld rowTg (k := 0) (x := tStar) rfl
    simp only [Nat.zero_mul, Nat.add_zero] at this
    exact this
  go_enter Tryz.func292, Tryz.ntmps292
  go_wp2_with fail
  refine wp_loop_rounds 2 ?_
  rw [rounds_succ]
  go_wp2_with fail
  refine (someOnly1_any w).mono ?_
  rintro e w1 ⟨rfl, hb⟩
  go_wp2_with fail
  rw [rounds_succ]
  go_wp2_with fail
  go_ret
  exact ⟨rfl, hb⟩

set_option maxHeartbeats 1000000 in
theorem containsTgStar_any (gd od dc : Nat) (w : World) (hd : SlE eTg w (some ⟨gd, od, none⟩) 1 dc [tStar]) :
    Calls Tryz.prog 236 #[.slice (some ⟨gd, od, none⟩) 1 dc, .func (.func 237) #[] #[]] w (GivesV (.bool false) w) := by
  go_enter Tryz.func236, Tryz.ntmps236
  go_wp2_with fail
  refine (indexTgStar_any gd od dc w hd).mono ?_
  rintro e w1 ⟨rfl, hb⟩
  go_wp2_with fail
  go_ret
  exact ⟨rfl, hb⟩

set_option maxHeartbeats 2000000 in
theorem checkGrantStar_any (s d : Sl3) (m : Value) (w : World) (hF : Rd2 w) (hs : SlE eWh w s.A s.n s.c [wStar]) (hd : SlE eTg w d.A d.n d.c [tStar]) :
    Calls Tryz.prog 170 #[.agg (gtC ⟨s, d, 0, ⟨none, 0, 0⟩⟩).toArray, m] w (GivesV (.int .i64 0) w) := by
  obtain ⟨gt, hgt⟩ : ∃ gt : Gt, gt = ⟨s, d, 0, ⟨none, 0, 0⟩⟩ := ⟨_, rfl⟩
  have hG := Blk.new w (gtC gt) 233
  obtain ⟨w1, hw1⟩ : ∃ x, x = w.alloc (.cells (gtC gt).toArray 233) := ⟨_, rfl⟩
  have hb1 : Below w.heap.size w w1 := by rw [hw1]; exact (Below.refl _ _).alloc (Nat.le_refl _) _
  replace hG : Blk w1 w.heap.size (gtC gt) 233 := by rw [hw1]; exact hG
  have HE := Lib.hid (checkEndsStar_any s d m w1 (hF.below hb1) (hs.below hb1) (hd.below hb1))
  rw [← hgt] at HE ⊢
  have lG := hG.ld rowGt (gtC_len gt)
  have e0 : (gtC gt)[0]? = some (.slice s.A s.n s.c) := by rw [hgt]; rfl
  have e1 : (gtC gt)[1]? = some (.slice d.A d.n d.c) := by rw [hgt]; rfl
  have e2 : (gtC gt)[2]? = some (.int .i64 0) := by rw [hgt]; rfl
  have e3 : (gtC gt)[3]? = some (.slice none 0 0) := by rw [hgt]; rfl
  clear hgt
  obtain ⟨sA, sn, sc⟩ := s
  obtain ⟨dA, dn, dc⟩ := d
  simp only at hs hd e0 e1
  have en : sn = 1 := hs.1
  have em : dn = 1 := hd.1
  subst en em
  obtain ⟨gd, od, rfl⟩ : ∃ g o, dA = some ⟨g, o, none⟩ := by
    rcases hd.2.2.2 with h | ⟨g, o, h, _⟩
    · cases h
    · exact ⟨g, o, h⟩
  have c0 := hG.cell e0
  have c1 := hG.cell e1
  have hd1 := hd.below hb1
  clear hs hd hF
  go_enter Tryz.func170, Tryz.ntmps170
  go_upto_region 1 with fail
  rw [← hw1]
  clear hw1
  go_wp2_with fail
  refine HE.out.mono ?_
  rintro e w2 ⟨rfl, hb2⟩
  replace hG := hG.below hb2
  have hd2 := hd1.below hb2
  replace hb1 := hb1.trans (hb2.mono hb1.size)
  clear HE lG c0 c1 hb2 hd1
  have c1 := hG.cell e1
  have c2 := hG.cell e2
  go_wp2_with fail
  refine (containsTgStar_any gd od dc w2 hd2).mono ?_
  rintro e w3 ⟨rfl, hb3⟩
  replace hG := hG.below hb3
  replace hb1 := hb1.trans (hb3.mono hb1.size)
  clear hb3 hd2 c1 c2
  have c3 := hG.cell e3
  go_wp2_with fail
  refine (keysNil_any w3).mono ?_
  rintro e w4 ⟨rfl, hb4⟩
  replace hG := hG.below hb4
  replace hb1 := hb1.trans (hb4.mono hb1.size)
  clear hb4 c3
  have c3 := hG.cell e3
  go_wp2_with fail
  go_ret
  exact ⟨rfl, hb1⟩

abbrev plV (gr : Value) : Value := .agg #[.slice none 0 0, .slice none 0 0, gr, .slice none 0 0]
set_option maxHeartbeats 1000000 in
theorem definedStar_any (gr : Value) (hg1 : gr.oneCell' = true) (w : World) : Calls Tryz.prog 167 #[plV gr] w (fun e w' => (∃ m, e = .returned (.map m)) ∧ Below w.heap.size w w') := by
  have hP := Blk.new w [.slice none 0 0, .slice none 0 0, gr, .slice none 0 0] 74
  have hb1 : Below w.heap.size w (w.alloc (.cells #[.slice none 0 0, .slice none 0 0, gr, .slice none 0 0] 74)) := (Below.refl _ _).alloc (Nat.le_refl _) _
  have hP2 := hP.alloc (.map #[] 0)
  have c0 := hP2.cell (i := 0) (v := .slice none 0 0) rfl
  have c1 := hP2.cell (i := 1) (v := .slice none 0 0) rfl
  have hb2 := hb1.alloc hb1.size (.map #[] 0)
  clear hP hP2
  go_enter Tryz.func167, Tryz.ntmps167
  go_wp2_with fail
  refine wp_loop_rounds 1 ?_
  rw [rounds_succ]
  go_wp2_with fail
  refine wp_loop_rounds 1 ?_
  rw [rounds_succ]
  go_wp2_with fail
  go_ret
  exact ⟨⟨_, rfl⟩, hb2⟩

set_option maxHeartbeats 1000000 in
theorem grants1_any (b : Nat) (m : Option Nat) (s d : Sl3) (w : World) (hF : Rd2 w) (hB : Blk w b [.map m] 254) (hs : SlE eWh w s.A s.n s.c [wStar]) (hd : SlE eTg w d.A d.n d.c [tStar]) :
    Calls Tryz.prog 169 #[.agg (gtC ⟨s, d, 0, ⟨none, 0, 0⟩⟩).toArray, .pointer (some ⟨b, 0, none⟩)] w (GivesV (.int .i64 0) w) := by
  obtain ⟨gt, hgt⟩ : ∃ gt : Gt, gt = ⟨s, d, 0, ⟨none, 0, 0⟩⟩ := ⟨_, rfl⟩
  have hG := Blk.new w (gtC gt) 233
  obtain ⟨w1, hw1⟩ : ∃ x, x = w.alloc (.cells (gtC gt).toArray 233) := ⟨_, rfl⟩
  have hb1 : Below w.heap.size w w1 := by rw [hw1]; exact (Below.refl _ _).alloc (Nat.le_refl _) _
  replace hG : Blk w1 w.heap.size (gtC gt) 233 := by rw [hw1]; exact hG
  have HE := Lib.hid (checkGrantStar_any s d (.map m) w1 (hF.below hb1) (hs.below hb1) (hd.below hb1))
  rw [← hgt] at HE ⊢
  have lG := hG.ld rowGt (gtC_len gt)
  have cb := (hB.below hb1).cell (i := 0) (v := .map m) rfl
  clear hgt hs hd hF hB
  go_enter Tryz.func169, Tryz.ntmps169
  go_upto_region 1 with fail
  rw [← hw1]
  clear hw1
  go_wp2_with fail
  refine HE.out.mono ?_
  rintro e w2 ⟨rfl, hb2⟩
  replace hb1 := hb1.trans (hb2.mono hb1.size)
  go_wp2_with fail
  go_ret
  exact ⟨rfl, hb1⟩

set_option maxHeartbeats 1000000 in
theorem eachGrant_any (b : Nat) (m : Option Nat) (g c : Nat) (s d : Sl3) (w : World) (hF : Rd2 w) (hB : Blk w b [.map m] 254) (hO : SlE eGt w (some ⟨g, 0, none⟩) 1 c [⟨s, d, 0, ⟨none, 0, 0⟩⟩]) (hs : SlE eWh w s.A s.n s.c [wStar]) (hd : SlE eTg w d.A d.n d.c [tStar]) :
    Calls Tryz.prog 168 #[.slice (some ⟨g, 0, none⟩) 1 c, .int .i64 100, .func (.func 169) #[] #[.pointer (some ⟨b, 0, none⟩)]] w (GivesV (.int .i64 0) w) := by
  obtain ⟨gt, hgt⟩ : ∃ gt : Gt, gt = ⟨s, d, 0, ⟨none, 0, 0⟩⟩ := ⟨_, rfl⟩
  have lg : (ldT 233 (.pointer (some ⟨g, 0, none⟩))).run Tryz.prog w = .ok (.value (.agg (gtC gt).toArray)) w := by
    have := hO.ld rowGt (k := 0) (x := gt) (by rw [hgt]; rfl)
    simp only [Nat.zero_mul, Nat.add_zero] at this
    exact this
  have S5 : (stT 233 (.pointer (some ⟨w.heap.size, 0, none⟩)) (.agg (gtC gt).toArray)).run Tryz.prog (w.alloc (.cells #[.slice none 0 0, .slice none 0 0, .int .i64 0, .slice none 0 0] 233)) = .ok .skip (w.alloc (.cells (gtC gt).toArray 233)) :=
    stT_new rowGt w w.heap.size rfl zGtC (gtC gt) rfl (gtC_len _) (gtC_one _)
  have hX := Blk.new w (gtC gt) 233
  have lX := hX.ld rowGt (gtC_len gt)
  have hb1 : Below w.heap.size w (w.alloc (.cells (gtC gt).toArray 233)) := (Below.refl _ _).alloc (Nat.le_refl _) _
  have HE := Lib.hid (grants1_any b m s d _ (hF.below hb1) (hB.below hb1) (hs.below hb1) (hd.below hb1))
  rw [← hgt] at HE
  have hcc := hO.2.1
  clear hgt hs hd hF hB hO hX
  go_enter Tryz.func168, Tryz.ntmps168
  go_wp2_with fail
  refine wp_loop_rounds 2 ?_
  rw [rounds_succ]
  go_wp2_with fail
  refine HE.out.mono ?_
  rintro e w2 ⟨rfl, hb2⟩
  replace hb1 := hb1.trans (hb2.mono hb1.size)
  clear HE lg S5 lX hb2
  go_wp2_with fail
  rw [rounds_succ]
  go_wp2_with fail
  go_ret
  exact ⟨rfl, hb1⟩

set_option maxHeartbeats 1000000 in
theorem checkGrantsStar_any (g c : Nat) (s d : Sl3) (w : World) (hF : Rd2 w) (hO : SlE eGt w (some ⟨g, 0, none⟩) 1 c [⟨s, d, 0, ⟨none, 0, 0⟩⟩]) (hs : SlE eWh w s.A s.n s.c [wStar]) (hd : SlE eTg w d.A d.n d.c [tStar]) :
    Calls Tryz.prog 92 #[plV (.slice (some ⟨g, 0, none⟩) 1 c)] w (GivesV (.int .i64 0) w) := by
  have hP := Blk.new w [.slice none 0 0, .slice none 0 0, .slice (some ⟨g, 0, none⟩) 1 c, .slice none 0 0] 74
  obtain ⟨w1, hw1⟩ : ∃ x, x = w.alloc (.cells #[.slice none 0 0, .slice none 0 0, .slice (some ⟨g, 0, none⟩) 1 c, .slice none 0 0] 74) := ⟨_, rfl⟩
  have hb1 : Below w.heap.size w w1 := by rw [hw1]; exact (Below.refl _ _).alloc (Nat.le_refl _) _
  replace hP : Blk w1 w.heap.size [.slice none 0 0, .slice none 0 0, .slice (some ⟨g, 0, none⟩) 1 c, .slice none 0 0] 74 := by rw [hw1]; exact hP
  have c0 := hP.cell (i := 0) (v := .slice none 0 0) rfl
  have c1 := hP.cell (i := 1) (v := .slice none 0 0) rfl
  have c2 := hP.cell (i := 2) (v := .slice (some ⟨g, 0, none⟩) 1 c) rfl
  have c3 := hP.cell (i := 3) (v := .slice none 0 0) rfl
  have HD := Lib.hid (definedStar_any (.slice (some ⟨g, 0, none⟩) 1 c) rfl w1)
  go_enter Tryz.func92, Tryz.ntmps92
  go_upto_region 1 with fail
  rw [← hw1]
  clear hw1
  go_wp2_with fail
  refine HD.out.mono ?_
  rintro e w2 ⟨⟨m, rfl⟩, hb2⟩
  have hbA : Below w2.heap.size w2 (w2.alloc (.cells #[.map m] 254)) := (Below.refl _ _).alloc (Nat.le_refl _) _
  have hB := Blk.new w2 [.map m] 254
  have hbT := (hb1.trans (hb2.mono hb1.size)).trans (hbA.mono (hb1.trans (hb2.mono hb1.size)).size)
  have hP3 := (hP.below hb2).below hbA
  have HE := Lib.hid (eachGrant_any w2.heap.size m g c s d _ (hF.below hbT) hB (hO.below hbT) (hs.below hbT) (hd.below hbT))
  clear HD c0 c1 c2 c3 hP hb1 hb2 hbA hB hF hO hs hd
  have c2 := hP3.cell (i := 2) (v := .slice (some ⟨g, 0, none⟩) 1 c) rfl
  clear hP3
  go_wp2_with fail
  refine HE.out.mono ?_
  rintro e w3 ⟨rfl, hb3⟩
  replace hbT := hbT.trans (hb3.mono hbT.size)
  clear HE hb3 c2
  go_wp2_with fail
  go_ret
  exact ⟨rfl, hbT⟩

set_option maxHeartbeats 1000000 in
theorem checkPolicyStar_any (g c : Nat) (s d : Sl3) (w : World) (hF : Rd2 w) (hO : SlE eGt w (some ⟨g, 0, none⟩) 1 c [⟨s, d, 0, ⟨none, 0, 0⟩⟩]) (hs : SlE eWh w s.A s.n s.c [wStar]) (hd : SlE eTg w d.A d.n d.c [tStar]) :
    Calls Tryz.prog 55 #[plV (.slice (some ⟨g, 0, none⟩) 1 c)] w (GivesV (.int .i64 0) w) := by
  have hP := Blk.new w [.slice none 0 0, .slice none 0 0, .slice (some ⟨g, 0, none⟩) 1 c, .slice none 0 0] 74
  obtain ⟨w1, hw1⟩ : ∃ x, x = w.alloc (.cells #[.slice none 0 0, .slice none 0 0, .slice (some ⟨g, 0, none⟩) 1 c, .slice none 0 0] 74) := ⟨_, rfl⟩
  have hb1 : Below w.heap.size w w1 := by rw [hw1]; exact (Below.refl _ _).alloc (Nat.le_refl _) _
  replace hP : Blk w1 w.heap.size [.slice none 0 0, .slice none 0 0, .slice (some ⟨g, 0, none⟩) 1 c, .slice none 0 0] 74 := by rw [hw1]; exact hP
  have HG := Lib.hid (fun W (hW : Below w.heap.size w W) => checkGrantsStar_any g c s d W (hF.below hW) (hO.below hW) (hs.below hW) (hd.below hW))
  clear hF hO hs hd
  have c0 := hP.cell (i := 0) (v := .slice none 0 0) rfl
  go_enter Tryz.func55, Tryz.ntmps55
  go_upto_region 1 with fail
  rw [← hw1]
  clear hw1
  go_wp2_with fail
  refine (checkGroupsNil_any w1).mono ?_
  rintro e w2 ⟨rfl, hb2⟩
  replace hP := hP.below hb2
  replace hb1 := hb1.trans (hb2.mono hb1.size)
  clear hb2 c0
  have c1 := hP.cell (i := 1) (v := .slice none 0 0) rfl
  go_wp2_with fail
  refine (checkHostsNil_any w2).mono ?_
  rintro e w3 ⟨rfl, hb2⟩
  replace hP := hP.below hb2
  replace hb1 := hb1.trans (hb2.mono hb1.size)
  clear hb2 c1
  have c0 := hP.cell (i := 0) (v := .slice none 0 0) rfl
  have c1 := hP.cell (i := 1) (v := .slice none 0 0) rfl
  have c2 := hP.cell (i := 2) (v := .slice (some ⟨g, 0, none⟩) 1 c) rfl
  have c3 := hP.cell (i := 3) (v := .slice none 0 0) rfl
  have HG2 := Lib.hid (HG.out w3 hb1)
  clear HG
  go_wp2_with fail
  refine HG2.out.mono ?_
  rintro e w4 ⟨rfl, hb2⟩
  replace hP := hP.below hb2
  replace hb1 := hb1.trans (hb2.mono hb1.size)
  clear hb2 c0 c1 c2 c3 HG2
  have c3 := hP.cell (i := 3) (v := .slice none 0 0) rfl
  go_wp2_with fail
  refine (checkTestsNil_any w4).mono ?_
  rintro e w5 ⟨rfl, hb2⟩
  replace hb1 := hb1.trans (hb2.mono hb1.size)
  clear hb2 c3 hP
  go_wp2_with fail
  go_ret
  exact ⟨rfl, hb1⟩

set_option maxHeartbeats 2000000 in
theorem ruleRead_any (w : World) (hF : Rd2 w) : Calls Tryz.prog 30 #[.string textB] w fun e w' => (∃ g c, e = .returned (.tuple #[plV (.slice (some ⟨g, 0, none⟩) 1 c), .int .i64 0, .int .i64 0])) ∧ Below w.heap.size w w' := by
  have hl := hF.lt
  have hP := (Blk.new w [.slice none 0 0, .slice none 0 0, .slice none 0 0, .slice none 0 0] 74).alloc (.cells (rdC (.slice none 0 0) 0).toArray 117)
  have hR := Blk.new (w.alloc (.cells #[.slice none 0 0, .slice none 0 0, .slice none 0 0, .slice none 0 0] 74)) (rdC (.slice none 0 0) 0) 117
  rw [World.size_alloc] at hR
  obtain ⟨w1, hw1⟩ : ∃ x, x = (w.alloc (.cells #[.slice none 0 0, .slice none 0 0, .slice none 0 0, .slice none 0 0] 74)).alloc (.cells #[.slice none 0 0, .slice none 0 0, .slice none 0 0, .slice none 0 0, .int .i64 0] 117) := ⟨_, rfl⟩
  have hb1 : Below w.heap.size w w1 := by rw [hw1]; exact ((Below.refl _ _).alloc (Nat.le_refl _) _).alloc (by simp) _
  replace hP : Blk w1 w.heap.size [.slice none 0 0, .slice none 0 0, .slice none 0 0, .slice none 0 0] 74 := by rw [hw1]; exact hP
  replace hR : Blk w1 (w.heap.size + 1) (rdC (.slice none 0 0) 0) 117 := by rw [hw1]; exact hR
  have HL := Lib.hid (readLinesStar_any (w.heap.size + 1) w1 (hF.below hb1) hR (by omega))
  have hF1 := hF.below hb1
  go_enter Tryz.func30, Tryz.ntmps30
  go_upto_region 2 with fail
  rw [← hw1]
  clear hw1 hR
  go_wp2_with fail
  refine HL.out.mono ?_
  rintro e w2 ⟨rfl, g, c, s, d, hR2, hO2, h1, h2, hg2⟩
  have hP2 : Blk w2 w.heap.size [.slice none 0 0, .slice none 0 0, .slice none 0 0, .slice none 0 0] 74 := (hg2.block _ hP.lt (by intro e; have h : w.heap.size = w.heap.size + 1 := Option.some.inj e; omega)).trans hP
  have hbT : Below w.heap.size w w2 := hb1.grown hg2 hb1.size (fun k h => by have := Option.some.inj h; omega)
  have hF2 := hF.below hbT
  have hOs : SlE eGt w2 (some ⟨g, 0, none⟩) 1 c [⟨s, d, 0, ⟨none, 0, 0⟩⟩] := by
    obtain ⟨A', c', hv, hS⟩ := hO2.sl
    injection hv with e1 e2 e3
    subst e1 e3
    exact hS
  have HP := Lib.hid (checkPolicyStar_any g c s d w2 hF2 hOs h1 h2)
  have r0 := hR2.cell (i := 0) (v := .slice none 0 0) rfl
  have r1 := hR2.cell (i := 1) (v := .slice none 0 0) rfl
  have r2 := hR2.cell (i := 2) (v := .slice (some ⟨g, 0, none⟩) 1 c) rfl
  have r3 := hR2.cell (i := 3) (v := .slice none 0 0) rfl
  clear HL hO2 h1 h2 hOs hg2 hb1 hP hF1 hF hF2
  go_wp2_with fail
  refine HP.out.mono ?_
  rintro e w3 ⟨rfl, hb3⟩
  replace hR2 := hR2.below hb3
  replace hP2 := hP2.below hb3
  replace hbT := hbT.trans (hb3.mono hbT.size)
  clear HP r0 r1 r2 r3 hb3
  have r0 := hR2.cell (i := 0) (v := .slice none 0 0) rfl
  have r1 := hR2.cell (i := 1) (v := .slice none 0 0) rfl
  have r2 := hR2.cell (i := 2) (v := .slice (some ⟨g, 0, none⟩) 1 c) rfl
  have r3 := hR2.cell (i := 3) (v := .slice none 0 0) rfl
  have p0 := hP2.cell (i := 0) (v := .slice none 0 0) rfl
  have p1 := hP2.cell (i := 1) (v := .slice none 0 0) rfl
  have p2 := hP2.cell (i := 2) (v := .slice none 0 0) rfl
  have p3 := hP2.cell (i := 3) (v := .slice none 0 0) rfl
  have f0 := hP2.free 0
  have f1 := hP2.free 1
  have f2 := hP2.free 2
  have f3 := hP2.free 3
  have hPF := (((hP2.set 0 (.slice none 0 0)).set 1 (.slice none 0 0)).set 2 (.slice (some ⟨g, 0, none⟩) 1 c)).set 3 (.slice none 0 0)
  have u0 := hPF.cell (i := 0) (v := .slice none 0 0) rfl
  have u1 := hPF.cell (i := 1) (v := .slice none 0 0) rfl
  have u2 := hPF.cell (i := 2) (v := .slice (some ⟨g, 0, none⟩) 1 c) rfl
  have u3 := hPF.cell (i := 3) (v := .slice none 0 0) rfl
  have hbF := (((hbT.setCell (p := ⟨w.heap.size, 0, none⟩) (Nat.le_refl _) (.slice none 0 0)).setCell (p := ⟨w.heap.size, 1, none⟩) (Nat.le_refl _) (.slice none 0 0)).setCell (p := ⟨w.heap.size, 2, none⟩) (Nat.le_refl _) (.slice (some ⟨g, 0, none⟩) 1 c)).setCell (p := ⟨w.heap.size, 3, none⟩) (Nat.le_refl _) (.slice none 0 0)
  clear hPF hR2 hP2 hbT
  go_wp2_with fail
  refine bodyPost_ret (v := .tuple #[plV (.slice (some ⟨g, 0, none⟩) 1 c), .int .i64 0, .int .i64 0]) ?_ rfl ⟨⟨g, c, rfl⟩, hbF⟩
  simp [results, Tryz.results30, go_sem, u0, u1, u2, u3]
end Go.Proofs.YtfbggfpihiegpaaGreatDoor
