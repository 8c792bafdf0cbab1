/- Lines that are read. -/
import Derived.Test.YtfiocnjogbpgoaaGreatDoorKiRuF
namespace Go.Proofs.YtfiocnjogbpgoaaGreatDoor
open Go.RowKit
set_option linter.unusedVariables false
set_option linter.unusedSimpArgs false

theorem Rd2.setCell {w : World} (h : Rd2 w) {p : Addr} (hp : 9 ≤ p.block) (v : Value) : Rd2 (w.setCell p v) := by
  have hl := h.lt
  obtain ⟨m, hm⟩ := h.maxl
  refine ⟨⟨m, ?_⟩, ?_, Nat.le_trans hl (by simp [World.setCell])⟩
  · rw [World.cell?_of_block (w := w) (Below.heap_setCell _ _ _ _ (fun e => by have e' : 0 = p.block := e; omega))]; exact hm
  · intro i v hv
    have := h.forms i v hv
    rw [World.cell?_of_block (w := w) (Below.heap_setCell _ _ _ _ (fun e => by have e' : 2 = p.block := e; omega))]
    exact this
abbrev lineB : ByteArray := ⟨#[97, 108, 108, 111, 119, 32, 42, 32, 45, 62, 32, 42]⟩
theorem line_count : Lib.countB lineB ⟨#[32]⟩ = 3 := by decide +kernel
theorem line_split : Lib.splitB ⟨#[32]⟩ 0 3 lineB = [⟨#[97, 108, 108, 111, 119]⟩, ⟨#[42]⟩, ⟨#[45, 62]⟩, ⟨#[42]⟩] := by decide +kernel
abbrev wordsC : List Value := [.string ⟨#[97, 108, 108, 111, 119]⟩, .string ⟨#[42]⟩, .string ⟨#[45, 62]⟩, .string ⟨#[42]⟩]
theorem splitLine_any (w : World) (hF : Rd2 w) : Calls Tryz.prog 77 #[.string lineB, .string ⟨#[32]⟩] w fun e w' => e = .returned (.slice (some ⟨w.heap.size, 0, none⟩) 4 4) ∧ w' = w.alloc (.cells wordsC.toArray 9) := by
  obtain ⟨m, hm⟩ := hF.maxl
  refine (Tryz.strings_Split lineB ⟨#[32]⟩ m w (by decide) hm (by decide)).mono ?_
  rintro e w' ⟨rfl, rfl⟩
  rw [line_count, line_split]
  exact ⟨rfl, rfl⟩

set_option maxHeartbeats 2000000 in
set_option maxRecDepth 100000 in
theorem takeStar_any (R : Nat) (w : World) (hF : Rd2 w) (hR : Blk w R (rdC (.slice none 0 0) 0) 147) (hRN : 9 ≤ R) :
    Calls Tryz.prog 89 #[.pointer (some ⟨R, 0, none⟩), .string lineB] w (GrP R w) := by
  have HS := Lib.hid (splitLine_any w hF)
  have hL := Blk.new w wordsC 9
  have hbA : Below w.heap.size w (w.alloc (.cells wordsC.toArray 9)) := (Below.refl _ _).alloc (Nat.le_refl _) _
  have hRw := hR.lt
  have hRA := hR.below hbA
  have hFA := hF.below hbA
  have HC := Lib.hid (Tryz.slices_Contains_string w.heap.size 0 4 4 [⟨#[97, 108, 108, 111, 119]⟩, ⟨#[42]⟩, ⟨#[45, 62]⟩, ⟨#[42]⟩] ⟨#[]⟩ (w.alloc (.cells wordsC.toArray 9)) (by decide) (by decide) (fun j hj => by
    rw [Nat.zero_add]
    refine hL.cell ?_
    match j, hj with
    | 0, _ => rfl
    | 1, _ => rfl
    | 2, _ => rfl
    | 3, _ => rfl))
  rw [show Lib.containsS (List.take 4 [⟨#[97, 108, 108, 111, 119]⟩, ⟨#[42]⟩, ⟨#[45, 62]⟩, ⟨#[42]⟩]) ⟨#[]⟩ = false by decide +kernel] at HC
  have hz : (w.alloc (.cells wordsC.toArray 9)).heap.size = w.heap.size + 1 := World.size_alloc _ _
  go_enter Tryz.func89, Tryz.ntmps89
  go_wp2_with fail
  refine HS.out.mono ?_
  rintro e w1 ⟨rfl, hw1⟩
  rw [← hw1] at hL hbA hRA hFA HC hz
  clear HS hw1
  obtain ⟨g0, hg0⟩ : ∃ g, g = w.heap.size := ⟨_, rfl⟩
  rw [← hg0] at hL HC hz ⊢
  replace hg0 := Lib.hid hg0
  replace hz := Lib.hid hz
  go_wp2_with fail
  refine HC.out.mono ?_
  rintro e w2 ⟨rfl, hw2⟩
  rw [hw2]
  clear hw2
  have l0 := hL.cell (i := 0) rfl
  clear HC
  have HK := Lib.hid (comes_any R 0 2 w1 hRA (by decide))
  have hR2 := hRA.set 4 (.int .i64 2)
  replace hR2 : Blk _ R (rdC (.slice none 0 0) 2) 147 := hR2
  have hL2 := hL.other (a := ⟨R, 4, none⟩) (by have := hg0.out; simp; omega) (.int .i64 2)
  have hF2 := hFA.setCell (p := ⟨R, 4, none⟩) hRN (.int .i64 2)
  have hgS := gb_cell1U w1 R 4 (.int .i64 2)
  have HG := Lib.hid (takeGrantStar_any R g0 _ hF2 hR2 hL2.lt (hL2.cell (i := 1) rfl) (hL2.cell (i := 2) rfl) (hL2.cell (i := 3) rfl))
  have hgw : w.grownBy w1 (some R) := ⟨hbA.os, hbA.tape, hbA.output, hbA.size, fun k hk _ => hbA.block k hk⟩
  clear hR2 hL2 hF2 hFA hRA hL hF hR hbA
  go_wp2_with fail
  refine HK.out.mono ?_
  rintro e w3 ⟨rfl, hw3⟩
  rw [← hw3] at HG hgS
  have hgw3 := gb_trans hgw hgS
  clear hw3 HK hgS hgw
  go_wp2_with fail
  refine HG.out.mono ?_
  rintro e w4 ⟨rfl, g, c, s, d, hR4, hO4, h1, h2, hg4⟩
  have hgF := gb_trans hgw3 hg4
  replace hR4 := Lib.hid hR4
  replace hO4 := Lib.hid (hO4.mono hgw3.size)
  replace h1 := Lib.hid h1
  replace h2 := Lib.hid h2
  clear HG hg4 hgw3
  go_wp2_with fail
  go_ret
  exact ⟨rfl, g, c, s, d, hR4.out, hO4.out, h1.out, h2.out, hgF⟩
end Go.Proofs.YtfiocnjogbpgoaaGreatDoor
namespace Go.Proofs.YtfiocnjogbpgoaaGreatDoor
open Go.RowKit
set_option linter.unusedVariables false
set_option linter.unusedSimpArgs false

abbrev textB : ByteArray := ⟨#[97, 108, 108, 111, 119, 32, 42, 32, 45, 62, 32, 42, 10]⟩
theorem cutLine_any (w : World) (hF : Rd2 w) : Calls Tryz.prog 38 #[.string textB, .string ⟨#[10]⟩] w (GivesV (.tuple #[.string lineB, .string ⟨#[]⟩, .bool true]) w) := by
  have h := cutNo_any [97, 108, 108, 111, 119, 32, 42, 32, 45, 62, 32, 42, 10] [10] w hF (by decide)
  rw [show Lib.cut [97, 108, 108, 111, 119, 32, 42, 32, 45, 62, 32, 42, 10] [10] = ([97, 108, 108, 111, 119, 32, 42, 32, 45, 62, 32, 42], [], true) by decide +kernel] at h
  exact h
/-- What the reader holds when the line is read. -/
def GrQ (R : Nat) (w w' : World) : Prop := ∃ g c s d, Blk w' R (rdC (.slice (some ⟨g, 0, none⟩) 1 c) 2) 147 ∧ OwnE eGt 255 w.heap.size w' (.slice (some ⟨g, 0, none⟩) 1 c) [⟨s, d, 0, ⟨none, 0, 0⟩⟩] ∧ SlE eWh w' s.A s.n s.c [wStar] ∧ SlE eTg w' d.A d.n d.c [tStar] ∧ w.grownBy w' (some R)

set_option maxHeartbeats 2000000 in
set_option maxRecDepth 100000 in
theorem readLinesStar_any (R : Nat) (w : World) (hF : Rd2 w) (hR : Blk w R (rdC (.slice none 0 0) 0) 147) (hRN : 9 ≤ R) :
    Calls Tryz.prog 88 #[.string textB, .func (.func 89) #[.pointer (some ⟨R, 0, none⟩)] #[]] w fun e w' => e = .returned (.tuple #[.int .i64 0, .int .i64 0]) ∧ GrQ R w w' := by
  have HC := Lib.hid (cutLine_any w hF)
  go_enter Tryz.func88, Tryz.ntmps88
  go_wp2_with fail
  refine wp_loop_rounds 2 ?_
  rw [rounds_succ]
  go_wp2_with fail
  refine HC.out.mono ?_
  rintro e w1 ⟨rfl, hb1⟩
  have HT := Lib.hid (takeStar_any R w1 (hF.below hb1) (hR.below hb1) hRN)
  clear HC hF hR
  go_wp2_with fail
  refine HT.out.mono ?_
  rintro e w2 ⟨rfl, g, c, s, d, hR2, hO2, h1, h2, hg2⟩
  have hgF : w.grownBy w2 (some R) := gb_trans ⟨hb1.os, hb1.tape, hb1.output, hb1.size, fun k hk _ => hb1.block k hk⟩ hg2
  replace hR2 := Lib.hid hR2
  replace hO2 := Lib.hid (hO2.mono hb1.size)
  replace h1 := Lib.hid h1
  replace h2 := Lib.hid h2
  clear HT hb1 hg2
  go_wp2_with fail
  rw [rounds_succ]
  go_wp2_with fail
  go_ret2
  exact ⟨rfl, g, c, s, d, hR2.out, hO2.out, h1.out, h2.out, hgF⟩
end Go.Proofs.YtfiocnjogbpgoaaGreatDoor
