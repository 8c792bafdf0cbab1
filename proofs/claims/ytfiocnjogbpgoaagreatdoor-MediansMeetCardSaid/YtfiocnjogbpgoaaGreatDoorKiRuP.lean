/- A policy that is read. -/
import Derived.Test.YtfiocnjogbpgoaaGreatDoorKiRuO
import Derived.Test.YtfiocnjogbpgoaaGreatDoorKiRuH
namespace Go.Proofs.YtfiocnjogbpgoaaGreatDoor
open Go.RowKit
set_option linter.unusedVariables false
set_option linter.unusedSimpArgs false

set_option maxHeartbeats 2000000 in
set_option maxRecDepth 100000 in
theorem ruleRead_any (w : World) (hF : Rd2 w) : Calls Tryz.prog 44 #[.string textB] w fun e w' => (∃ g c, e = .returned (.tuple #[plV (.slice (some ⟨g, 0, none⟩) 1 c), .int .i64 0, .int .i64 0])) ∧ Below w.heap.size w w' := by
  have hl := hF.lt
  have hP := (Blk.new w [.slice none 0 0, .slice none 0 0, .slice none 0 0, .slice none 0 0] 93).alloc (.cells (rdC (.slice none 0 0) 0).toArray 147)
  have hR := Blk.new (w.alloc (.cells #[.slice none 0 0, .slice none 0 0, .slice none 0 0, .slice none 0 0] 93)) (rdC (.slice none 0 0) 0) 147
  rw [World.size_alloc] at hR
  obtain ⟨w1, hw1⟩ : ∃ x, x = (w.alloc (.cells #[.slice none 0 0, .slice none 0 0, .slice none 0 0, .slice none 0 0] 93)).alloc (.cells #[.slice none 0 0, .slice none 0 0, .slice none 0 0, .slice none 0 0, .int .i64 0] 147) := ⟨_, rfl⟩
  have hb1 : Below w.heap.size w w1 := by rw [hw1]; exact ((Below.refl _ _).alloc (Nat.le_refl _) _).alloc (by simp) _
  replace hP : Blk w1 w.heap.size [.slice none 0 0, .slice none 0 0, .slice none 0 0, .slice none 0 0] 93 := by rw [hw1]; exact hP
  replace hR : Blk w1 (w.heap.size + 1) (rdC (.slice none 0 0) 0) 147 := by rw [hw1]; exact hR
  have HL := Lib.hid (readLinesStar_any (w.heap.size + 1) w1 (hF.below hb1) hR (by omega))
  have hF1 := hF.below hb1
  go_enter Tryz.func44, Tryz.ntmps44
  go_upto_region 2 with fail
  rw [← hw1]
  clear hw1 hR
  go_wp2_with fail
  refine HL.out.mono ?_
  rintro e w2 ⟨rfl, g, c, s, d, hR2, hO2, h1, h2, hg2⟩
  have hP2 : Blk w2 w.heap.size [.slice none 0 0, .slice none 0 0, .slice none 0 0, .slice none 0 0] 93 := (hg2.block _ hP.lt (by intro e; have h : w.heap.size = w.heap.size + 1 := Option.some.inj e; omega)).trans hP
  have hbT : Below w.heap.size w w2 := hb1.grown hg2 hb1.size (fun k h => by have := Option.some.inj h; omega)
  have hF2 := hF.below hbT
  have hOs : SlE eGt w2 (some ⟨g, 0, none⟩) 1 c [⟨s, d, 0, ⟨none, 0, 0⟩⟩] := by
    obtain ⟨A', c', hv, hS⟩ := hO2.sl
    injection hv with e1 e2 e3
    subst e1 e3
    exact hS
  have HP := Lib.hid (checkPolicyStar_any g c s d w2 hF2 hOs h1 h2)
  have r0 := hR2.cell (i := 0) (v := .slice none 0 0) rfl
  have r1 := hR2.cell (i := 1) (v := .slice none 0 0) rfl
  have r2 := hR2.cell (i := 2) (v := .slice (some ⟨g, 0, none⟩) 1 c) rfl
  have r3 := hR2.cell (i := 3) (v := .slice none 0 0) rfl
  clear HL hO2 h1 h2 hOs hg2 hb1 hP hF1 hF hF2
  go_wp2_with fail
  refine HP.out.mono ?_
  rintro e w3 ⟨rfl, hb3⟩
  replace hR2 := hR2.below hb3
  replace hP2 := hP2.below hb3
  replace hbT := hbT.trans (hb3.mono hbT.size)
  clear HP r0 r1 r2 r3 hb3
  have r0 := hR2.cell (i := 0) (v := .slice none 0 0) rfl
  have r1 := hR2.cell (i := 1) (v := .slice none 0 0) rfl
  have r2 := hR2.cell (i := 2) (v := .slice (some ⟨g, 0, none⟩) 1 c) rfl
  have r3 := hR2.cell (i := 3) (v := .slice none 0 0) rfl
  have p0 := hP2.cell (i := 0) (v := .slice none 0 0) rfl
  have p1 := hP2.cell (i := 1) (v := .slice none 0 0) rfl
  have p2 := hP2.cell (i := 2) (v := .slice none 0 0) rfl
  have p3 := hP2.cell (i := 3) (v := .slice none 0 0) rfl
  have f0 := hP2.free 0
  have f1 := hP2.free 1
  have f2 := hP2.free 2
  have f3 := hP2.free 3
  have hPF := (((hP2.set 0 (.slice none 0 0)).set 1 (.slice none 0 0)).set 2 (.slice (some ⟨g, 0, none⟩) 1 c)).set 3 (.slice none 0 0)
  have u0 := hPF.cell (i := 0) (v := .slice none 0 0) rfl
  have u1 := hPF.cell (i := 1) (v := .slice none 0 0) rfl
  have u2 := hPF.cell (i := 2) (v := .slice (some ⟨g, 0, none⟩) 1 c) rfl
  have u3 := hPF.cell (i := 3) (v := .slice none 0 0) rfl
  have hbF := (((hbT.setCell (p := ⟨w.heap.size, 0, none⟩) (Nat.le_refl _) (.slice none 0 0)).setCell (p := ⟨w.heap.size, 1, none⟩) (Nat.le_refl _) (.slice none 0 0)).setCell (p := ⟨w.heap.size, 2, none⟩) (Nat.le_refl _) (.slice (some ⟨g, 0, none⟩) 1 c)).setCell (p := ⟨w.heap.size, 3, none⟩) (Nat.le_refl _) (.slice none 0 0)
  clear hPF hR2 hP2 hbT
  go_wp2_with fail
  refine bodyPost_ret (v := .tuple #[plV (.slice (some ⟨g, 0, none⟩) 1 c), .int .i64 0, .int .i64 0]) ?_ rfl ⟨⟨g, c, rfl⟩, hbF⟩
  simp [results, Tryz.results44, go_sem, u0, u1, u2, u3]
end Go.Proofs.YtfiocnjogbpgoaaGreatDoor
