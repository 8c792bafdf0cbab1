/- Fractions in lowest terms. -/
import Derived.Test.YtfiocnjogbpgoaaGreatDoorKiMdD
import Derived.Test.YtfiocnjogbpgoaaGreatDoorKiWaysB
import Derived.Deep.CutBlock
namespace Go.Proofs.YtfiocnjogbpgoaaGreatDoor
open Go.RowKit
set_option linter.unusedVariables false
set_option linter.unusedSimpArgs false

set_option maxHeartbeats 4000000 in
set_option maxRecDepth 100000 in
theorem fraction_any (n d : Nat) (w : World) (hn : n ≤ 100000000000000) (hd : d ≤ 100000000000000) (hd0 : 0 < d) :
    Calls Tryz.prog 48 #[.int .i64 n, .int .i64 d] w fun e w' => e = .returned (fracV n d) ∧ Below w.heap.size w w' := by
  have hP := Blk.new w [.int .i64 0, .int .i64 0] 46
  have hbw : Below w.heap.size w (w.alloc (.cells [Value.int .i64 0, .int .i64 0].toArray 46)) := (Below.refl _ _).alloc (Nat.le_refl _) _
  obtain ⟨N, hN⟩ : ∃ N : Int, N = (n : Int) := ⟨_, rfl⟩
  obtain ⟨D, hD⟩ : ∃ D : Int, D = (d : Int) := ⟨_, rfl⟩
  rw [← hN, ← hD]
  have hG0 : Hid (∃ a b : Nat, N = a ∧ D = b ∧ Nat.gcd a b = Nat.gcd n d ∧ a ≤ 100000000000000 ∧ b ≤ 100000000000000) := Lib.hid ⟨n, d, hN, hD, rfl, hn, hd⟩
  replace hN := Lib.hid (And.intro hN (And.intro hD (And.intro hd0 (And.intro hn hd))))
  clear hn hd hd0
  clear hD
  go_enter Tryz.func48, Tryz.ntmps48
  go_wp2_with fail
  generalize World.alloc w _ = w0 at *
  go_loopw [5, 6] (fun va vb wr => ∃ A B : Int, va = .int .i64 A ∧ vb = .int .i64 B ∧ Hid (∃ a b : Nat, A = a ∧ B = b ∧ Nat.gcd a b = Nat.gcd n d ∧ a ≤ 100000000000000 ∧ b ≤ 100000000000000) ∧ Blk wr w.heap.size [.int .i64 0, .int .i64 0] 46 ∧ Below w.heap.size w wr) (fun _ vb _ => (intOf vb).toNat)
  case atStart => exact ⟨N, D, rfl, rfl, hG0, hP, hbw⟩
  case round =>
    clear hP hbw hG0
    obtain ⟨A, B, rfl, rfl, hG, hP, hbw⟩ := hrel
    by_cases h0 : B = 0
    · subst h0
      have hA : Hid (A = (Nat.gcd n d : Nat)) := Lib.hid (by
        obtain ⟨a, b, rfl, hb, hg, _⟩ := hG.out
        have : b = 0 := by omega
        subst this
        rw [← hg, Nat.gcd_zero_right])
      have hfin := Lib.hid (show fracV n d = .agg #[.int .i64 (N.tdiv A), .int .i64 (D.tdiv A)] by
        unfold fracV
        rw [hA.out, hN.out.1, hN.out.2.1, Int.ofNat_tdiv, Int.ofNat_tdiv])
      have hA0 : ¬ A = 0 := by
        rw [hA.out]
        have := Nat.gcd_pos_of_pos_right n hN.out.2.2.1
        omega
      have hA1 : ¬ A < 0 := by rw [hA.out]; omega
      have hx1 : IntKind.i64.wrap (N.tdiv A) = N.tdiv A := by
        rw [hA.out, hN.out.1, ← Int.ofNat_tdiv]
        have h1 := Nat.div_le_self n (Nat.gcd n d)
        have h2 := hN.out.2.2.2.1
        generalize n / Nat.gcd n d = q at h1
        exact IntWalk.i64_in _ (by omega)
      have hx2 : IntKind.i64.wrap (D.tdiv A) = D.tdiv A := by
        rw [hA.out, hN.out.2.1, ← Int.ofNat_tdiv]
        have h1 := Nat.div_le_self d (Nat.gcd n d)
        have h2 := hN.out.2.2.2.2
        generalize d / Nat.gcd n d = q at h1
        exact IntWalk.i64_in _ (by omega)
      clear hG
      go_upto_region 4 with fail
      refine wb_begin (([] : List Nat)) [7] (by kernel_rfl) (fun u0 hb0' hz0' => ?_)
      replace hP := hP.below hb0'
      replace hbw := hbw.trans (hb0'.mono hbw.size)
      clear hb0' hz0'
      refine wb_pure (i := 0) (d := some 15) (v := ?_) (by simp only [List.getElem?_toArray, List.getElem?_cons_succ, List.getElem?_cons_zero] <;> rfl) (by rfl) (by kernel_rfl) (by kernel_rfl) (by kernel_rfl) (fun _ _ _ h => h) (by rfl) ?_ ?_
      rotate_left
      · ((intro u); go_simp; try with_reducible rfl)
      try simp only [Act.put, List.setIfInBounds_toArray, List.set_cons_zero, List.set_cons_succ]
      refine wb_pure (i := 1) (d := some 16) (v := ?_) (by simp only [List.getElem?_toArray, List.getElem?_cons_succ, List.getElem?_cons_zero] <;> rfl) (by rfl) (by kernel_rfl) (by kernel_rfl) (by kernel_rfl) (fun _ _ _ h => h) (by rfl) ?_ ?_
      rotate_left
      · ((intro u); go_simp; try with_reducible rfl)
      try simp only [Act.put, List.setIfInBounds_toArray, List.set_cons_zero, List.set_cons_succ]
      refine wb_pure (i := 2) (d := some 17) (v := ?_) (by simp only [List.getElem?_toArray, List.getElem?_cons_succ, List.getElem?_cons_zero] <;> rfl) (by rfl) (by kernel_rfl) (by kernel_rfl) (by kernel_rfl) (fun _ _ _ h => h) (by rfl) ?_ ?_
      rotate_left
      · ((intro u); go_simp; try with_reducible rfl)
      try simp only [Act.put, List.setIfInBounds_toArray, List.set_cons_zero, List.set_cons_succ]
      refine wb_pure (i := 3) (d := some 18) (v := ?_) (by simp only [List.getElem?_toArray, List.getElem?_cons_succ, List.getElem?_cons_zero] <;> rfl) (by rfl) (by kernel_rfl) (by kernel_rfl) (by kernel_rfl) (fun _ _ _ h => h) (by rfl) ?_ ?_
      rotate_left
      · ((intro u); go_simp; try with_reducible rfl)
      try simp only [Act.put, List.setIfInBounds_toArray, List.set_cons_zero, List.set_cons_succ]
      refine wb_pure (i := 4) (d := some 19) (v := ?_) (by simp only [List.getElem?_toArray, List.getElem?_cons_succ, List.getElem?_cons_zero] <;> rfl) (by rfl) (by kernel_rfl) (by kernel_rfl) (by kernel_rfl) (fun _ _ _ h => h) (by rfl) ?_ ?_
      rotate_left
      · ((intro u); go_simp; try with_reducible rfl)
      try simp only [Act.put, List.setIfInBounds_toArray, List.set_cons_zero, List.set_cons_succ]
      refine wb_pure (i := 5) (d := some 20) (v := ?_) (by simp only [List.getElem?_toArray, List.getElem?_cons_succ, List.getElem?_cons_zero] <;> rfl) (by rfl) (by kernel_rfl) (by kernel_rfl) (by kernel_rfl) (fun _ _ _ h => h) (by rfl) ?_ ?_
      rotate_left
      · ((intro u); go_simp; try with_reducible rfl)
      try simp only [Act.put, List.setIfInBounds_toArray, List.set_cons_zero, List.set_cons_succ]
      refine wb_pure (i := 6) (d := some 21) (v := ?_) (by simp only [List.getElem?_toArray, List.getElem?_cons_succ, List.getElem?_cons_zero] <;> rfl) (by rfl) (by kernel_rfl) (by kernel_rfl) (by kernel_rfl) (fun _ _ _ h => h) (by rfl) ?_ ?_
      rotate_left
      · ((intro u); go_simp; try with_reducible rfl)
      try simp only [Act.put, List.setIfInBounds_toArray, List.set_cons_zero, List.set_cons_succ]
      refine wb_store (i := 7) (by simp only [List.getElem?_toArray, List.getElem?_cons_succ, List.getElem?_cons_zero] <;> rfl) (by kernel_rfl) (by rfl) (by kernel_rfl) (fun K hK => ?_)
      have c0 := hP.cell (i := 0) (v := .int .i64 0) rfl
      have c1 := hP.cell (i := 1) (v := .int .i64 0) rfl
      have f0 := hP.free 0
      have f1 := hP.free 1
      go_simp
      refine hK.out _ _ ?_
      clear hK K
      try simp only [Act.put, List.setIfInBounds_toArray, List.set_cons_zero, List.set_cons_succ]
      refine wb_done (by kernel_rfl) ?_ _
      skip
      go_wp2_with fail
      refine bodyPost_ret (v := .agg #[.int .i64 (N.tdiv A), .int .i64 (D.tdiv A)]) ?_ rfl ⟨by rw [hfin.out], (hbw.setCell (p := ⟨w.heap.size, 0, none⟩) (Nat.le_refl _) _).setCell (p := ⟨w.heap.size, 1, none⟩) (Nat.le_refl _) _⟩
      simp [results, Tryz.results48, go_sem, c0, c1]
    · have hB := Lib.hid (show ∃ a b : Nat, B = a ∧ A.tmod B = b ∧ Nat.gcd a b = Nat.gcd n d ∧ a ≤ 100000000000000 ∧ b ≤ 100000000000000 by
        obtain ⟨a, b, rfl, rfl, hg, ha, hb⟩ := hG.out
        refine ⟨b, a % b, rfl, (Int.ofNat_tmod a b).symm, (gcd_step a b).trans hg, hb, ?_⟩
        exact Nat.le_trans (Nat.mod_le _ _) ha)
      have hx : IntKind.i64.wrap (A.tmod B) = A.tmod B := by
        obtain ⟨a, b, h1, h2, hg, ha, hb⟩ := hB.out
        rw [h2]
        exact IntWalk.i64_in _ (by omega)
      have hms := Lib.hid (show (A.tmod B).toNat < B.toNat by
        obtain ⟨a, b, rfl, rfl, hg, ha, hb⟩ := hG.out
        rw [← Int.ofNat_tmod]
        have := Nat.mod_lt a (show 0 < b by omega)
        omega)
      clear hG
      go_upto_region 3 with fail
      refine wb_begin (([] : List Nat)) [] (by kernel_rfl) (fun u0 hb0' hz0' => ?_)
      replace hP := hP.below hb0'
      replace hbw := hbw.trans (hb0'.mono hbw.size)
      clear hb0' hz0'
      refine wb_pure (i := 0) (d := some 11) (v := ?_) (by simp only [List.getElem?_toArray, List.getElem?_cons_succ, List.getElem?_cons_zero] <;> rfl) (by rfl) (by kernel_rfl) (by kernel_rfl) (by kernel_rfl) (fun _ _ _ h => h) (by rfl) ?_ ?_
      rotate_left
      · ((intro u); go_simp; try with_reducible rfl)
      try simp only [Act.put, List.setIfInBounds_toArray, List.set_cons_zero, List.set_cons_succ]
      refine wb_pure (i := 1) (d := some 12) (v := ?_) (by simp only [List.getElem?_toArray, List.getElem?_cons_succ, List.getElem?_cons_zero] <;> rfl) (by rfl) (by kernel_rfl) (by kernel_rfl) (by kernel_rfl) (fun _ _ _ h => h) (by rfl) ?_ ?_
      rotate_left
      · ((intro u); go_simp; try with_reducible rfl)
      try simp only [Act.put, List.setIfInBounds_toArray, List.set_cons_zero, List.set_cons_succ]
      refine wb_pure (i := 2) (d := some 13) (v := ?_) (by simp only [List.getElem?_toArray, List.getElem?_cons_succ, List.getElem?_cons_zero] <;> rfl) (by rfl) (by kernel_rfl) (by kernel_rfl) (by kernel_rfl) (fun _ _ _ h => h) (by rfl) ?_ ?_
      rotate_left
      · ((intro u); go_simp; try with_reducible rfl)
      try simp only [Act.put, List.setIfInBounds_toArray, List.set_cons_zero, List.set_cons_succ]
      refine wb_pure (i := 3) (d := some 14) (v := ?_) (by simp only [List.getElem?_toArray, List.getElem?_cons_succ, List.getElem?_cons_zero] <;> rfl) (by rfl) (by kernel_rfl) (by kernel_rfl) (by kernel_rfl) (fun _ _ _ h => h) (by rfl) ?_ ?_
      rotate_left
      · ((intro u); go_simp; try with_reducible rfl)
      try simp only [Act.put, List.setIfInBounds_toArray, List.set_cons_zero, List.set_cons_succ]
      refine wb_pure (i := 4) (d := some 5) (v := ?_) (by simp only [List.getElem?_toArray, List.getElem?_cons_succ, List.getElem?_cons_zero] <;> rfl) (by rfl) (by kernel_rfl) (by kernel_rfl) (by kernel_rfl) (fun _ _ _ h => h) (by rfl) ?_ ?_
      rotate_left
      · ((intro u); go_simp; try with_reducible rfl)
      try simp only [Act.put, List.setIfInBounds_toArray, List.set_cons_zero, List.set_cons_succ]
      refine wb_pure (i := 5) (d := some 6) (v := ?_) (by simp only [List.getElem?_toArray, List.getElem?_cons_succ, List.getElem?_cons_zero] <;> rfl) (by rfl) (by kernel_rfl) (by kernel_rfl) (by kernel_rfl) (fun _ _ _ h => h) (by rfl) ?_ ?_
      rotate_left
      · ((intro u); go_simp; try with_reducible rfl)
      try simp only [Act.put, List.setIfInBounds_toArray, List.set_cons_zero, List.set_cons_succ]
      refine wb_done (by kernel_rfl) ?_ _
      skip
      go_wp2_with fail
      go_roundw
      case rel => exact ⟨_, _, rfl, rfl, hB, hP, hbw⟩
      case measure => exact hms.out

end Go.Proofs.YtfiocnjogbpgoaaGreatDoor
