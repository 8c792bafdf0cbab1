/- What all statements of a package ask first. -/
import Derived.Test.YtfbggfpihiegpaaGreatDoorKpRvO
import Derived.Test.YtfbggfpihiegpaaGreatDoorKpRuP
import Derived.Test.YtfbggfpihiegpaaGreatDoorKpMdI
import Derived.Test.YtfbggfpihiegpaaGreatDoorKpTxtE
set_option linter.unusedVariables false
set_option linter.unusedSimpArgs false
set_option maxRecDepth 100000
namespace Go.Proofs.YtfbggfpihiegpaaGreatDoor
open Go.RowKit

structure Rdy (w : World) : Prop where
  tabs : Tabs w
  rd : Rd2 w
theorem Rdy.below {w w' : World} (h : Rdy w) (k : Below w.heap.size w w') : Rdy w' := ⟨h.tabs.below k, h.rd.below k⟩
theorem text1 : adrText false 0 1 = [48, 46, 48, 46, 48, 46, 49] := by
  have h0 : adF false 0 1 = 0 := by decide
  unfold adrText
  rw [if_pos h0]
  decide +kernel
set_option maxHeartbeats 2000000 in
theorem sum01_any (g : Nat) (w : World) (hB : Blk w g [.int .u8 0, .int .u8 1] 5) : Calls Tryz.prog 33 #[.slice (some ⟨g, 0, none⟩) 2 2] w fun e w' => e = .returned (.int .i64 65534) ∧ w = w' := by
  have c0 := hB.cell (i := 0) rfl
  have c1 := hB.cell (i := 1) rfl
  go_enter Tryz.func33, Tryz.ntmps33
  go_wp2_with fail
  refine wp_loop_rounds 3 ?_
  rw [rounds_succ]
  go_wp2_with fail
  rw [rounds_succ]
  go_wp2_with fail
  rw [rounds_succ]
  go_wp2_with fail
  refine wp_loop_rounds 1 ?_
  rw [rounds_succ]
  go_wp2_with fail
  go_ret
  exact ⟨rfl, rfl⟩
set_option maxHeartbeats 4000000 in
theorem ready_any (w : World) (hY : Rdy w) : Calls Tryz.prog 10 #[] w fun e w' => e = .returned (.bool true) ∧ Below w.heap.size w w' := by
  have HT := Lib.hid (show Calls Tryz.prog 29 #[.agg #[.bool false, .int .u64 0, .int .u64 1]] w (GivesV (.tuple #[.string ⟨#[48, 46, 48, 46, 48, 46, 49]⟩, .int .i64 0]) w) from by
    have h := text_any false 0 1 w hY.tabs (by decide) (by decide) (by decide) (by decide)
    rw [text1] at h
    exact h)
  have HRD := Lib.hid (fun W (h : Below w.heap.size w W) => ruleRead_any W (hY.rd.below h))
  clear hY
  go_enter Tryz.func10, Tryz.ntmps10
  go_wp2_with fail
  refine HT.out.mono ?_
  rintro e w1 ⟨rfl, hbw⟩
  clear HT
  go_wp2_with fail
  refine (HRD.out _ hbw).mono ?_
  rintro e w2 ⟨⟨g, c, rfl⟩, hb⟩
  replace hbw := hbw.trans (hb.mono hbw.size)
  clear HRD hb
  obtain ⟨w3, hw3⟩ : ∃ x, x = w2.alloc (.cells #[.slice none 0 0, .slice none 0 0, .slice (some ⟨g, 0, none⟩) 1 c, .slice none 0 0] 74) := ⟨_, rfl⟩
  obtain ⟨pa, hpa⟩ : ∃ x, x = w2.heap.size := ⟨_, rfl⟩
  have hX : Blk w3 pa [.slice none 0 0, .slice none 0 0, .slice (some ⟨g, 0, none⟩) 1 c, .slice none 0 0] 74 := by rw [hw3, hpa]; exact Blk.new _ _ _
  replace hbw : Below w.heap.size w w3 := by rw [hw3]; exact hbw.alloc hbw.size _
  go_upto_region 3 with fail
  rw [← hw3, ← hpa]
  clear hw3 hpa
  have hv : Below w3.heap.size w3 (w3.alloc (.cells #[.int .i64 1, .int .i64 2, .int .i64 9] 3)) := (Below.refl _ _).alloc (Nat.le_refl _) _
  have hS : SlE eInt (w3.alloc (.cells #[.int .i64 1, .int .i64 2, .int .i64 9] 3)) (some ⟨w3.heap.size, 0, none⟩) 3 3 [1, 2, 9] := by
    refine ⟨rfl, by omega, (fun e => by cases e), .inr ⟨_, 0, rfl, by simp, fun j x hj i v hv => ?_⟩⟩
    have hB := Blk.new w3 [.int .i64 1, .int .i64 2, .int .i64 9] 3
    rw [show eInt.k = 1 from rfl, Nat.mul_one, Nat.zero_add]
    have hi : i = 0 := by have := (List.getElem?_eq_some_iff.1 hv).1; have e : (eInt.enc x).length = 1 := rfl; omega
    subst hi
    obtain rfl : v = .int .i64 x := (Option.some.inj hv).symm
    refine hB.cell ?_
    have := List.getElem?_map (f := Value.int .i64) (l := [1, 2, 9]) (i := j)
    rw [hj] at this
    exact this
  have HM := median_any _ 3 3 [1, 2, 9] _ hS (by omega)
  rw [med129] at HM
  replace HM := Lib.hid HM
  clear hS
  replace hX := hX.below hv
  replace hbw := hbw.trans (hv.mono hbw.size)
  clear hv
  go_wp2_with fail
  refine HM.out.mono ?_
  rintro e w4 ⟨rfl, hv⟩
  replace hX := hX.below hv
  replace hbw := hbw.trans (hv.mono hbw.size)
  clear hv HM
  obtain ⟨w5, hw5⟩ : ∃ x, x = w4.alloc (.cells #[.int .i64 2, .int .i64 1] 78) := ⟨_, rfl⟩
  obtain ⟨pb, hpb⟩ : ∃ x, x = w4.heap.size := ⟨_, rfl⟩
  have hY : Blk w5 pb [.int .i64 2, .int .i64 1] 78 := by rw [hw5, hpb]; exact Blk.new _ _ _
  have hv : Below w4.heap.size w4 w5 := by rw [hw5]; exact (Below.refl _ _).alloc (Nat.le_refl _) _
  replace hX := hX.below hv
  replace hbw := hbw.trans (hv.mono hbw.size)
  clear hv
  go_upto_region 4 with fail
  rw [← hw5, ← hpb]
  clear hw5 hpb
  have hv : Below w5.heap.size w5 (w5.alloc (.cells #[.string ⟨#[97]⟩] 9)) := (Below.refl _ _).alloc (Nat.le_refl _) _
  have HJ := Lib.hid (joinA_any w5.heap.size _ (Blk.new w5 [.string ⟨#[97]⟩] 9))
  clear hv
  go_wp2_with fail
  refine HJ.out.mono ?_
  rintro e w6 ⟨⟨k2, c2, B2, cb2, F2, cf2, rfl⟩, hv⟩
  have hv5 : Below w5.heap.size w5 w6 := ((Below.refl _ _).alloc (Nat.le_refl _) (.cells #[.string ⟨#[97]⟩] 9)).trans (hv.mono (by simp))
  replace hX := hX.below hv5
  replace hY := hY.below hv5
  replace hbw := hbw.trans (hv5.mono hbw.size)
  clear hv5
  clear hv HJ
  have st := stT_new (te := 88) rowPa w6 w6.heap.size rfl (paC (.slice none 0 0)) (paR k2 c2 B2 cb2 F2 cf2) rfl rfl (oneAll rfl)
  obtain ⟨w7, hw7⟩ : ∃ x, x = w6.alloc (.cells (paR k2 c2 B2 cb2 F2 cf2).toArray 88) := ⟨_, rfl⟩
  obtain ⟨pc, hpc⟩ : ∃ x, x = w6.heap.size := ⟨_, rfl⟩
  have hZ : Blk w7 pc (paR k2 c2 B2 cb2 F2 cf2) 88 := by rw [hw7, hpc]; exact Blk.new _ _ _
  have hv : Below w6.heap.size w6 w7 := by rw [hw7]; exact (Below.refl _ _).alloc (Nat.le_refl _) _
  replace hX := hX.below hv
  replace hY := hY.below hv
  replace hbw := hbw.trans (hv.mono hbw.size)
  clear hv
  go_upto_region 5 with fail
  rw [← hw7, ← hpc]
  clear hw7 hpc st
  have x2 := hX.cell (i := 2) rfl
  have y0 := hY.cell (i := 0) rfl
  have z0 := hZ.cell (i := 0) rfl
  have HS := Lib.hid (sum01_any w7.heap.size _ (Blk.new w7 [.int .u8 0, .int .u8 1] 5))
  have hb8 := hbw.alloc hbw.size (.cells #[.int .u8 0, .int .u8 1] 5)
  clear hX hY hZ hbw
  go_wp2_with fail
  refine HS.out.mono ?_
  rintro e w8 ⟨rfl, rfl⟩
  go_wp2_with fail
  go_ret
  exact ⟨rfl, hb8⟩
end Go.Proofs.YtfbggfpihiegpaaGreatDoor
