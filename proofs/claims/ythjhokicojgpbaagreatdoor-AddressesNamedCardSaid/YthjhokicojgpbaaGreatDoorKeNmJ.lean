/- The name of an address: Back; and as the reference writes it. -/
import Derived.Test.YthjhokicojgpbaaGreatDoorKeNmI
import Derived.Test.YthjhokicojgpbaaGreatDoorKeOwnA
namespace Go.Proofs.YthjhokicojgpbaaGreatDoor
open Go.RowKit
set_option linter.unusedVariables false
set_option linter.unusedSimpArgs false

theorem adF_nat {s : Bool} {hi lo : Nat} (hh : hi < 2 ^ 64) (hl : lo < 2 ^ 64) : adF s (hi : Int) (lo : Int) = 0 ↔ RightN s hi lo := by
  unfold adF RightN
  cases s
  · by_cases h : (hi : Int) ≠ 0 ∨ (4294967296 : Int) ≤ lo
    · rw [if_pos ⟨rfl, h⟩]
      exact ⟨fun e => (by cases e), fun e => (by have := e.2.2 rfl; omega)⟩
    · rw [if_neg (fun e => h e.2)]
      exact ⟨fun _ => ⟨hh, hl, fun _ => by omega⟩, fun _ => rfl⟩
  · rw [if_neg (fun e => by cases e.1)]
    exact ⟨fun _ => ⟨hh, hl, fun e => (by cases e)⟩, fun _ => rfl⟩
open Classical in
/-- What Back hands back. -/
noncomputable def backV (s : Bool) (hi lo : Nat) : Value := if RightN s hi lo then .tuple #[.string ⟨(backL s hi lo).toArray⟩, .int .i64 0] else .tuple #[.string ⟨#[]⟩, .int .i64 3]
theorem backOf_any {s : Bool} {hi lo : Nat} (h : RightN s hi lo) (w : World) (hT : Tabs w) : Calls Tryz.prog 53 #[adV s (hi : Int) (lo : Int)] w (GivesV (.string ⟨(backL s hi lo).toArray⟩) w) := by
  cases s
  · have e := (h.2.2 rfl).1
    subst e
    exact backOf4_any _ lo w hT (h.2.2 rfl).2
  · exact backOf6_any hi lo w hT h.1 h.2.1

set_option maxRecDepth 100000 in
theorem back_any (s : Bool) (hi lo : Nat) (w : World) (hT : Tabs w) (hh : hi < 2 ^ 64) (hl : lo < 2 ^ 64) : Calls Tryz.prog 8 #[adV s (hi : Int) (lo : Int)] w (GivesV (backV s hi lo) w) := by
  have hC := Blk.new w [.bool s, .int .u64 (hi : Int), .int .u64 (lo : Int)] 28
  have hbw : Below w.heap.size w (w.alloc (.cells [Value.bool s, .int .u64 (hi : Int), .int .u64 (lo : Int)].toArray 28)) := (Below.refl _ _).alloc (Nat.le_refl _) _
  have HC := fun W => Lib.hid (checkAddr_any s (hi : Int) (lo : Int) W)
  have hTW : Hid (∀ W, Below w.heap.size w W → Tabs W) := Lib.hid fun W hW => hT.below hW
  clear hT
  by_cases hr : RightN s hi lo
  · have hV := Lib.hid (show backV s hi lo = .tuple #[.string ⟨(backL s hi lo).toArray⟩, .int .i64 0] from if_pos hr)
    have HB := Lib.hid (fun W (hW : Below w.heap.size w W) => backOf_any hr W (hTW.out W hW))
    rw [(adF_nat hh hl).2 hr] at HC
    have c0 := hC.cell (i := 0) (v := .bool s) rfl
    have c1 := hC.cell (i := 1) (v := .int .u64 (hi : Int)) rfl
    have c2 := hC.cell (i := 2) (v := .int .u64 (lo : Int)) rfl
    rw [hV.out]
    generalize (⟨(backL s hi lo).toArray⟩ : ByteArray) = T at *
    clear hV hh hl hr
    go_enter Tryz.func8, Tryz.ntmps8
    go_wp2_with fail
    refine (HC _).out.mono ?_
    rintro e w1 ⟨rfl, hv⟩
    replace hC := hC.below hv
    replace hbw := hbw.trans (hv.mono hbw.size)
    clear hv c0 c1 c2
    have c0 := hC.cell (i := 0) (v := .bool s) rfl
    have c1 := hC.cell (i := 1) (v := .int .u64 (hi : Int)) rfl
    have c2 := hC.cell (i := 2) (v := .int .u64 (lo : Int)) rfl
    have H1 := Lib.hid (HB.out _ hbw)
    go_wp2_with fail
    refine H1.out.mono ?_
    rintro e w2 ⟨rfl, hv⟩
    replace hbw := hbw.trans (hv.mono hbw.size)
    go_wp2_with fail
    go_ret2
    exact ⟨rfl, hbw⟩
  · have hV := Lib.hid (show backV s hi lo = .tuple #[.string ⟨#[]⟩, .int .i64 3] from if_neg hr)
    have hF : adF s (hi : Int) (lo : Int) = 3 := by
      have h0 : adF s (hi : Int) (lo : Int) ≠ 0 := fun e => hr ((adF_nat hh hl).1 e)
      unfold adF at h0 ⊢
      split
      · rfl
      · rename_i h; rw [if_neg h] at h0; exact absurd rfl h0
    rw [hF] at HC
    have c0 := hC.cell (i := 0) (v := .bool s) rfl
    have c1 := hC.cell (i := 1) (v := .int .u64 (hi : Int)) rfl
    have c2 := hC.cell (i := 2) (v := .int .u64 (lo : Int)) rfl
    rw [hV.out]
    clear hV hh hl hr hF
    go_enter Tryz.func8, Tryz.ntmps8
    go_wp2_with fail
    refine (HC _).out.mono ?_
    rintro e w1 ⟨rfl, hv⟩
    replace hbw := hbw.trans (hv.mono hbw.size)
    go_wp2_with fail
    go_ret2
    exact ⟨rfl, hbw⟩
end Go.Proofs.YthjhokicojgpbaaGreatDoor
