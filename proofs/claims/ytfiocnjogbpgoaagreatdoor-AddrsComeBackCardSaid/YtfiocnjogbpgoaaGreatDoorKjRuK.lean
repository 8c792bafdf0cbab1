/- A what that is checked: the star. -/
import Derived.Test.YtfiocnjogbpgoaaGreatDoorKjRvC
import Derived.Test.YtfiocnjogbpgoaaGreatDoorKjRuD
namespace Go.Proofs.YtfiocnjogbpgoaaGreatDoor
open Go.RowKit
set_option linter.unusedVariables false
set_option linter.unusedSimpArgs false

abbrev pfZ : Pf := (⟨false, 0, 0⟩, 0)
theorem neqPfZ (x y : Operand) (w : World) : (nePf x y (.agg (pfC pfZ).toArray) (.agg #[.bool false, .int .u64 0, .int .u64 0, .int .i64 0])).run Tryz.prog w = .ok (.value (.bool false)) w := by kernel_rfl

set_option maxHeartbeats 2000000 in
set_option maxRecDepth 100000 in
theorem checkWhatStar_any (m : Value) (w : World) (hF : Rd2 w) : Calls Tryz.prog 335 #[whA wStar, m] w (GivesV (.int .i64 0) w) := by
  have hX := Blk.new w (whC wStar) 244
  obtain ⟨w1, hw1⟩ : ∃ x, x = w.alloc (.cells (whC wStar).toArray 244) := ⟨_, rfl⟩
  have hb1 : Below w.heap.size w w1 := by rw [hw1]; exact (Below.refl _ _).alloc (Nat.le_refl _) _
  replace hX : Blk w1 w.heap.size (whC wStar) 244 := by rw [hw1]; exact hX
  have hF1 := hF.below hb1
  have d0 : w1.cell? ⟨2, 0, none⟩ = some (.string ⟨#[42]⟩) := hF1.forms 0 _ rfl
  have d1 : w1.cell? ⟨2, 1, none⟩ = some (.bool false) := hF1.forms 1 _ rfl
  have d2 : w1.cell? ⟨2, 2, none⟩ = some (.bool false) := hF1.forms 2 _ rfl
  have c0 : w1.cell? ⟨w.heap.size, 0, none⟩ = some (.int .i64 1) := hX.cell (i := 0) rfl
  have hX2 := hX.alloc (.cells #[.string ⟨#[42]⟩, .bool false, .bool false] 332)
  have e0 : (w1.alloc (.cells #[.string ⟨#[42]⟩, .bool false, .bool false] 332)).cell? ⟨w.heap.size, 0, none⟩ = some (.int .i64 1) := hX2.cell (i := 0) rfl
  have e1 : (w1.alloc (.cells #[.string ⟨#[42]⟩, .bool false, .bool false] 332)).cell? ⟨w.heap.size, 1, none⟩ = some (.string ⟨#[]⟩) := hX2.cell (i := 1) rfl
  have eP : (ldT 31 (.pointer (some ⟨w.heap.size, 2, none⟩))).run Tryz.prog (w1.alloc (.cells #[.string ⟨#[42]⟩, .bool false, .bool false] 332)) = .ok (.value (.agg (pfC pfZ).toArray)) (w1.alloc (.cells #[.string ⟨#[42]⟩, .bool false, .bool false] 332)) := hX2.ldAt rowPf 2 (pfC pfZ) [] rfl rfl
  have hb2 := hb1.alloc hb1.size (.cells #[.string ⟨#[42]⟩, .bool false, .bool false] 332)
  have nq := neqPfZ
  clear hX hX2 hF hF1
  go_enter Tryz.func335, Tryz.ntmps335
  go_upto_region 1 with fail
  rw [← hw1]
  clear hw1
  go_wp2_with fail
  go_ret
  exact ⟨rfl, hb2⟩
end Go.Proofs.YtfiocnjogbpgoaaGreatDoor
