/- The program's own masks: CheckAddr, Length, ones, span.Mask, Mask, CheckPrefix. -/
import Derived.Test.YthjhokicojgpbaaGreatDoorKeWideB
import Derived.Deep.RegionHeld3
import Derived.Deep.DeepCutAuto
namespace Go.Proofs.YthjhokicojgpbaaGreatDoor
open Go.RowKit

set_option maxHeartbeats 400000 in
theorem checkAddr_any (s : Bool) (hi lo : Int) (w : World) :
    Calls Tryz.prog 52 #[.agg #[.bool s, .int .u64 hi, .int .u64 lo]] w (GivesV (.int .i64 (adF s hi lo)) w) := by
  cases s
  · by_cases h : hi = 0
    · have b0 : (hi != 0) = false := by simp [h]
      by_cases h' : 4294967296 ≤ lo
      · have H := Lib.hid (show adF false hi lo = 3 from if_pos ⟨rfl, .inr (by omega)⟩)
        clear h
        go_enter Tryz.func52, Tryz.ntmps52
        go_wp2_with fail
        go_ret
        exact ⟨by rw [H.out]; rfl, (Below.refl _ _).alloc (Nat.le_refl _) _⟩
      · have H := Lib.hid (show adF false hi lo = 0 from if_neg (by omega))
        clear h
        go_enter Tryz.func52, Tryz.ntmps52
        go_wp2_with fail
        go_ret
        exact ⟨by rw [H.out]; rfl, (Below.refl _ _).alloc (Nat.le_refl _) _⟩
    · have b0 : (hi != 0) = true := by simp [h]
      have H := Lib.hid (show adF false hi lo = 3 from if_pos ⟨rfl, .inl (by omega)⟩)
      clear h
      go_enter Tryz.func52, Tryz.ntmps52
      go_wp2_with fail
      go_ret
      exact ⟨by rw [H.out]; rfl, (Below.refl _ _).alloc (Nat.le_refl _) _⟩
  · go_enter Tryz.func52, Tryz.ntmps52
    go_wp2_with fail
    go_ret
    exact ⟨rfl, (Below.refl _ _).alloc (Nat.le_refl _) _⟩

end Go.Proofs.YthjhokicojgpbaaGreatDoor
