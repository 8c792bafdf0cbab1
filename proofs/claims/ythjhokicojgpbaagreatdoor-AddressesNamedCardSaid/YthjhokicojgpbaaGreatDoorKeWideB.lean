/- Wide numbers: length, in, AddrFault, firstOf. -/
import Derived.Test.YthjhokicojgpbaaGreatDoorKeWideA
import Derived.ChangeAlike
namespace Go.Proofs.YthjhokicojgpbaaGreatDoor
open Go.RowKit

/-- CheckAddr's error: 3 or 0. -/
def adF (s : Bool) (hi lo : Int) : Int := if s = false ∧ (hi ≠ 0 ∨ 4294967296 ≤ lo) then 3 else 0

set_option maxHeartbeats 400000 in
theorem addrFault_any (s : Bool) (hi lo : Int) (w : World) (h1 : 0 ≤ hi) :
    Calls Tryz.prog 9 #[.agg #[.bool s, .int .u64 hi, .int .u64 lo]] w (GivesV (.int .i64 (adF s hi lo)) w) := by
  cases s
  · by_cases h : 0 < hi
    · have H := Lib.hid (show adF false hi lo = 3 from if_pos ⟨rfl, .inl (by omega)⟩)
      go_enter Tryz.func9, Tryz.ntmps9
      go_wp2_with fail
      go_ret
      exact ⟨by rw [H.out]; rfl, (Below.refl _ _).alloc (Nat.le_refl _) _⟩
    · by_cases h' : 4294967295 < lo
      · have H := Lib.hid (show adF false hi lo = 3 from if_pos ⟨rfl, .inr (by omega)⟩)
        go_enter Tryz.func9, Tryz.ntmps9
        go_wp2_with fail
        go_ret
        exact ⟨by rw [H.out]; rfl, (Below.refl _ _).alloc (Nat.le_refl _) _⟩
      · have H := Lib.hid (show adF false hi lo = 0 from if_neg (by omega))
        go_enter Tryz.func9, Tryz.ntmps9
        go_wp2_with fail
        go_ret
        exact ⟨by rw [H.out]; rfl, (Below.refl _ _).alloc (Nat.le_refl _) _⟩
  · go_enter Tryz.func9, Tryz.ntmps9
    go_wp2_with fail
    go_ret
    exact ⟨rfl, (Below.refl _ _).alloc (Nat.le_refl _) _⟩

end Go.Proofs.YthjhokicojgpbaaGreatDoor
