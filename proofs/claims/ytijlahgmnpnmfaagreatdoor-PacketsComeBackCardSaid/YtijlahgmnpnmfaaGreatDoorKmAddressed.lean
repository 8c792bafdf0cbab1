/- Package addr writes addresses: Text of the address 1 is as it must be. -/
import Derived.Test.YtijlahgmnpnmfaaGreatDoorKmWaysB
import Derived.Test.YtijlahgmnpnmfaaGreatDoorKmPfxM
import Derived.ChangeAlike
import Derived.Deep.RegionHeld3
import Derived.Deep.DeepCutAuto
import Derived.Test.YtijlahgmnpnmfaaGreatDoorKmShelf
namespace Go.Proofs.YtijlahgmnpnmfaaGreatDoor
open Go.RowKit

theorem and16 (x : Int) (h1 : 0 ≤ x) (h2 : x < 18446744073709551616) : wrap64 (bits .and .u64 x 65535) = ((x.toNat % 2 ^ 16 : Nat) : Int) := by
  rw [u64_and x 65535 h1 h2 (by decide) (by decide)]
  have : x.toNat &&& (65535 : Int).toNat = x.toNat % 2 ^ 16 := Nat.and_two_pow_sub_one_eq_mod x.toNat 16
  rw [this, IntWalk.wrap64_in]
  have := Nat.mod_lt x.toNat (show 0 < 2 ^ 16 by decide)
  omega

theorem dig_of_lo (hi lo : Int) (h3 : 0 ≤ lo) (h4 : lo < 18446744073709551616) (j : Nat) (hj : j < 4) (d : Int) (hd : d = 2 ^ (16 * j)) : wrap64 (bits .and .u64 (lo / d) 65535) = (dig (num hi lo) j : Int) := by
  subst hd
  have hp : (0 : Int) < 2 ^ (16 * j) := Int.pow_pos (by decide)
  have h0 : 0 ≤ lo / 2 ^ (16 * j) := Int.ediv_nonneg h3 (Int.le_of_lt hp)
  have h1 : lo / 2 ^ (16 * j) ≤ lo := Int.ediv_le_self _ h3
  rw [and16 _ h0 (by omega), dig_low hi lo h4 j hj]
  obtain ⟨L, rfl⟩ := Int.eq_ofNat_of_zero_le h3
  have : ((L : Int) / 2 ^ (16 * j)).toNat = L / 2 ^ (16 * j) := by
    rw [show ((2 : Int) ^ (16 * j)) = ((2 ^ (16 * j) : Nat) : Int) by simp, ← Int.natCast_ediv, Int.toNat_natCast]
  rw [this, Int.toNat_natCast]

theorem dig_of_hi (hi lo : Int) (h1 : 0 ≤ hi) (h2 : hi < 18446744073709551616) (h4 : lo < 18446744073709551616) (j : Nat) (d : Int) (hd : d = 2 ^ (16 * j)) : wrap64 (bits .and .u64 (hi / d) 65535) = (dig (num hi lo) (4 + j) : Int) := by
  subst hd
  have hp : (0 : Int) < 2 ^ (16 * j) := Int.pow_pos (by decide)
  have h0 : 0 ≤ hi / 2 ^ (16 * j) := Int.ediv_nonneg h1 (Int.le_of_lt hp)
  have h3 : hi / 2 ^ (16 * j) ≤ hi := Int.ediv_le_self _ h1
  rw [and16 _ h0 (by omega), dig_high hi lo h4 j]
  obtain ⟨L, rfl⟩ := Int.eq_ofNat_of_zero_le h1
  have : ((L : Int) / 2 ^ (16 * j)).toNat = L / 2 ^ (16 * j) := by
    rw [show ((2 : Int) ^ (16 * j)) = ((2 ^ (16 * j) : Nat) : Int) by simp, ← Int.natCast_ediv, Int.toNat_natCast]
  rw [this, Int.toNat_natCast]

/-- A value is returned; what was there is as it was. -/
def GivesV (v : Value) (w : World) (e : Ending) (w' : World) : Prop := e = .returned v ∧ Below w.heap.size w w'

end Go.Proofs.YtijlahgmnpnmfaaGreatDoor
namespace Go.Proofs.YtijlahgmnpnmfaaGreatDoor
open Go.RowKit

/-- How many bits an address has. -/
def lenZ (s : Bool) : Int := if s then 128 else 32
/-- Is n from lo to hi? -/
def inB (n lo hi : Int) : Bool := decide (lo ≤ n ∧ n ≤ hi)

/-- CheckAddr's error: 3 or 0. -/
def adF (s : Bool) (hi lo : Int) : Int := if s = false ∧ (hi ≠ 0 ∨ 4294967296 ≤ lo) then 3 else 0

theorem adF_two (s : Bool) (hi lo : Int) : adF s hi lo = 0 ∨ adF s hi lo = 3 := by unfold adF; split <;> simp

theorem Blk.nine {w : World} {p : Nat} {x0 x1 x2 x3 x4 x5 x6 x7 x8 : Value} {t : TypeId} (h : Blk w p [x0, x1, x2, x3, x4, x5, x6, x7, x8] t) :
    w.cell? ⟨p, 0, none⟩ = some x0 ∧ w.cell? ⟨p, 1, none⟩ = some x1 ∧ w.cell? ⟨p, 2, none⟩ = some x2 ∧ w.cell? ⟨p, 3, none⟩ = some x3 ∧ w.cell? ⟨p, 4, none⟩ = some x4 ∧ w.cell? ⟨p, 5, none⟩ = some x5 ∧ w.cell? ⟨p, 6, none⟩ = some x6 ∧ w.cell? ⟨p, 7, none⟩ = some x7 ∧ w.cell? ⟨p, 8, none⟩ = some x8 :=
  ⟨h.cell rfl, h.cell rfl, h.cell rfl, h.cell rfl, h.cell rfl, h.cell rfl, h.cell rfl, h.cell rfl, h.cell rfl⟩
theorem Blk.nineFree {w : World} {p : Nat} {cs : List Value} {t : TypeId} (h : Blk w p cs t) :
    w.frozen? ⟨p, 0, none⟩ = false ∧ w.frozen? ⟨p, 1, none⟩ = false ∧ w.frozen? ⟨p, 2, none⟩ = false ∧ w.frozen? ⟨p, 3, none⟩ = false ∧ w.frozen? ⟨p, 4, none⟩ = false ∧ w.frozen? ⟨p, 5, none⟩ = false ∧ w.frozen? ⟨p, 6, none⟩ = false ∧ w.frozen? ⟨p, 7, none⟩ = false ∧ w.frozen? ⟨p, 8, none⟩ = false :=
  ⟨h.free _, h.free _, h.free _, h.free _, h.free _, h.free _, h.free _, h.free _, h.free _⟩

end Go.Proofs.YtijlahgmnpnmfaaGreatDoor
namespace Go.Proofs.YtijlahgmnpnmfaaGreatDoor
open Go.RowKit

end Go.Proofs.YtijlahgmnpnmfaaGreatDoor
namespace Go.Proofs.YtijlahgmnpnmfaaGreatDoor
open Go.RowKit

end Go.Proofs.YtijlahgmnpnmfaaGreatDoor
namespace Go.Proofs.YtijlahgmnpnmfaaGreatDoor
open Go.RowKit

set_option maxHeartbeats 400000 in
theorem checkAddr_any (s : Bool) (hi lo : Int) (w : World) :
    Calls Tryz.prog 31 #[.agg #[.bool s, .int .u64 hi, .int .u64 lo]] w (GivesV (.int .i64 (adF s hi lo)) w) := by
  cases s
  · by_cases h : hi = 0
    · have b0 : (hi != 0) = false := by simp [h]
      by_cases h' : 4294967296 ≤ lo
      · have H := Lib.hid (show adF false hi lo = 3 from if_pos ⟨rfl, .inr (by omega)⟩)
        clear h
        go_enter Tryz.func31, Tryz.ntmps31
        go_wp2_with fail
        go_ret
        exact ⟨by rw [H.out]; rfl, (Below.refl _ _).alloc (Nat.le_refl _) _⟩
      · have H := Lib.hid (show adF false hi lo = 0 from if_neg (by omega))
        clear h
        go_enter Tryz.func31, Tryz.ntmps31
        go_wp2_with fail
        go_ret
        exact ⟨by rw [H.out]; rfl, (Below.refl _ _).alloc (Nat.le_refl _) _⟩
    · have b0 : (hi != 0) = true := by simp [h]
      have H := Lib.hid (show adF false hi lo = 3 from if_pos ⟨rfl, .inl (by omega)⟩)
      clear h
      go_enter Tryz.func31, Tryz.ntmps31
      go_wp2_with fail
      go_ret
      exact ⟨by rw [H.out]; rfl, (Below.refl _ _).alloc (Nat.le_refl _) _⟩
  · go_enter Tryz.func31, Tryz.ntmps31
    go_wp2_with fail
    go_ret
    exact ⟨rfl, (Below.refl _ _).alloc (Nat.le_refl _) _⟩

end Go.Proofs.YtijlahgmnpnmfaaGreatDoor
namespace Go.Proofs.YtijlahgmnpnmfaaGreatDoor
open Go.RowKit

end Go.Proofs.YtijlahgmnpnmfaaGreatDoor
