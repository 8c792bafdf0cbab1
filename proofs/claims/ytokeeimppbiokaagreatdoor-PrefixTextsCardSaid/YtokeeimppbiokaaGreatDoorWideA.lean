/- Numbers of nine digits of 2^16: of. -/
import Derived.Test.YtokeeimppbiokaaGreatDoorLaneA
import Derived.Test.YtokeeimppbiokaaGreatDoorWidePl
namespace Go.Proofs.YtokeeimppbiokaaGreatDoor
open Go.RowKit

/-- The nine digits as cells. -/
def digL (V : Nat) (s : Bool) : List Value := [.int .i64 (dig V 0), .int .i64 (dig V 1), .int .i64 (dig V 2), .int .i64 (dig V 3), .int .i64 (dig V 4), .int .i64 (dig V 5), .int .i64 (dig V 6), .int .i64 (dig V 7), .int .i64 (b2i s)]
/-- A wide number as a value. -/
abbrev wV (V : Nat) (s : Bool) : Value := .agg #[.int .i64 (dig V 0), .int .i64 (dig V 1), .int .i64 (dig V 2), .int .i64 (dig V 3), .int .i64 (dig V 4), .int .i64 (dig V 5), .int .i64 (dig V 6), .int .i64 (dig V 7), .int .i64 (b2i s)]

theorem and16 (x : Int) (h1 : 0 ≤ x) (h2 : x < 18446744073709551616) : wrap64 (bits .and .u64 x 65535) = ((x.toNat % 2 ^ 16 : Nat) : Int) := by
  rw [u64_and x 65535 h1 h2 (by decide) (by decide)]
  have : x.toNat &&& (65535 : Int).toNat = x.toNat % 2 ^ 16 := Nat.and_two_pow_sub_one_eq_mod x.toNat 16
  rw [this, IntWalk.wrap64_in]
  have := Nat.mod_lt x.toNat (show 0 < 2 ^ 16 by decide)
  omega

theorem dig_of_lo (hi lo : Int) (h3 : 0 ≤ lo) (h4 : lo < 18446744073709551616) (j : Nat) (hj : j < 4) (d : Int) (hd : d = 2 ^ (16 * j)) : wrap64 (bits .and .u64 (lo / d) 65535) = (dig (num hi lo) j : Int) := by
  subst hd
  have hp : (0 : Int) < 2 ^ (16 * j) := Int.pow_pos (by decide)
  have h0 : 0 ≤ lo / 2 ^ (16 * j) := Int.ediv_nonneg h3 (Int.le_of_lt hp)
  have h1 : lo / 2 ^ (16 * j) ≤ lo := Int.ediv_le_self _ h3
  rw [and16 _ h0 (by omega), dig_low hi lo h4 j hj]
  obtain ⟨L, rfl⟩ := Int.eq_ofNat_of_zero_le h3
  have : ((L : Int) / 2 ^ (16 * j)).toNat = L / 2 ^ (16 * j) := by
    rw [show ((2 : Int) ^ (16 * j)) = ((2 ^ (16 * j) : Nat) : Int) by simp, ← Int.natCast_ediv, Int.toNat_natCast]
  rw [this, Int.toNat_natCast]

theorem dig_of_hi (hi lo : Int) (h1 : 0 ≤ hi) (h2 : hi < 18446744073709551616) (h4 : lo < 18446744073709551616) (j : Nat) (d : Int) (hd : d = 2 ^ (16 * j)) : wrap64 (bits .and .u64 (hi / d) 65535) = (dig (num hi lo) (4 + j) : Int) := by
  subst hd
  have hp : (0 : Int) < 2 ^ (16 * j) := Int.pow_pos (by decide)
  have h0 : 0 ≤ hi / 2 ^ (16 * j) := Int.ediv_nonneg h1 (Int.le_of_lt hp)
  have h3 : hi / 2 ^ (16 * j) ≤ hi := Int.ediv_le_self _ h1
  rw [and16 _ h0 (by omega), dig_high hi lo h4 j]
  obtain ⟨L, rfl⟩ := Int.eq_ofNat_of_zero_le h1
  have : ((L : Int) / 2 ^ (16 * j)).toNat = L / 2 ^ (16 * j) := by
    rw [show ((2 : Int) ^ (16 * j)) = ((2 ^ (16 * j) : Nat) : Int) by simp, ← Int.natCast_ediv, Int.toNat_natCast]
  rw [this, Int.toNat_natCast]

/-- A value is returned; what was there is as it was. -/
def GivesV (v : Value) (w : World) (e : Ending) (w' : World) : Prop := e = .returned v ∧ Below w.heap.size w w'

theorem of_eq (hi lo : Int) (h1 : 0 ≤ hi) (h2 : hi < 18446744073709551616) (h3 : 0 ≤ lo) (h4 : lo < 18446744073709551616) (s : Bool) (z : Int) (hz : z = b2i s) :
    Value.agg #[.int .i64 (wrap64 (bits .and .u64 lo 65535)), .int .i64 (wrap64 (bits .and .u64 (lo / 65536) 65535)), .int .i64 (wrap64 (bits .and .u64 (lo / 4294967296) 65535)), .int .i64 (wrap64 (bits .and .u64 (lo / 281474976710656) 65535)),
      .int .i64 (wrap64 (bits .and .u64 hi 65535)), .int .i64 (wrap64 (bits .and .u64 (hi / 65536) 65535)), .int .i64 (wrap64 (bits .and .u64 (hi / 4294967296) 65535)), .int .i64 (wrap64 (bits .and .u64 (hi / 281474976710656) 65535)), .int .i64 z] = wV (num hi lo) s := by
  have a0 := dig_of_lo hi lo h3 h4 0 (by decide) 1 (by decide)
  have a1 := dig_of_lo hi lo h3 h4 1 (by decide) 65536 (by decide)
  have a2 := dig_of_lo hi lo h3 h4 2 (by decide) 4294967296 (by decide)
  have a3 := dig_of_lo hi lo h3 h4 3 (by decide) 281474976710656 (by decide)
  have b0 := dig_of_hi hi lo h1 h2 h4 0 1 (by decide)
  have b1 := dig_of_hi hi lo h1 h2 h4 1 65536 (by decide)
  have b2 := dig_of_hi hi lo h1 h2 h4 2 4294967296 (by decide)
  have b3 := dig_of_hi hi lo h1 h2 h4 3 281474976710656 (by decide)
  rw [Int.ediv_one] at a0 b0
  rw [a0, a1, a2, a3, b0, b1, b2, b3, hz]

set_option maxHeartbeats 1000000 in
theorem of_any (s : Bool) (hi lo : Int) (w : World) (h1 : 0 ≤ hi) (h2 : hi < 18446744073709551616) (h3 : 0 ≤ lo) (h4 : lo < 18446744073709551616) :
    Calls Tryz.prog 40 #[.agg #[.bool s, .int .u64 hi, .int .u64 lo]] w (GivesV (wV (num hi lo) s) w) := by
  have H := Lib.hid (of_eq hi lo h1 h2 h3 h4 s _ rfl)
  cases s
  all_goals
    go_enter Tryz.func40, Tryz.ntmps40
    go_wp2_with fail
    refine wp_loop_rounds 5 ?_
    rw [rounds_succ]
    go_wp2_with fail
    rw [rounds_succ]
    go_wp2_with fail
    rw [rounds_succ]
    go_wp2_with fail
    rw [rounds_succ]
    go_wp2_with fail
    rw [rounds_succ]
    go_wp2_with fail
    refine bodyPost_ret ?_ rfl ⟨congrArg Ending.returned H.out, ?_⟩
    · simp [results, Tryz.results40, go_sem, b2i_true, b2i_false]
    · exact (((Below.refl _ _).alloc (Nat.le_refl _) _).alloc (by simp) _).alloc (by simp; omega) _
end Go.Proofs.YtokeeimppbiokaaGreatDoor
