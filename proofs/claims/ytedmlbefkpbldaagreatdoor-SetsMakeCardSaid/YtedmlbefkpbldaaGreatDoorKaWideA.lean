/- Numbers of nine digits of 2^16: of. -/
import Derived.Test.YtedmlbefkpbldaaGreatDoorKaLaneA
namespace Go.Proofs.YtedmlbefkpbldaaGreatDoor
/-- V with its k lowest bits cleared -/
def clr (V k : Nat) : Nat := V / 2 ^ k * 2 ^ k
/-- V with its k lowest bits set -/
def fil (V k : Nat) : Nat := V / 2 ^ k * 2 ^ k + (2 ^ k - 1)
/-- digit j of 2^16 -/
def dig (V j : Nat) : Nat := V / 2 ^ (16 * j) % 2 ^ 16

theorem testBit_clr (V k i : Nat) : (clr V k).testBit i = (decide (k ≤ i) && V.testBit i) := by
  unfold clr
  rw [Nat.testBit_mul_two_pow]
  by_cases h : k ≤ i
  · simp [h, Nat.testBit_div_two_pow]
  · simp [h]

theorem testBit_fil (V k i : Nat) : (fil V k).testBit i = (decide (i < k) || V.testBit i) := by
  unfold fil
  have e : V / 2 ^ k * 2 ^ k + (2 ^ k - 1) = 2 ^ k * (V / 2 ^ k) + (2 ^ k - 1) := by rw [Nat.mul_comm]
  rw [e, Nat.testBit_two_pow_mul_add _ (by have := Nat.two_pow_pos k; omega)]
  by_cases h : i < k
  · simp [h]
  · simp [h, Nat.testBit_div_two_pow, Nat.sub_add_cancel (Nat.le_of_not_lt h)]

theorem testBit_dig (V j i : Nat) : (dig V j).testBit i = (decide (i < 16) && V.testBit (16 * j + i)) := by
  unfold dig
  rw [Nat.testBit_mod_two_pow, Nat.testBit_div_two_pow, Nat.add_comm]

theorem dig_lt (V j : Nat) : dig V j < 65536 := Nat.mod_lt _ (by decide)

theorem dig_clr_other (V k j : Nat) (h : j ≠ k / 16) : dig (clr V (k + 1)) j = dig (clr V k) j := by
  apply Nat.eq_of_testBit_eq; intro i
  rw [testBit_dig, testBit_dig, testBit_clr, testBit_clr]
  by_cases hi : i < 16
  · have : decide (k + 1 ≤ 16 * j + i) = decide (k ≤ 16 * j + i) := by
      apply decide_eq_decide.2; omega
    rw [this]
  · simp [hi]

theorem dig_clr_here (V k : Nat) : dig (clr V (k + 1)) (k / 16) = dig (clr V k) (k / 16) &&& (2 ^ 64 - (2 ^ (k % 16) + 1)) := by
  apply Nat.eq_of_testBit_eq; intro i
  rw [testBit_dig, Nat.testBit_and, testBit_dig, testBit_clr, testBit_clr, Nat.testBit_two_pow_sub_succ (Nat.pow_lt_pow_right (by decide) (by omega)), Nat.testBit_two_pow]
  by_cases hi : i < 16
  · by_cases h : k % 16 = i
    · have e1 : ¬ (k + 1 ≤ 16 * (k / 16) + i) := by omega
      simp [e1, h]
    · have : decide (k + 1 ≤ 16 * (k / 16) + i) = decide (k ≤ 16 * (k / 16) + i) := by
        apply decide_eq_decide.2; omega
      rw [this]; simp [h]; omega
  · simp [hi]

theorem dig_fil_other (V k j : Nat) (h : j ≠ k / 16) : dig (fil V (k + 1)) j = dig (fil V k) j := by
  apply Nat.eq_of_testBit_eq; intro i
  rw [testBit_dig, testBit_dig, testBit_fil, testBit_fil]
  by_cases hi : i < 16
  · have : decide (16 * j + i < k + 1) = decide (16 * j + i < k) := by
      apply decide_eq_decide.2; omega
    rw [this]
  · simp [hi]

theorem dig_fil_here (V k : Nat) : dig (fil V (k + 1)) (k / 16) = dig (fil V k) (k / 16) ||| 2 ^ (k % 16) := by
  apply Nat.eq_of_testBit_eq; intro i
  rw [testBit_dig, Nat.testBit_or, testBit_dig, testBit_fil, testBit_fil, Nat.testBit_two_pow]
  by_cases hi : i < 16
  · by_cases h : k % 16 = i
    · have e1 : 16 * (k / 16) + i < k + 1 := by omega
      simp [e1, h, hi]
    · have : decide (16 * (k / 16) + i < k + 1) = decide (16 * (k / 16) + i < k) := by
        apply decide_eq_decide.2; omega
      rw [this]; simp [h]
  · have : ¬ (k % 16 = i) := by omega
    simp [hi, this]

theorem clr_zero (V : Nat) : clr V 0 = V := by simp [clr]
theorem fil_zero (V : Nat) : fil V 0 = V := by simp [fil]

/-- a number of 128 bits is known by its eight digits -/
theorem dig_ext {V W : Nat} (hV : V < 2 ^ 128) (hW : W < 2 ^ 128) (h : ∀ j, j < 8 → dig V j = dig W j) : V = W := by
  apply Nat.eq_of_testBit_eq; intro i
  by_cases hi : i < 128
  · have := congrArg (fun n => n.testBit (i % 16)) (h (i / 16) (by omega))
    simp only [testBit_dig] at this
    have e : 16 * (i / 16) + i % 16 = i := by omega
    have l : i % 16 < 16 := by omega
    simpa [e, l] using this
  · rw [Nat.testBit_lt_two_pow (Nat.lt_of_lt_of_le hV (Nat.pow_le_pow_right (by decide) (by omega))), Nat.testBit_lt_two_pow (Nat.lt_of_lt_of_le hW (Nat.pow_le_pow_right (by decide) (by omega)))]


/-- The number of two halves. -/
def num (hi lo : Int) : Nat := hi.toNat * 2 ^ 64 + lo.toNat

theorem num_lt {hi lo : Int} (h2 : hi < 18446744073709551616) (h4 : lo < 18446744073709551616) : num hi lo < 2 ^ 128 := by
  unfold num
  have a : hi.toNat < 2 ^ 64 := by omega
  have b : lo.toNat < 2 ^ 64 := by omega
  have : (2 : Nat) ^ 128 = 2 ^ 64 * 2 ^ 64 := by decide
  omega

theorem num_div (hi lo : Int) (h4 : lo < 18446744073709551616) : num hi lo / 2 ^ 64 = hi.toNat := by
  unfold num; omega
theorem num_mod (hi lo : Int) (h4 : lo < 18446744073709551616) : num hi lo % 2 ^ 64 = lo.toNat := by
  unfold num; omega

theorem dig_low (hi lo : Int) (h4 : lo < 18446744073709551616) (j : Nat) (hj : j < 4) : dig (num hi lo) j = lo.toNat / 2 ^ (16 * j) % 2 ^ 16 := by
  apply Nat.eq_of_testBit_eq; intro i
  rw [testBit_dig, Nat.testBit_mod_two_pow, Nat.testBit_div_two_pow]
  by_cases hi' : i < 16
  · have e : (num hi lo).testBit (16 * j + i) = (num hi lo % 2 ^ 64).testBit (16 * j + i) := by
      rw [Nat.testBit_mod_two_pow]; simp; omega
    rw [e, num_mod hi lo h4, Nat.add_comm]
  · simp [hi']

theorem dig_high (hi lo : Int) (h4 : lo < 18446744073709551616) (j : Nat) : dig (num hi lo) (4 + j) = hi.toNat / 2 ^ (16 * j) % 2 ^ 16 := by
  apply Nat.eq_of_testBit_eq; intro i
  rw [testBit_dig, Nat.testBit_mod_two_pow, Nat.testBit_div_two_pow]
  have e : (num hi lo).testBit (16 * (4 + j) + i) = (num hi lo / 2 ^ 64).testBit (i + 16 * j) := by
    rw [Nat.testBit_div_two_pow]; congr 1; omega
  rw [e, num_div hi lo h4]

/-- The digits of a number, and whether it is Six. -/
def b2i (s : Bool) : Int := if s then 1 else 0
theorem b2i_true : b2i true = 1 := rfl
theorem b2i_false : b2i false = 0 := rfl
theorem b2i_pos (s : Bool) : decide (0 < b2i s) = s := by cases s <;> rfl

theorem clr_lt {V k B : Nat} (h : V < 2 ^ B) : clr V k < 2 ^ B := by
  have : clr V k ≤ V := Nat.div_mul_le_self V (2 ^ k)
  omega
theorem fil_lt {V k B : Nat} (hk : k ≤ B) (h : V < 2 ^ B) : fil V k < 2 ^ B := by
  apply Nat.lt_pow_two_of_testBit
  intro i hi
  rw [testBit_fil, Nat.testBit_lt_two_pow (Nat.lt_of_lt_of_le h (Nat.pow_le_pow_right (by decide) hi))]
  simp; omega
end Go.Proofs.YtedmlbefkpbldaaGreatDoor
namespace Go.Proofs.YtedmlbefkpbldaaGreatDoor
open Go.RowKit

/-- The nine digits as cells. -/
def digL (V : Nat) (s : Bool) : List Value := [.int .i64 (dig V 0), .int .i64 (dig V 1), .int .i64 (dig V 2), .int .i64 (dig V 3), .int .i64 (dig V 4), .int .i64 (dig V 5), .int .i64 (dig V 6), .int .i64 (dig V 7), .int .i64 (b2i s)]
/-- A wide number as a value. -/
abbrev wV (V : Nat) (s : Bool) : Value := .agg #[.int .i64 (dig V 0), .int .i64 (dig V 1), .int .i64 (dig V 2), .int .i64 (dig V 3), .int .i64 (dig V 4), .int .i64 (dig V 5), .int .i64 (dig V 6), .int .i64 (dig V 7), .int .i64 (b2i s)]

theorem and16 (x : Int) (h1 : 0 ≤ x) (h2 : x < 18446744073709551616) : wrap64 (bits .and .u64 x 65535) = ((x.toNat % 2 ^ 16 : Nat) : Int) := by
  rw [u64_and x 65535 h1 h2 (by decide) (by decide)]
  have : x.toNat &&& (65535 : Int).toNat = x.toNat % 2 ^ 16 := Nat.and_two_pow_sub_one_eq_mod x.toNat 16
  rw [this, IntWalk.wrap64_in]
  have := Nat.mod_lt x.toNat (show 0 < 2 ^ 16 by decide)
  omega

theorem dig_of_lo (hi lo : Int) (h3 : 0 ≤ lo) (h4 : lo < 18446744073709551616) (j : Nat) (hj : j < 4) (d : Int) (hd : d = 2 ^ (16 * j)) : wrap64 (bits .and .u64 (lo / d) 65535) = (dig (num hi lo) j : Int) := by
  subst hd
  have hp : (0 : Int) < 2 ^ (16 * j) := Int.pow_pos (by decide)
  have h0 : 0 ≤ lo / 2 ^ (16 * j) := Int.ediv_nonneg h3 (Int.le_of_lt hp)
  have h1 : lo / 2 ^ (16 * j) ≤ lo := Int.ediv_le_self _ h3
  rw [and16 _ h0 (by omega), dig_low hi lo h4 j hj]
  obtain ⟨L, rfl⟩ := Int.eq_ofNat_of_zero_le h3
  have : ((L : Int) / 2 ^ (16 * j)).toNat = L / 2 ^ (16 * j) := by
    rw [show ((2 : Int) ^ (16 * j)) = ((2 ^ (16 * j) : Nat) : Int) by simp, ← Int.natCast_ediv, Int.toNat_natCast]
  rw [this, Int.toNat_natCast]

theorem dig_of_hi (hi lo : Int) (h1 : 0 ≤ hi) (h2 : hi < 18446744073709551616) (h4 : lo < 18446744073709551616) (j : Nat) (d : Int) (hd : d = 2 ^ (16 * j)) : wrap64 (bits .and .u64 (hi / d) 65535) = (dig (num hi lo) (4 + j) : Int) := by
  subst hd
  have hp : (0 : Int) < 2 ^ (16 * j) := Int.pow_pos (by decide)
  have h0 : 0 ≤ hi / 2 ^ (16 * j) := Int.ediv_nonneg h1 (Int.le_of_lt hp)
  have h3 : hi / 2 ^ (16 * j) ≤ hi := Int.ediv_le_self _ h1
  rw [and16 _ h0 (by omega), dig_high hi lo h4 j]
  obtain ⟨L, rfl⟩ := Int.eq_ofNat_of_zero_le h1
  have : ((L : Int) / 2 ^ (16 * j)).toNat = L / 2 ^ (16 * j) := by
    rw [show ((2 : Int) ^ (16 * j)) = ((2 ^ (16 * j) : Nat) : Int) by simp, ← Int.natCast_ediv, Int.toNat_natCast]
  rw [this, Int.toNat_natCast]

/-- A value is returned; what was there is as it was. -/
def GivesV (v : Value) (w : World) (e : Ending) (w' : World) : Prop := e = .returned v ∧ Below w.heap.size w w'

theorem of_eq (hi lo : Int) (h1 : 0 ≤ hi) (h2 : hi < 18446744073709551616) (h3 : 0 ≤ lo) (h4 : lo < 18446744073709551616) (s : Bool) (z : Int) (hz : z = b2i s) :
    Value.agg #[.int .i64 (wrap64 (bits .and .u64 lo 65535)), .int .i64 (wrap64 (bits .and .u64 (lo / 65536) 65535)), .int .i64 (wrap64 (bits .and .u64 (lo / 4294967296) 65535)), .int .i64 (wrap64 (bits .and .u64 (lo / 281474976710656) 65535)),
      .int .i64 (wrap64 (bits .and .u64 hi 65535)), .int .i64 (wrap64 (bits .and .u64 (hi / 65536) 65535)), .int .i64 (wrap64 (bits .and .u64 (hi / 4294967296) 65535)), .int .i64 (wrap64 (bits .and .u64 (hi / 281474976710656) 65535)), .int .i64 z] = wV (num hi lo) s := by
  have a0 := dig_of_lo hi lo h3 h4 0 (by decide) 1 (by decide)
  have a1 := dig_of_lo hi lo h3 h4 1 (by decide) 65536 (by decide)
  have a2 := dig_of_lo hi lo h3 h4 2 (by decide) 4294967296 (by decide)
  have a3 := dig_of_lo hi lo h3 h4 3 (by decide) 281474976710656 (by decide)
  have b0 := dig_of_hi hi lo h1 h2 h4 0 1 (by decide)
  have b1 := dig_of_hi hi lo h1 h2 h4 1 65536 (by decide)
  have b2 := dig_of_hi hi lo h1 h2 h4 2 4294967296 (by decide)
  have b3 := dig_of_hi hi lo h1 h2 h4 3 281474976710656 (by decide)
  rw [Int.ediv_one] at a0 b0
  rw [a0, a1, a2, a3, b0, b1, b2, b3, hz]

set_option maxHeartbeats 1000000 in
theorem of_any (s : Bool) (hi lo : Int) (w : World) (h1 : 0 ≤ hi) (h2 : hi < 18446744073709551616) (h3 : 0 ≤ lo) (h4 : lo < 18446744073709551616) :
    Calls Tryz.prog 64 #[.agg #[.bool s, .int .u64 hi, .int .u64 lo]] w (GivesV (wV (num hi lo) s) w) := by
  have H := Lib.hid (of_eq hi lo h1 h2 h3 h4 s _ rfl)
  cases s
  all_goals
    go_enter Tryz.func64, Tryz.ntmps64
    go_wp2_with fail
    refine wp_loop_rounds 5 ?_
    rw [rounds_succ]
    go_wp2_with fail
    rw [rounds_succ]
    go_wp2_with fail
    rw [rounds_succ]
    go_wp2_with fail
    rw [rounds_succ]
    go_wp2_with fail
    rw [rounds_succ]
    go_wp2_with fail
    refine bodyPost_ret ?_ rfl ⟨congrArg Ending.returned H.out, ?_⟩
    · simp [results, Tryz.results64, go_sem, b2i_true, b2i_false]
    · exact (((Below.refl _ _).alloc (Nat.le_refl _) _).alloc (by simp) _).alloc (by simp; omega) _
end Go.Proofs.YtedmlbefkpbldaaGreatDoor
