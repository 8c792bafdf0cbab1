/- Plain arithmetic of prefixes: what is in a prefix, and which prefixes lie in it. It knows nothing of any program. -/

namespace Go.Proofs.YtfiocnjogbpgoaaGreatDoor
/-- V with its k lowest bits cleared -/
def clr (V k : Nat) : Nat := V / 2 ^ k * 2 ^ k
/-- digit j of 2^16 -/
def dig (V j : Nat) : Nat := V / 2 ^ (16 * j) % 2 ^ 16

theorem testBit_clr (V k i : Nat) : (clr V k).testBit i = (decide (k ≤ i) && V.testBit i) := by
  unfold clr
  rw [Nat.testBit_mul_two_pow]
  by_cases h : k ≤ i
  · simp [h, Nat.testBit_div_two_pow]
  · simp [h]

theorem testBit_dig (V j i : Nat) : (dig V j).testBit i = (decide (i < 16) && V.testBit (16 * j + i)) := by
  unfold dig
  rw [Nat.testBit_mod_two_pow, Nat.testBit_div_two_pow, Nat.add_comm]

theorem dig_lt (V j : Nat) : dig V j < 65536 := Nat.mod_lt _ (by decide)

theorem dig_clr_other (V k j : Nat) (h : j ≠ k / 16) : dig (clr V (k + 1)) j = dig (clr V k) j := by
  apply Nat.eq_of_testBit_eq; intro i
  rw [testBit_dig, testBit_dig, testBit_clr, testBit_clr]
  by_cases hi : i < 16
  · have : decide (k + 1 ≤ 16 * j + i) = decide (k ≤ 16 * j + i) := by
      apply decide_eq_decide.2; omega
    rw [this]
  · simp [hi]

theorem dig_clr_here (V k : Nat) : dig (clr V (k + 1)) (k / 16) = dig (clr V k) (k / 16) &&& (2 ^ 64 - (2 ^ (k % 16) + 1)) := by
  apply Nat.eq_of_testBit_eq; intro i
  rw [testBit_dig, Nat.testBit_and, testBit_dig, testBit_clr, testBit_clr, Nat.testBit_two_pow_sub_succ (Nat.pow_lt_pow_right (by decide) (by omega)), Nat.testBit_two_pow]
  by_cases hi : i < 16
  · by_cases h : k % 16 = i
    · have e1 : ¬ (k + 1 ≤ 16 * (k / 16) + i) := by omega
      simp [e1, h]
    · have : decide (k + 1 ≤ 16 * (k / 16) + i) = decide (k ≤ 16 * (k / 16) + i) := by
        apply decide_eq_decide.2; omega
      rw [this]; simp [h]; omega
  · simp [hi]

theorem clr_zero (V : Nat) : clr V 0 = V := by simp [clr]
/-- The number of two halves. -/
def num (hi lo : Int) : Nat := hi.toNat * 2 ^ 64 + lo.toNat

theorem num_lt {hi lo : Int} (h2 : hi < 18446744073709551616) (h4 : lo < 18446744073709551616) : num hi lo < 2 ^ 128 := by
  unfold num
  have a : hi.toNat < 2 ^ 64 := by omega
  have b : lo.toNat < 2 ^ 64 := by omega
  have : (2 : Nat) ^ 128 = 2 ^ 64 * 2 ^ 64 := by decide
  omega

theorem num_div (hi lo : Int) (h4 : lo < 18446744073709551616) : num hi lo / 2 ^ 64 = hi.toNat := by
  unfold num; omega
theorem num_mod (hi lo : Int) (h4 : lo < 18446744073709551616) : num hi lo % 2 ^ 64 = lo.toNat := by
  unfold num; omega

theorem dig_low (hi lo : Int) (h4 : lo < 18446744073709551616) (j : Nat) (hj : j < 4) : dig (num hi lo) j = lo.toNat / 2 ^ (16 * j) % 2 ^ 16 := by
  apply Nat.eq_of_testBit_eq; intro i
  rw [testBit_dig, Nat.testBit_mod_two_pow, Nat.testBit_div_two_pow]
  by_cases hi' : i < 16
  · have e : (num hi lo).testBit (16 * j + i) = (num hi lo % 2 ^ 64).testBit (16 * j + i) := by
      rw [Nat.testBit_mod_two_pow]; simp; omega
    rw [e, num_mod hi lo h4, Nat.add_comm]
  · simp [hi']

theorem dig_high (hi lo : Int) (h4 : lo < 18446744073709551616) (j : Nat) : dig (num hi lo) (4 + j) = hi.toNat / 2 ^ (16 * j) % 2 ^ 16 := by
  apply Nat.eq_of_testBit_eq; intro i
  rw [testBit_dig, Nat.testBit_mod_two_pow, Nat.testBit_div_two_pow]
  have e : (num hi lo).testBit (16 * (4 + j) + i) = (num hi lo / 2 ^ 64).testBit (i + 16 * j) := by
    rw [Nat.testBit_div_two_pow]; congr 1; omega
  rw [e, num_div hi lo h4]

/-- The digits of a number, and whether it is Six. -/
def b2i (s : Bool) : Int := if s then 1 else 0
theorem b2i_true : b2i true = 1 := rfl
theorem b2i_false : b2i false = 0 := rfl
theorem b2i_pos (s : Bool) : decide (0 < b2i s) = s := by cases s <;> rfl

theorem clr_lt {V k B : Nat} (h : V < 2 ^ B) : clr V k < 2 ^ B := by
  have : clr V k ≤ V := Nat.div_mul_le_self V (2 ^ k)
  omega
end Go.Proofs.YtfiocnjogbpgoaaGreatDoor
namespace Go.Proofs.YtfiocnjogbpgoaaGreatDoor
set_option linter.unusedVariables false

theorem clr_clr {A j k : Nat} (h : j ≤ k) : clr (clr A j) k = clr A k := by
  apply Nat.eq_of_testBit_eq; intro i
  rw [testBit_clr, testBit_clr, testBit_clr]
  by_cases hi : k ≤ i
  · have : j ≤ i := by omega
    simp [this]
  · simp [hi]

theorem clr_idem (A k : Nat) : clr (clr A k) k = clr A k := clr_clr (Nat.le_refl k)

end Go.Proofs.YtfiocnjogbpgoaaGreatDoor
