/- Plain arithmetic of prefixes: what is in a prefix, and which prefixes lie in it. It knows nothing of any program. -/

namespace Go.Proofs.YtijlahgmnpnmfaaGreatDoor
/-- V with its k lowest bits cleared -/
def clr (V k : Nat) : Nat := V / 2 ^ k * 2 ^ k
/-- digit j of 2^16 -/
def dig (V j : Nat) : Nat := V / 2 ^ (16 * j) % 2 ^ 16

theorem testBit_dig (V j i : Nat) : (dig V j).testBit i = (decide (i < 16) && V.testBit (16 * j + i)) := by
  unfold dig
  rw [Nat.testBit_mod_two_pow, Nat.testBit_div_two_pow, Nat.add_comm]

theorem dig_lt (V j : Nat) : dig V j < 65536 := Nat.mod_lt _ (by decide)

/-- The number of two halves. -/
def num (hi lo : Int) : Nat := hi.toNat * 2 ^ 64 + lo.toNat

theorem num_lt {hi lo : Int} (h2 : hi < 18446744073709551616) (h4 : lo < 18446744073709551616) : num hi lo < 2 ^ 128 := by
  unfold num
  have a : hi.toNat < 2 ^ 64 := by omega
  have b : lo.toNat < 2 ^ 64 := by omega
  have : (2 : Nat) ^ 128 = 2 ^ 64 * 2 ^ 64 := by decide
  omega

theorem num_div (hi lo : Int) (h4 : lo < 18446744073709551616) : num hi lo / 2 ^ 64 = hi.toNat := by
  unfold num; omega
theorem num_mod (hi lo : Int) (h4 : lo < 18446744073709551616) : num hi lo % 2 ^ 64 = lo.toNat := by
  unfold num; omega

theorem dig_low (hi lo : Int) (h4 : lo < 18446744073709551616) (j : Nat) (hj : j < 4) : dig (num hi lo) j = lo.toNat / 2 ^ (16 * j) % 2 ^ 16 := by
  apply Nat.eq_of_testBit_eq; intro i
  rw [testBit_dig, Nat.testBit_mod_two_pow, Nat.testBit_div_two_pow]
  by_cases hi' : i < 16
  · have e : (num hi lo).testBit (16 * j + i) = (num hi lo % 2 ^ 64).testBit (16 * j + i) := by
      rw [Nat.testBit_mod_two_pow]; simp; omega
    rw [e, num_mod hi lo h4, Nat.add_comm]
  · simp [hi']

theorem dig_high (hi lo : Int) (h4 : lo < 18446744073709551616) (j : Nat) : dig (num hi lo) (4 + j) = hi.toNat / 2 ^ (16 * j) % 2 ^ 16 := by
  apply Nat.eq_of_testBit_eq; intro i
  rw [testBit_dig, Nat.testBit_mod_two_pow, Nat.testBit_div_two_pow]
  have e : (num hi lo).testBit (16 * (4 + j) + i) = (num hi lo / 2 ^ 64).testBit (i + 16 * j) := by
    rw [Nat.testBit_div_two_pow]; congr 1; omega
  rw [e, num_div hi lo h4]

end Go.Proofs.YtijlahgmnpnmfaaGreatDoor
namespace Go.Proofs.YtijlahgmnpnmfaaGreatDoor
set_option linter.unusedVariables false

end Go.Proofs.YtijlahgmnpnmfaaGreatDoor
