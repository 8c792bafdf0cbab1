/- Plain arithmetic of prefixes: what is in a prefix, and which prefixes lie in it. It knows nothing of any program. -/

namespace Go.Proofs.YtfiocnjogbpgoaaGreatDoor
/-- V with its k lowest bits cleared -/
def clr (V k : Nat) : Nat := V / 2 ^ k * 2 ^ k
/-- digit j of 2^16 -/
def dig (V j : Nat) : Nat := V / 2 ^ (16 * j) % 2 ^ 16

theorem testBit_clr (V k i : Nat) : (clr V k).testBit i = (decide (k ≤ i) && V.testBit i) := by
  unfold clr
  rw [Nat.testBit_mul_two_pow]
  by_cases h : k ≤ i
  · simp [h, Nat.testBit_div_two_pow]
  · simp [h]

theorem testBit_dig (V j i : Nat) : (dig V j).testBit i = (decide (i < 16) && V.testBit (16 * j + i)) := by
  unfold dig
  rw [Nat.testBit_mod_two_pow, Nat.testBit_div_two_pow, Nat.add_comm]

theorem dig_lt (V j : Nat) : dig V j < 65536 := Nat.mod_lt _ (by decide)

/-- The number of two halves. -/
def num (hi lo : Int) : Nat := hi.toNat * 2 ^ 64 + lo.toNat

theorem num_lt {hi lo : Int} (h2 : hi < 18446744073709551616) (h4 : lo < 18446744073709551616) : num hi lo < 2 ^ 128 := by
  unfold num
  have a : hi.toNat < 2 ^ 64 := by omega
  have b : lo.toNat < 2 ^ 64 := by omega
  have : (2 : Nat) ^ 128 = 2 ^ 64 * 2 ^ 64 := by decide
  omega

theorem num_div (hi lo : Int) (h4 : lo < 18446744073709551616) : num hi lo / 2 ^ 64 = hi.toNat := by
  unfold num; omega
theorem num_mod (hi lo : Int) (h4 : lo < 18446744073709551616) : num hi lo % 2 ^ 64 = lo.toNat := by
  unfold num; omega

theorem dig_low (hi lo : Int) (h4 : lo < 18446744073709551616) (j : Nat) (hj : j < 4) : dig (num hi lo) j = lo.toNat / 2 ^ (16 * j) % 2 ^ 16 := by
  apply Nat.eq_of_testBit_eq; intro i
  rw [testBit_dig, Nat.testBit_mod_two_pow, Nat.testBit_div_two_pow]
  by_cases hi' : i < 16
  · have e : (num hi lo).testBit (16 * j + i) = (num hi lo % 2 ^ 64).testBit (16 * j + i) := by
      rw [Nat.testBit_mod_two_pow]; simp; omega
    rw [e, num_mod hi lo h4, Nat.add_comm]
  · simp [hi']

theorem dig_high (hi lo : Int) (h4 : lo < 18446744073709551616) (j : Nat) : dig (num hi lo) (4 + j) = hi.toNat / 2 ^ (16 * j) % 2 ^ 16 := by
  apply Nat.eq_of_testBit_eq; intro i
  rw [testBit_dig, Nat.testBit_mod_two_pow, Nat.testBit_div_two_pow]
  have e : (num hi lo).testBit (16 * (4 + j) + i) = (num hi lo / 2 ^ 64).testBit (i + 16 * j) := by
    rw [Nat.testBit_div_two_pow]; congr 1; omega
  rw [e, num_div hi lo h4]

/-- The digits of a number, and whether it is Six. -/
def b2i (s : Bool) : Int := if s then 1 else 0
theorem b2i_true : b2i true = 1 := rfl
theorem b2i_false : b2i false = 0 := rfl
theorem clr_lt {V k B : Nat} (h : V < 2 ^ B) : clr V k < 2 ^ B := by
  have : clr V k ≤ V := Nat.div_mul_le_self V (2 ^ k)
  omega
end Go.Proofs.YtfiocnjogbpgoaaGreatDoor
namespace Go.Proofs.YtfiocnjogbpgoaaGreatDoor
set_option linter.unusedVariables false

theorem clr_clr {A j k : Nat} (h : j ≤ k) : clr (clr A j) k = clr A k := by
  apply Nat.eq_of_testBit_eq; intro i
  rw [testBit_clr, testBit_clr, testBit_clr]
  by_cases hi : k ≤ i
  · have : j ≤ i := by omega
    simp [this]
  · simp [hi]

theorem clr_idem (A k : Nat) : clr (clr A k) k = clr A k := clr_clr (Nat.le_refl k)

/-- The order of two numbers of 128 bits, the shorter kind first. -/
def cmpW (A : Nat) (s : Bool) (B : Nat) (t : Bool) : Int := if s = t then (if A < B then -1 else if A = B then 0 else 1) else if t then -1 else 1
/-- Digits from the highest on: the first that differs decides. -/
theorem top_step (A B i : Nat) (h : A / 2 ^ (16 * (i + 1)) = B / 2 ^ (16 * (i + 1))) :
    (dig A i = dig B i → A / 2 ^ (16 * i) = B / 2 ^ (16 * i)) ∧ (dig A i < dig B i → A < B) ∧ (dig B i < dig A i → B < A) := by
  have e : ∀ V : Nat, V / 2 ^ (16 * i) = V / 2 ^ (16 * (i + 1)) * 65536 + dig V i := fun V => by
    unfold dig
    have h1 : V / 2 ^ (16 * (i + 1)) = V / 2 ^ (16 * i) / 65536 := by
      rw [Nat.div_div_eq_div_mul, show (65536 : Nat) = 2 ^ 16 by decide, ← Nat.pow_add, show 16 * (i + 1) = 16 * i + 16 by omega]
    rw [h1]
    have := Nat.div_add_mod (V / 2 ^ (16 * i)) 65536
    have e2 : (2 : Nat) ^ 16 = 65536 := by decide
    rw [e2]
    omega
  have eA := e A
  have eB := e B
  rw [h] at eA
  refine ⟨fun hd => by rw [eA, eB, hd], fun hd => ?_, fun hd => ?_⟩
  · apply Nat.lt_of_not_le
    intro hle
    have := Nat.div_le_div_right (c := 2 ^ (16 * i)) hle
    omega
  · apply Nat.lt_of_not_le
    intro hle
    have := Nat.div_le_div_right (c := 2 ^ (16 * i)) hle
    omega
end Go.Proofs.YtfiocnjogbpgoaaGreatDoor
