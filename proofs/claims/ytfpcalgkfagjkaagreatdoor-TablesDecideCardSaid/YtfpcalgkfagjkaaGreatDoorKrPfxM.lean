/- Plain arithmetic of prefixes: what is in a prefix, and which prefixes lie in it. It knows nothing of any program. -/

set_option linter.unusedVariables false
namespace Go.Proofs.YtfpcalgkfagjkaaGreatDoor
def clr (V k : Nat) : Nat := V / 2 ^ k * 2 ^ k
def fil (V k : Nat) : Nat := V / 2 ^ k * 2 ^ k + (2 ^ k - 1)
def dig (V j : Nat) : Nat := V / 2 ^ (16 * j) % 2 ^ 16

theorem testBit_clr (V k i : Nat) : (clr V k).testBit i = (decide (k ≤ i) && V.testBit i) := by
  unfold clr
  rw [Nat.testBit_mul_two_pow]
  by_cases h : k ≤ i
  · simp [h, Nat.testBit_div_two_pow]
  · simp [h]

theorem testBit_fil (V k i : Nat) : (fil V k).testBit i = (decide (i < k) || V.testBit i) := by
  unfold fil
  have e : V / 2 ^ k * 2 ^ k + (2 ^ k - 1) = 2 ^ k * (V / 2 ^ k) + (2 ^ k - 1) := by rw [Nat.mul_comm]
  rw [e, Nat.testBit_two_pow_mul_add _ (by have := Nat.two_pow_pos k; omega)]
  by_cases h : i < k
  · simp [h]
  · simp [h, Nat.testBit_div_two_pow, Nat.sub_add_cancel (Nat.le_of_not_lt h)]

theorem testBit_dig (V j i : Nat) : (dig V j).testBit i = (decide (i < 16) && V.testBit (16 * j + i)) := by
  unfold dig
  rw [Nat.testBit_mod_two_pow, Nat.testBit_div_two_pow, Nat.add_comm]

theorem dig_lt (V j : Nat) : dig V j < 65536 := Nat.mod_lt _ (by decide)

theorem dig_clr_other (V k j : Nat) (h : j ≠ k / 16) : dig (clr V (k + 1)) j = dig (clr V k) j := by
  apply Nat.eq_of_testBit_eq; intro i
  rw [testBit_dig, testBit_dig, testBit_clr, testBit_clr]
  by_cases hi : i < 16
  · have : decide (k + 1 ≤ 16 * j + i) = decide (k ≤ 16 * j + i) := by
      apply decide_eq_decide.2; omega
    rw [this]
  · simp [hi]

theorem dig_clr_here (V k : Nat) : dig (clr V (k + 1)) (k / 16) = dig (clr V k) (k / 16) &&& (2 ^ 64 - (2 ^ (k % 16) + 1)) := by
  apply Nat.eq_of_testBit_eq; intro i
  rw [testBit_dig, Nat.testBit_and, testBit_dig, testBit_clr, testBit_clr, Nat.testBit_two_pow_sub_succ (Nat.pow_lt_pow_right (by decide) (by omega)), Nat.testBit_two_pow]
  by_cases hi : i < 16
  · by_cases h : k % 16 = i
    · have e1 : ¬ (k + 1 ≤ 16 * (k / 16) + i) := by omega
      simp [e1, h]
    · have : decide (k + 1 ≤ 16 * (k / 16) + i) = decide (k ≤ 16 * (k / 16) + i) := by
        apply decide_eq_decide.2; omega
      rw [this]; simp [h]; omega
  · simp [hi]

theorem dig_fil_other (V k j : Nat) (h : j ≠ k / 16) : dig (fil V (k + 1)) j = dig (fil V k) j := by
  apply Nat.eq_of_testBit_eq; intro i
  rw [testBit_dig, testBit_dig, testBit_fil, testBit_fil]
  by_cases hi : i < 16
  · have : decide (16 * j + i < k + 1) = decide (16 * j + i < k) := by
      apply decide_eq_decide.2; omega
    rw [this]
  · simp [hi]

theorem dig_fil_here (V k : Nat) : dig (fil V (k + 1)) (k / 16) = dig (fil V k) (k / 16) ||| 2 ^ (k % 16) := by
  apply Nat.eq_of_testBit_eq; intro i
  rw [testBit_dig, Nat.testBit_or, testBit_dig, testBit_fil, testBit_fil, Nat.testBit_two_pow]
  by_cases hi : i < 16
  · by_cases h : k % 16 = i
    · have e1 : 16 * (k / 16) + i < k + 1 := by omega
      simp [e1, h, hi]
    · have : decide (16 * (k / 16) + i < k + 1) = decide (16 * (k / 16) + i < k) := by
        apply decide_eq_decide.2; omega
      rw [this]; simp [h]
  · have : ¬ (k % 16 = i) := by omega
    simp [hi, this]

theorem clr_zero (V : Nat) : clr V 0 = V := by simp [clr]
theorem fil_zero (V : Nat) : fil V 0 = V := by simp [fil]

theorem dig_ext {V W : Nat} (hV : V < 2 ^ 128) (hW : W < 2 ^ 128) (h : ∀ j, j < 8 → dig V j = dig W j) : V = W := by
  apply Nat.eq_of_testBit_eq; intro i
  by_cases hi : i < 128
  · have := congrArg (fun n => n.testBit (i % 16)) (h (i / 16) (by omega))
    simp only [testBit_dig] at this
    have e : 16 * (i / 16) + i % 16 = i := by omega
    have l : i % 16 < 16 := by omega
    simpa [e, l] using this
  · rw [Nat.testBit_lt_two_pow (Nat.lt_of_lt_of_le hV (Nat.pow_le_pow_right (by decide) (by omega))), Nat.testBit_lt_two_pow (Nat.lt_of_lt_of_le hW (Nat.pow_le_pow_right (by decide) (by omega)))]


def num (hi lo : Int) : Nat := hi.toNat * 2 ^ 64 + lo.toNat

theorem num_lt {hi lo : Int} (h2 : hi < 18446744073709551616) (h4 : lo < 18446744073709551616) : num hi lo < 2 ^ 128 := by
  unfold num
  have a : hi.toNat < 2 ^ 64 := by omega
  have b : lo.toNat < 2 ^ 64 := by omega
  have : (2 : Nat) ^ 128 = 2 ^ 64 * 2 ^ 64 := by decide
  omega

theorem num_div (hi lo : Int) (h4 : lo < 18446744073709551616) : num hi lo / 2 ^ 64 = hi.toNat := by
  unfold num; omega
theorem num_mod (hi lo : Int) (h4 : lo < 18446744073709551616) : num hi lo % 2 ^ 64 = lo.toNat := by
  unfold num; omega

theorem dig_low (hi lo : Int) (h4 : lo < 18446744073709551616) (j : Nat) (hj : j < 4) : dig (num hi lo) j = lo.toNat / 2 ^ (16 * j) % 2 ^ 16 := by
  apply Nat.eq_of_testBit_eq; intro i
  rw [testBit_dig, Nat.testBit_mod_two_pow, Nat.testBit_div_two_pow]
  by_cases hi' : i < 16
  · have e : (num hi lo).testBit (16 * j + i) = (num hi lo % 2 ^ 64).testBit (16 * j + i) := by
      rw [Nat.testBit_mod_two_pow]; simp; omega
    rw [e, num_mod hi lo h4, Nat.add_comm]
  · simp [hi']

theorem dig_high (hi lo : Int) (h4 : lo < 18446744073709551616) (j : Nat) : dig (num hi lo) (4 + j) = hi.toNat / 2 ^ (16 * j) % 2 ^ 16 := by
  apply Nat.eq_of_testBit_eq; intro i
  rw [testBit_dig, Nat.testBit_mod_two_pow, Nat.testBit_div_two_pow]
  have e : (num hi lo).testBit (16 * (4 + j) + i) = (num hi lo / 2 ^ 64).testBit (i + 16 * j) := by
    rw [Nat.testBit_div_two_pow]; congr 1; omega
  rw [e, num_div hi lo h4]

def b2i (s : Bool) : Int := if s then 1 else 0
theorem b2i_true : b2i true = 1 := rfl
theorem b2i_false : b2i false = 0 := rfl
theorem b2i_pos (s : Bool) : decide (0 < b2i s) = s := by cases s <;> rfl

theorem clr_lt {V k B : Nat} (h : V < 2 ^ B) : clr V k < 2 ^ B := by
  have : clr V k ≤ V := Nat.div_mul_le_self V (2 ^ k)
  omega
theorem fil_lt {V k B : Nat} (hk : k ≤ B) (h : V < 2 ^ B) : fil V k < 2 ^ B := by
  apply Nat.lt_pow_two_of_testBit
  intro i hi
  rw [testBit_fil, Nat.testBit_lt_two_pow (Nat.lt_of_lt_of_le h (Nat.pow_le_pow_right (by decide) hi))]
  simp; omega
end Go.Proofs.YtfpcalgkfagjkaaGreatDoor
namespace Go.Proofs.YtfpcalgkfagjkaaGreatDoor

theorem fil_aligned {A k : Nat} (h : clr A k = A) : fil A k = A + (2 ^ k - 1) := by
  unfold fil; unfold clr at h; rw [h]

theorem clr_iff {A B k : Nat} (h : clr A k = A) : clr B k = A ↔ A ≤ B ∧ B ≤ fil A k := by
  have hq := Nat.two_pow_pos k
  rw [fil_aligned h]
  constructor
  · intro e
    have h1 : clr B k ≤ B := Nat.div_mul_le_self B (2 ^ k)
    have h2 : B < clr B k + 2 ^ k := by
      have a := Nat.div_add_mod B (2 ^ k)
      have b := Nat.mod_lt B hq
      have c : 2 ^ k * (B / 2 ^ k) = clr B k := Nat.mul_comm _ _
      omega
    omega
  · rintro ⟨h1, h2⟩
    have e : B / 2 ^ k = A / 2 ^ k := by
      apply Nat.div_eq_of_lt_le
      · have : A / 2 ^ k * 2 ^ k = A := h
        omega
      · have : (A / 2 ^ k + 1) * 2 ^ k = A / 2 ^ k * 2 ^ k + 2 ^ k := Nat.succ_mul _ _
        have : A / 2 ^ k * 2 ^ k = A := h
        omega
    unfold clr
    rw [e]
    exact h

def cmpW (A : Nat) (s : Bool) (B : Nat) (t : Bool) : Int := if s = t then (if A < B then -1 else if A = B then 0 else 1) else if t then -1 else 1
theorem cmpW_le (A : Nat) (s : Bool) (B : Nat) (t : Bool) : cmpW A s B t ≤ 0 ↔ (s = t ∧ A ≤ B) ∨ (s = false ∧ t = true) := by
  unfold cmpW
  cases s <;> cases t <;> simp <;> (repeat' split) <;> omega

def hdB (A k : Nat) (s : Bool) (B : Nat) (t : Bool) : Bool := decide (cmpW A s B t ≤ 0) && decide (cmpW B t (fil A k) s ≤ 0)
theorem hdB_eq (A k : Nat) (s : Bool) (B : Nat) (t : Bool) : hdB A k s B t = (s == t && decide (A ≤ B ∧ B ≤ fil A k)) := by
  rw [Bool.eq_iff_iff]
  simp only [hdB, Bool.and_eq_true, decide_eq_true_eq, beq_iff_eq, cmpW_le]
  constructor
  · rintro ⟨h1 | ⟨h1, h1'⟩, h2 | ⟨h2, h2'⟩⟩
    · exact ⟨h1.1, h1.2, h2.2⟩
    · simp_all
    · simp_all
    · simp_all
  · rintro ⟨h1, h2, h3⟩
    exact ⟨.inl ⟨h1, h2⟩, .inl ⟨h1.symm, h3⟩⟩

theorem top_step (A B i : Nat) (h : A / 2 ^ (16 * (i + 1)) = B / 2 ^ (16 * (i + 1))) :
    (dig A i = dig B i → A / 2 ^ (16 * i) = B / 2 ^ (16 * i)) ∧ (dig A i < dig B i → A < B) ∧ (dig B i < dig A i → B < A) := by
  have e : ∀ V : Nat, V / 2 ^ (16 * i) = V / 2 ^ (16 * (i + 1)) * 65536 + dig V i := fun V => by
    unfold dig
    have h1 : V / 2 ^ (16 * (i + 1)) = V / 2 ^ (16 * i) / 65536 := by
      rw [Nat.div_div_eq_div_mul, show (65536 : Nat) = 2 ^ 16 by decide, ← Nat.pow_add, show 16 * (i + 1) = 16 * i + 16 by omega]
    rw [h1]
    have := Nat.div_add_mod (V / 2 ^ (16 * i)) 65536
    have e2 : (2 : Nat) ^ 16 = 65536 := by decide
    rw [e2]
    omega
  have eA := e A
  have eB := e B
  rw [h] at eA
  refine ⟨fun hd => by rw [eA, eB, hd], fun hd => ?_, fun hd => ?_⟩
  · apply Nat.lt_of_not_le
    intro hle
    have := Nat.div_le_div_right (c := 2 ^ (16 * i)) hle
    omega
  · apply Nat.lt_of_not_le
    intro hle
    have := Nat.div_le_div_right (c := 2 ^ (16 * i)) hle
    omega
end Go.Proofs.YtfpcalgkfagjkaaGreatDoor
