/- Prefixes: the bits that two addresses have in common; equalBits, CommonOf, Common. -/
import Derived.Test.YtlnflihnmdpilaaDoorPfxE
import Derived.Test.YtlnflihnmdpilaaDoorShelf
import Derived.Lib.ItoaNum
import Derived.Laws.Bits64
namespace Go.Proofs.YtlnflihnmdpilaaDoor
open Go.RowKit
set_option linter.unusedVariables false
set_option linter.unusedSimpArgs false

theorem bit_iff (x : Nat) (hx : x < 2 ^ 64) (k : Nat) : x < 2 ^ k ↔ Lib.bitLen x ≤ k := by
  by_cases h0 : x = 0
  · subst h0
    have : Lib.bitLen 0 = 0 := Lib.bitLenAux_zero 64
    rw [this]
    have := Nat.two_pow_pos k
    omega
  · obtain ⟨b1, b2, b3⟩ := Lib.bitLenAux_bounds 64 x hx h0
    have e : Lib.bitLen x = Lib.bitLenAux 64 x := rfl
    rw [← e] at b1 b2 b3
    constructor
    · intro h
      apply Nat.le_of_not_lt
      intro hk
      have := Nat.pow_le_pow_right (n := 2) (by decide) (show k ≤ Lib.bitLen x - 1 by omega)
      omega
    · intro h
      exact Nat.lt_of_lt_of_le b3 (Nat.pow_le_pow_right (by decide) h)

/-- The length in bits of a number of 128 bits. -/
def blN (X : Nat) : Nat := if X / 2 ^ 64 = 0 then Lib.bitLen (X % 2 ^ 64) else 64 + Lib.bitLen (X / 2 ^ 64)
theorem bl_iff (X : Nat) (hX : X < 2 ^ 128) (k : Nat) : X < 2 ^ k ↔ blN X ≤ k := by
  have e128 : (2 : Nat) ^ 128 = 2 ^ 64 * 2 ^ 64 := by decide
  unfold blN
  split
  · rename_i h
    have hx : X < 2 ^ 64 := by omega
    rw [Nat.mod_eq_of_lt hx]
    exact bit_iff X hx k
  · rename_i h
    have hY : X / 2 ^ 64 < 2 ^ 64 := Nat.div_lt_of_lt_mul (by omega)
    by_cases hk : k < 64
    · have := Nat.pow_lt_pow_right (a := 2) (by decide) hk
      constructor
      · intro hX'; omega
      · intro hX'; omega
    · have e : (2 : Nat) ^ k = 2 ^ (k - 64) * 2 ^ 64 := by rw [← Nat.pow_add, show k - 64 + 64 = k by omega]
      rw [e, ← Nat.div_lt_iff_lt_mul (Nat.two_pow_pos 64), bit_iff _ hY]
      omega

theorem xor_halves (hi lo h l : Int) (h2 : hi < 18446744073709551616) (h4 : lo < 18446744073709551616) (k2 : h < 18446744073709551616) (k4 : l < 18446744073709551616) :
    (num hi lo ^^^ num h l) / 2 ^ 64 = hi.toNat ^^^ h.toNat ∧ (num hi lo ^^^ num h l) % 2 ^ 64 = lo.toNat ^^^ l.toNat := by
  rw [Nat.xor_div_two_pow, Nat.xor_mod_two_pow, num_div hi lo h4, num_div h l k4, num_mod hi lo h4, num_mod h l k4]
  exact ⟨rfl, rfl⟩

/-- equalBits. -/
def eqZ (s : Bool) (hi lo h l : Int) : Int := lenZ s - (blN (num hi lo ^^^ num h l) : Int)

theorem bitLen_le (x : Nat) (h : x < 2 ^ 64) : Lib.bitLen x ≤ 64 := (bit_iff x h 64).1 h
theorem bitLen_zero_iff (x : Nat) (h : x < 2 ^ 64) : Lib.bitLen x = 0 ↔ x = 0 := by
  have := bit_iff x h 0
  simp at this
  omega

set_option maxHeartbeats 1000000 in
theorem equalBits_any (s : Bool) (hi lo : Int) (t : Bool) (h l : Int) (w : World) (h1 : 0 ≤ hi) (h2 : hi < 18446744073709551616) (h3 : 0 ≤ lo) (h4 : lo < 18446744073709551616)
    (k1 : 0 ≤ h) (k2 : h < 18446744073709551616) (k3 : 0 ≤ l) (k4 : l < 18446744073709551616) :
    Calls Tryd.prog 60 #[.agg #[.bool s, .int .u64 hi, .int .u64 lo], .agg #[.bool t, .int .u64 h, .int .u64 l]] w (GivesV (.int .i64 (eqZ s hi lo h l)) w) := by
  obtain ⟨e1, e2⟩ := xor_halves hi lo h l h2 h4 k2 k4
  have x1 := bits_xor_u64_nat hi.toNat h.toNat (by omega) (by omega)
  have x2 := bits_xor_u64_nat lo.toNat l.toNat (by omega) (by omega)
  rw [Int.toNat_of_nonneg h1, Int.toNat_of_nonneg k1] at x1
  rw [Int.toNat_of_nonneg h3, Int.toNat_of_nonneg k3] at x2
  have l1 : hi.toNat ^^^ h.toNat < 2 ^ 64 := Nat.xor_lt_two_pow (by omega) (by omega)
  have l2 : lo.toNat ^^^ l.toNat < 2 ^ 64 := Nat.xor_lt_two_pow (by omega) (by omega)
  have hz : eqZ s hi lo h l = lenZ s - ((if hi.toNat ^^^ h.toNat = 0 then Lib.bitLen (lo.toNat ^^^ l.toNat) else 64 + Lib.bitLen (hi.toNat ^^^ h.toNat) : Nat) : Int) := by
    unfold eqZ blN; rw [e1, e2]
  generalize hi.toNat ^^^ h.toNat = X1 at x1 l1 hz
  generalize lo.toNat ^^^ l.toNat = X2 at x2 l2 hz
  have HL1 := fun w' => Tryd.bits_LeadingZeros64 (X1 : Int) w' (by omega) (by omega)
  have HL2 := fun w' => Tryd.bits_LeadingZeros64 (X2 : Int) w' (by omega) (by omega)
  rw [Int.toNat_natCast] at HL1 HL2
  have n1 := bitLen_le X1 l1
  have n2 := bitLen_le X2 l2
  have q1 := bitLen_zero_iff X1 l1
  have hl : lenZ s = 32 ∨ lenZ s = 128 := by cases s <;> simp [lenZ]
  rw [← x1] at HL1
  rw [← x2] at HL2
  generalize Lib.bitLen X1 = b1 at HL1 hz n1 q1
  generalize Lib.bitLen X2 = b2 at HL2 hz n2
  have HA := fun w' => Lib.hid (HL1 w')
  have HB := fun w' => Lib.hid (HL2 w')
  have HP := (blk2 w [.bool s, .int .u64 hi, .int .u64 lo] [.bool t, .int .u64 h, .int .u64 l] 28 28)
  have hC0 := below_two w (.cells #[.bool s, .int .u64 hi, .int .u64 lo] 28) (.cells #[.bool t, .int .u64 h, .int .u64 l] 28)
  clear HL1 HL2 x1 x2 e1 e2
  by_cases hx : X1 = 0
  · rw [if_pos hx] at hz
    have hb : b1 = 0 := q1.2 hx
    subst hb
    have HZ := Lib.hid hz
    clear hz q1 hx
    go_enter Tryd.func60, Tryd.ntmps60
    go_wp2_with fail
    refine (HA _).out.mono ?_
    rintro e w1 ⟨rfl, rfl⟩
    go_wp2_with fail
    refine (HB _).out.mono ?_
    rintro e w1 ⟨rfl, rfl⟩
    go_wp2_with fail
    refine (spanLength_any _ _).mono ?_
    rintro e w1 ⟨rfl, rfl⟩
    go_wp2_with fail
    go_ret
    exact ⟨ret_i64 (by rw [HZ.out]; omega), hC0⟩
  · rw [if_neg hx] at hz
    have hb : b1 ≠ 0 := fun h => hx (q1.1 h)
    have HZ := Lib.hid hz
    have c0 : ((64 : Int) - (b1 : Int) == 64) = false := by simp; omega
    clear hz q1 hx
    go_enter Tryd.func60, Tryd.ntmps60
    go_wp2_with fail
    refine (HA _).out.mono ?_
    rintro e w1 ⟨rfl, rfl⟩
    go_wp2_with fail
    refine (spanLength_any _ _).mono ?_
    rintro e w1 ⟨rfl, rfl⟩
    go_wp2_with fail
    go_ret
    exact ⟨ret_i64 (by rw [HZ.out]; push_cast; omega), hC0⟩
end Go.Proofs.YtlnflihnmdpilaaDoor
