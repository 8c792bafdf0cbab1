/- The program's own masks: CheckAddr, Length, ones, span.Mask, Mask, CheckPrefix. -/
import Derived.Test.YtokeeimppbiokaaGreatDoorWideB
import Derived.Deep.RegionHeld3
import Derived.Deep.DeepCutAuto
namespace Go.Proofs.YtokeeimppbiokaaGreatDoor
open Go.RowKit

set_option maxHeartbeats 400000 in
theorem checkAddr_any (s : Bool) (hi lo : Int) (w : World) :
    Calls Tryz.prog 50 #[.agg #[.bool s, .int .u64 hi, .int .u64 lo]] w (GivesV (.int .i64 (adF s hi lo)) w) := by
  cases s
  · by_cases h : hi = 0
    · have b0 : (hi != 0) = false := by simp [h]
      by_cases h' : 4294967296 ≤ lo
      · have H := Lib.hid (show adF false hi lo = 3 from if_pos ⟨rfl, .inr (by omega)⟩)
        clear h
        go_enter Tryz.func50, Tryz.ntmps50
        go_wp2_with fail
        go_ret
        exact ⟨by rw [H.out]; rfl, (Below.refl _ _).alloc (Nat.le_refl _) _⟩
      · have H := Lib.hid (show adF false hi lo = 0 from if_neg (by omega))
        clear h
        go_enter Tryz.func50, Tryz.ntmps50
        go_wp2_with fail
        go_ret
        exact ⟨by rw [H.out]; rfl, (Below.refl _ _).alloc (Nat.le_refl _) _⟩
    · have b0 : (hi != 0) = true := by simp [h]
      have H := Lib.hid (show adF false hi lo = 3 from if_pos ⟨rfl, .inl (by omega)⟩)
      clear h
      go_enter Tryz.func50, Tryz.ntmps50
      go_wp2_with fail
      go_ret
      exact ⟨by rw [H.out]; rfl, (Below.refl _ _).alloc (Nat.le_refl _) _⟩
  · go_enter Tryz.func50, Tryz.ntmps50
    go_wp2_with fail
    go_ret
    exact ⟨rfl, (Below.refl _ _).alloc (Nat.le_refl _) _⟩

set_option maxHeartbeats 400000 in
theorem spanLength_any (s : Bool) (w : World) :
    Calls Tryz.prog 83 #[.bool s] w fun e w' => e = .returned (.int .i64 (lenZ s)) ∧ w = w' := by
  cases s
  all_goals
    go_enter Tryz.func83, Tryz.ntmps83
    go_wp2_with fail
    go_ret
    exact ⟨rfl, rfl⟩

/-- The two halves of the number whose lowest n bits are 1. -/
def onesH (n : Nat) : Nat := if 64 < n then 2 ^ (n - 64) - 1 else 0
def onesL (n : Nat) : Nat := if 64 < n then 18446744073709551615 else 2 ^ n - 1

theorem wrap_pow (n : Nat) (h : n ≤ 64) : IntKind.u64.wrap (IntKind.u64.wrap (2 ^ n) - 1) = ((2 ^ n - 1 : Nat) : Int) := by
  rw [IntKind.wrap_u64, IntKind.wrap_u64]
  have hp : (1 : Nat) ≤ 2 ^ n := Nat.one_le_two_pow
  have hc : ((2 : Int) ^ n) = ((2 ^ n : Nat) : Int) := by simp
  by_cases h' : n = 64
  · subst h'; decide
  · have hq : (2 : Nat) ^ n ≤ 2 ^ 63 := Nat.pow_le_pow_right (by decide) (by omega)
    rw [hc]
    have e : ((2 ^ n - 1 : Nat) : Int) = ((2 ^ n : Nat) : Int) - 1 := by omega
    rw [e]
    omega

theorem tuple_eq {a b c d : Int} (h1 : a = b) (h2 : c = d) : Ending.returned (.tuple #[.int .u64 a, .int .u64 c]) = Ending.returned (.tuple #[.int .u64 b, .int .u64 d]) := by rw [h1, h2]

set_option maxHeartbeats 400000 in
theorem ones_any (n : Nat) (hn : n ≤ 128) (w : World) :
    Calls Tryz.prog 112 #[.int .i64 (n : Int)] w fun e w' => e = .returned (.tuple #[.int .u64 (onesH n : Int), .int .u64 (onesL n : Int)]) ∧ ∃ m, w' = w.drewN m := by
  by_cases h : 64 < n
  · have H := Lib.hid (tuple_eq (show IntKind.u64.wrap (IntKind.u64.wrap (2 ^ (n - 64)) - 1) = (onesH n : Int) by rw [wrap_pow _ (by omega)]; unfold onesH; rw [if_pos h]) (show (18446744073709551615 : Int) = (onesL n : Int) by unfold onesL; rw [if_pos h]; rfl))
    go_enter Tryz.func112, Tryz.ntmps112
    go_wp2_with fail
    go_ret2
    exact ⟨H.out, 0, rfl⟩
  · have H := Lib.hid (tuple_eq (show (0 : Int) = (onesH n : Int) by unfold onesH; rw [if_neg h]; rfl) (show IntKind.u64.wrap (IntKind.u64.wrap (2 ^ n) - 1) = (onesL n : Int) by rw [wrap_pow _ (by omega)]; unfold onesL; rw [if_neg h]))
    go_enter Tryz.func112, Tryz.ntmps112
    go_wp2_with fail
    go_quiet (fail)
    go_wp2_with fail
    go_ret2
    exact ⟨H.out, _, rfl⟩

/-- A number without its low bits, half by half. -/
theorem clr_halves (hi lo : Int) (n : Nat) (hn : n ≤ 128) (h1 : 0 ≤ hi) (h2 : hi < 18446744073709551616) (h3 : 0 ≤ lo) (h4 : lo < 18446744073709551616) :
    bits .andNot .u64 hi (onesH n : Int) = ((clr (num hi lo) n / 2 ^ 64 : Nat) : Int) ∧ bits .andNot .u64 lo (onesL n : Int) = ((clr (num hi lo) n % 2 ^ 64 : Nat) : Int) := by
  have lH : onesH n < 18446744073709551616 := by
    unfold onesH; split
    · have : (2 : Nat) ^ (n - 64) ≤ 2 ^ 64 := Nat.pow_le_pow_right (by decide) (by omega)
      have := Nat.two_pow_pos (n - 64); omega
    · omega
  have lL : onesL n < 18446744073709551616 := by
    unfold onesL; split
    · omega
    · have : (2 : Nat) ^ n ≤ 2 ^ 64 := Nat.pow_le_pow_right (by decide) (by omega)
      have := Nat.two_pow_pos n; omega
  rw [u64_andNot hi _ h1 h2 (by omega) (by omega), u64_andNot lo _ h3 h4 (by omega) (by omega)]
  simp only [Int.toNat_natCast]
  have hH : hi.toNat < 2 ^ 64 := by omega
  have hL : lo.toNat < 2 ^ 64 := by omega
  have eH := num_div hi lo h4
  have eL := num_mod hi lo h4
  refine ⟨congrArg Int.ofNat ?_, congrArg Int.ofNat ?_⟩
  · apply Nat.eq_of_testBit_eq; intro i
    rw [Nat.testBit_and, show 18446744073709551615 - onesH n = 2 ^ 64 - (onesH n + 1) by omega, Nat.testBit_two_pow_sub_succ lH, Nat.testBit_div_two_pow, testBit_clr]
    have hb : hi.toNat.testBit i = (num hi lo).testBit (i + 64) := by rw [← eH, Nat.testBit_div_two_pow]
    rw [hb]
    by_cases hi64 : i < 64
    · unfold onesH
      by_cases h : 64 < n
      · rw [if_pos h, Nat.testBit_two_pow_sub_one]
        have : (!decide (i < n - 64)) = decide (n ≤ i + 64) := by rw [← decide_not]; apply decide_eq_decide.2; omega
        rw [this]; simp [hi64, Bool.and_comm]
      · rw [if_neg h]
        have : decide (n ≤ i + 64) = true := decide_eq_true (by omega)
        rw [this]; simp [hi64]
    · have : (num hi lo).testBit (i + 64) = false := by
        rw [← hb]; exact Nat.testBit_lt_two_pow (Nat.lt_of_lt_of_le hH (Nat.pow_le_pow_right (by decide) (by omega)))
      rw [this]; simp
  · apply Nat.eq_of_testBit_eq; intro i
    rw [Nat.testBit_and, show 18446744073709551615 - onesL n = 2 ^ 64 - (onesL n + 1) by omega, Nat.testBit_two_pow_sub_succ lL, Nat.testBit_mod_two_pow, testBit_clr]
    by_cases hi64 : i < 64
    · have hb : lo.toNat.testBit i = (num hi lo).testBit i := by rw [← eL, Nat.testBit_mod_two_pow]; simp [hi64]
      rw [hb]
      unfold onesL
      by_cases h : 64 < n
      · rw [if_pos h, show (18446744073709551615 : Nat) = 2 ^ 64 - 1 by decide, Nat.testBit_two_pow_sub_one]
        have : decide (n ≤ i) = false := decide_eq_false (by omega)
        rw [this]; simp [hi64]
      · rw [if_neg h, Nat.testBit_two_pow_sub_one]
        have : (!decide (i < n)) = decide (n ≤ i) := by rw [← decide_not]; apply decide_eq_decide.2; omega
        rw [this]; simp [hi64, Bool.and_comm]
    · have : lo.toNat.testBit i = false := Nat.testBit_lt_two_pow (Nat.lt_of_lt_of_le hL (Nat.pow_le_pow_right (by decide) (by omega)))
      rw [this]; simp [hi64]
end Go.Proofs.YtokeeimppbiokaaGreatDoor
