/- Package addr writes addresses: Text of the address 1 is as it must be. -/
import Derived.Test.YtfiocnjogbpgoaaGreatDoorKkLaneC
import Derived.Test.YtfiocnjogbpgoaaGreatDoorKkPfxM
import Derived.ChangeAlike
import Derived.Deep.RegionHeld3
import Derived.Deep.DeepCutAuto
import Derived.Test.YtfiocnjogbpgoaaGreatDoorKkShelf
namespace Go.Proofs.YtfiocnjogbpgoaaGreatDoor
open Go.RowKit

/-- A wide number as a value. -/
abbrev wV (V : Nat) (s : Bool) : Value := .agg #[.int .i64 (dig V 0), .int .i64 (dig V 1), .int .i64 (dig V 2), .int .i64 (dig V 3), .int .i64 (dig V 4), .int .i64 (dig V 5), .int .i64 (dig V 6), .int .i64 (dig V 7), .int .i64 (b2i s)]

theorem and16 (x : Int) (h1 : 0 ≤ x) (h2 : x < 18446744073709551616) : wrap64 (bits .and .u64 x 65535) = ((x.toNat % 2 ^ 16 : Nat) : Int) := by
  rw [u64_and x 65535 h1 h2 (by decide) (by decide)]
  have : x.toNat &&& (65535 : Int).toNat = x.toNat % 2 ^ 16 := Nat.and_two_pow_sub_one_eq_mod x.toNat 16
  rw [this, IntWalk.wrap64_in]
  have := Nat.mod_lt x.toNat (show 0 < 2 ^ 16 by decide)
  omega

theorem dig_of_lo (hi lo : Int) (h3 : 0 ≤ lo) (h4 : lo < 18446744073709551616) (j : Nat) (hj : j < 4) (d : Int) (hd : d = 2 ^ (16 * j)) : wrap64 (bits .and .u64 (lo / d) 65535) = (dig (num hi lo) j : Int) := by
  subst hd
  have hp : (0 : Int) < 2 ^ (16 * j) := Int.pow_pos (by decide)
  have h0 : 0 ≤ lo / 2 ^ (16 * j) := Int.ediv_nonneg h3 (Int.le_of_lt hp)
  have h1 : lo / 2 ^ (16 * j) ≤ lo := Int.ediv_le_self _ h3
  rw [and16 _ h0 (by omega), dig_low hi lo h4 j hj]
  obtain ⟨L, rfl⟩ := Int.eq_ofNat_of_zero_le h3
  have : ((L : Int) / 2 ^ (16 * j)).toNat = L / 2 ^ (16 * j) := by
    rw [show ((2 : Int) ^ (16 * j)) = ((2 ^ (16 * j) : Nat) : Int) by simp, ← Int.natCast_ediv, Int.toNat_natCast]
  rw [this, Int.toNat_natCast]

theorem dig_of_hi (hi lo : Int) (h1 : 0 ≤ hi) (h2 : hi < 18446744073709551616) (h4 : lo < 18446744073709551616) (j : Nat) (d : Int) (hd : d = 2 ^ (16 * j)) : wrap64 (bits .and .u64 (hi / d) 65535) = (dig (num hi lo) (4 + j) : Int) := by
  subst hd
  have hp : (0 : Int) < 2 ^ (16 * j) := Int.pow_pos (by decide)
  have h0 : 0 ≤ hi / 2 ^ (16 * j) := Int.ediv_nonneg h1 (Int.le_of_lt hp)
  have h3 : hi / 2 ^ (16 * j) ≤ hi := Int.ediv_le_self _ h1
  rw [and16 _ h0 (by omega), dig_high hi lo h4 j]
  obtain ⟨L, rfl⟩ := Int.eq_ofNat_of_zero_le h1
  have : ((L : Int) / 2 ^ (16 * j)).toNat = L / 2 ^ (16 * j) := by
    rw [show ((2 : Int) ^ (16 * j)) = ((2 ^ (16 * j) : Nat) : Int) by simp, ← Int.natCast_ediv, Int.toNat_natCast]
  rw [this, Int.toNat_natCast]

/-- A value is returned; what was there is as it was. -/
def GivesV (v : Value) (w : World) (e : Ending) (w' : World) : Prop := e = .returned v ∧ Below w.heap.size w w'

theorem of_eq (hi lo : Int) (h1 : 0 ≤ hi) (h2 : hi < 18446744073709551616) (h3 : 0 ≤ lo) (h4 : lo < 18446744073709551616) (s : Bool) (z : Int) (hz : z = b2i s) :
    Value.agg #[.int .i64 (wrap64 (bits .and .u64 lo 65535)), .int .i64 (wrap64 (bits .and .u64 (lo / 65536) 65535)), .int .i64 (wrap64 (bits .and .u64 (lo / 4294967296) 65535)), .int .i64 (wrap64 (bits .and .u64 (lo / 281474976710656) 65535)),
      .int .i64 (wrap64 (bits .and .u64 hi 65535)), .int .i64 (wrap64 (bits .and .u64 (hi / 65536) 65535)), .int .i64 (wrap64 (bits .and .u64 (hi / 4294967296) 65535)), .int .i64 (wrap64 (bits .and .u64 (hi / 281474976710656) 65535)), .int .i64 z] = wV (num hi lo) s := by
  have a0 := dig_of_lo hi lo h3 h4 0 (by decide) 1 (by decide)
  have a1 := dig_of_lo hi lo h3 h4 1 (by decide) 65536 (by decide)
  have a2 := dig_of_lo hi lo h3 h4 2 (by decide) 4294967296 (by decide)
  have a3 := dig_of_lo hi lo h3 h4 3 (by decide) 281474976710656 (by decide)
  have b0 := dig_of_hi hi lo h1 h2 h4 0 1 (by decide)
  have b1 := dig_of_hi hi lo h1 h2 h4 1 65536 (by decide)
  have b2 := dig_of_hi hi lo h1 h2 h4 2 4294967296 (by decide)
  have b3 := dig_of_hi hi lo h1 h2 h4 3 281474976710656 (by decide)
  rw [Int.ediv_one] at a0 b0
  rw [a0, a1, a2, a3, b0, b1, b2, b3, hz]

end Go.Proofs.YtfiocnjogbpgoaaGreatDoor
namespace Go.Proofs.YtfiocnjogbpgoaaGreatDoor
open Go.RowKit

/-- How many bits an address has. -/
def lenZ (s : Bool) : Int := if s then 128 else 32
/-- CheckAddr's error: 3 or 0. -/
def adF (s : Bool) (hi lo : Int) : Int := if s = false ∧ (hi ≠ 0 ∨ 4294967296 ≤ lo) then 3 else 0

theorem adF_two (s : Bool) (hi lo : Int) : adF s hi lo = 0 ∨ adF s hi lo = 3 := by unfold adF; split <;> simp

end Go.Proofs.YtfiocnjogbpgoaaGreatDoor
namespace Go.Proofs.YtfiocnjogbpgoaaGreatDoor
open Go.RowKit

/-- The prefix that MaskOf gives: the low bits are cleared. -/
abbrev maskV (s : Bool) (hi lo n : Int) : Value := .agg #[.bool s, .int .u64 ((clr (num hi lo) (lenZ s - n).toNat / 2 ^ 64 : Nat) : Int), .int .u64 ((clr (num hi lo) (lenZ s - n).toNat % 2 ^ 64 : Nat) : Int), .int .i64 n]

end Go.Proofs.YtfiocnjogbpgoaaGreatDoor
namespace Go.Proofs.YtfiocnjogbpgoaaGreatDoor
open Go.RowKit

/-- Two wide numbers are equal. -/
def wideEq (A B : Nat) (s t : Bool) : Bool := dig A 0 == dig B 0 && (dig A 1 == dig B 1 && (dig A 2 == dig B 2 && (dig A 3 == dig B 3 && (dig A 4 == dig B 4 && (dig A 5 == dig B 5 && (dig A 6 == dig B 6 && (dig A 7 == dig B 7 && b2i s == b2i t)))))))

set_option maxHeartbeats 1000000 in
@[go_sem] theorem wide_equalIn (A B : Nat) (s t : Bool) (w : World) : (Op.equalIn 10000 129 (wV A s) (wV B t)).run Tryz.prog w = .ok (wideEq A B s t) w := by
  have u3 := Tryz.underlying3
  have a3 := Tryz.isAgg3
  have z3 := Tryz.sizeOf3
  have ei : ∀ a b : Nat, ((a : Int) = (b : Int)) = (a = b) := fun a b => propext Int.ofNat_inj
  rw [show (10000 : Nat) = 9999 + 1 from rfl, Op.equalIn]
  simp only [Sem.run_bind, run_underlying Tryz.underlying129, Result.andThen_ok]
  simp only [Std.Legacy.Range.forIn_eq_forIn_range', Std.Legacy.Range.size, Nat.sub_zero, Nat.add_sub_cancel, Nat.div_one, List.range'_succ, List.range'_zero, List.forIn_cons, List.forIn_nil]
  go_simp
  unfold wideEq
  (repeat' split) <;> simp_all

/-- The test '!=' of two wide numbers, as one step. -/
def neqW (x y : Operand) (a b : Value) : Sem Next := do
  let v ← (do eqGuard .neq 129 x y a b; binOp .neq 129 a b)
  pure (.value v)
@[go_sem ↓ high] theorem execOp_neqW (ρ : Operand → Value) (dst : Option Tmp) (x y : Operand) (r ty : TypeId) (pos : String) (after : Array Edge) (guard : Option (Nat × Bool)) :
    execOp ρ ⟨dst, .binOp .neq 129 x y r, ty, pos, after, guard⟩ = neqW x y (ρ x) (ρ y) := rfl
@[go_sem high] theorem execOp_neqW' (ρ : Operand → Value) (dst : Option Tmp) (x y : Operand) (r ty : TypeId) (pos : String) (after : Array Edge) (guard : Option (Nat × Bool)) :
    execOp ρ ⟨dst, .binOp .neq 129 x y r, ty, pos, after, guard⟩ = neqW x y (ρ x) (ρ y) := rfl
@[go_sem] theorem run_neqW (x y : Operand) (A B : Nat) (s t : Bool) (w : World) : (neqW x y (wV A s) (wV B t)).run Tryz.prog w = .ok (.value (.bool (!wideEq A B s t))) w := by
  unfold neqW
  go_simp

end Go.Proofs.YtfiocnjogbpgoaaGreatDoor
namespace Go.Proofs.YtfiocnjogbpgoaaGreatDoor
open Go.RowKit

set_option maxHeartbeats 400000 in
theorem checkAddr_any (s : Bool) (hi lo : Int) (w : World) :
    Calls Tryz.prog 29 #[.agg #[.bool s, .int .u64 hi, .int .u64 lo]] w (GivesV (.int .i64 (adF s hi lo)) w) := by
  cases s
  · by_cases h : hi = 0
    · have b0 : (hi != 0) = false := by simp [h]
      by_cases h' : 4294967296 ≤ lo
      · have H := Lib.hid (show adF false hi lo = 3 from if_pos ⟨rfl, .inr (by omega)⟩)
        clear h
        go_enter Tryz.func29, Tryz.ntmps29
        go_wp2_with fail
        go_ret
        exact ⟨by rw [H.out]; rfl, (Below.refl _ _).alloc (Nat.le_refl _) _⟩
      · have H := Lib.hid (show adF false hi lo = 0 from if_neg (by omega))
        clear h
        go_enter Tryz.func29, Tryz.ntmps29
        go_wp2_with fail
        go_ret
        exact ⟨by rw [H.out]; rfl, (Below.refl _ _).alloc (Nat.le_refl _) _⟩
    · have b0 : (hi != 0) = true := by simp [h]
      have H := Lib.hid (show adF false hi lo = 3 from if_pos ⟨rfl, .inl (by omega)⟩)
      clear h
      go_enter Tryz.func29, Tryz.ntmps29
      go_wp2_with fail
      go_ret
      exact ⟨by rw [H.out]; rfl, (Below.refl _ _).alloc (Nat.le_refl _) _⟩
  · go_enter Tryz.func29, Tryz.ntmps29
    go_wp2_with fail
    go_ret
    exact ⟨rfl, (Below.refl _ _).alloc (Nat.le_refl _) _⟩

set_option maxHeartbeats 400000 in
theorem spanLength_any (s : Bool) (w : World) :
    Calls Tryz.prog 115 #[.bool s] w fun e w' => e = .returned (.int .i64 (lenZ s)) ∧ w = w' := by
  cases s
  all_goals
    go_enter Tryz.func115, Tryz.ntmps115
    go_wp2_with fail
    go_ret
    exact ⟨rfl, rfl⟩

/-- The two halves of the number whose lowest n bits are 1. -/
def onesH (n : Nat) : Nat := if 64 < n then 2 ^ (n - 64) - 1 else 0
def onesL (n : Nat) : Nat := if 64 < n then 18446744073709551615 else 2 ^ n - 1

theorem wrap_pow (n : Nat) (h : n ≤ 64) : IntKind.u64.wrap (IntKind.u64.wrap (2 ^ n) - 1) = ((2 ^ n - 1 : Nat) : Int) := by
  rw [IntKind.wrap_u64, IntKind.wrap_u64]
  have hp : (1 : Nat) ≤ 2 ^ n := Nat.one_le_two_pow
  have hc : ((2 : Int) ^ n) = ((2 ^ n : Nat) : Int) := by simp
  by_cases h' : n = 64
  · subst h'; decide
  · have hq : (2 : Nat) ^ n ≤ 2 ^ 63 := Nat.pow_le_pow_right (by decide) (by omega)
    rw [hc]
    have e : ((2 ^ n - 1 : Nat) : Int) = ((2 ^ n : Nat) : Int) - 1 := by omega
    rw [e]
    omega

theorem tuple_eq {a b c d : Int} (h1 : a = b) (h2 : c = d) : Ending.returned (.tuple #[.int .u64 a, .int .u64 c]) = Ending.returned (.tuple #[.int .u64 b, .int .u64 d]) := by rw [h1, h2]

set_option maxHeartbeats 400000 in
theorem ones_any (n : Nat) (hn : n ≤ 128) (w : World) :
    Calls Tryz.prog 175 #[.int .i64 (n : Int)] w fun e w' => e = .returned (.tuple #[.int .u64 (onesH n : Int), .int .u64 (onesL n : Int)]) ∧ ∃ m, w' = w.drewN m := by
  by_cases h : 64 < n
  · have H := Lib.hid (tuple_eq (show IntKind.u64.wrap (IntKind.u64.wrap (2 ^ (n - 64)) - 1) = (onesH n : Int) by rw [wrap_pow _ (by omega)]; unfold onesH; rw [if_pos h]) (show (18446744073709551615 : Int) = (onesL n : Int) by unfold onesL; rw [if_pos h]; rfl))
    go_enter Tryz.func175, Tryz.ntmps175
    go_wp2_with fail
    go_ret2
    exact ⟨H.out, 0, rfl⟩
  · have H := Lib.hid (tuple_eq (show (0 : Int) = (onesH n : Int) by unfold onesH; rw [if_neg h]; rfl) (show IntKind.u64.wrap (IntKind.u64.wrap (2 ^ n) - 1) = (onesL n : Int) by rw [wrap_pow _ (by omega)]; unfold onesL; rw [if_neg h]))
    go_enter Tryz.func175, Tryz.ntmps175
    go_wp2_with fail
    go_quiet (fail)
    go_wp2_with fail
    go_ret2
    exact ⟨H.out, _, rfl⟩

/-- A number without its low bits, half by half. -/
theorem clr_halves (hi lo : Int) (n : Nat) (hn : n ≤ 128) (h1 : 0 ≤ hi) (h2 : hi < 18446744073709551616) (h3 : 0 ≤ lo) (h4 : lo < 18446744073709551616) :
    bits .andNot .u64 hi (onesH n : Int) = ((clr (num hi lo) n / 2 ^ 64 : Nat) : Int) ∧ bits .andNot .u64 lo (onesL n : Int) = ((clr (num hi lo) n % 2 ^ 64 : Nat) : Int) := by
  have lH : onesH n < 18446744073709551616 := by
    unfold onesH; split
    · have : (2 : Nat) ^ (n - 64) ≤ 2 ^ 64 := Nat.pow_le_pow_right (by decide) (by omega)
      have := Nat.two_pow_pos (n - 64); omega
    · omega
  have lL : onesL n < 18446744073709551616 := by
    unfold onesL; split
    · omega
    · have : (2 : Nat) ^ n ≤ 2 ^ 64 := Nat.pow_le_pow_right (by decide) (by omega)
      have := Nat.two_pow_pos n; omega
  rw [u64_andNot hi _ h1 h2 (by omega) (by omega), u64_andNot lo _ h3 h4 (by omega) (by omega)]
  simp only [Int.toNat_natCast]
  have hH : hi.toNat < 2 ^ 64 := by omega
  have hL : lo.toNat < 2 ^ 64 := by omega
  have eH := num_div hi lo h4
  have eL := num_mod hi lo h4
  refine ⟨congrArg Int.ofNat ?_, congrArg Int.ofNat ?_⟩
  · apply Nat.eq_of_testBit_eq; intro i
    rw [Nat.testBit_and, show 18446744073709551615 - onesH n = 2 ^ 64 - (onesH n + 1) by omega, Nat.testBit_two_pow_sub_succ lH, Nat.testBit_div_two_pow, testBit_clr]
    have hb : hi.toNat.testBit i = (num hi lo).testBit (i + 64) := by rw [← eH, Nat.testBit_div_two_pow]
    rw [hb]
    by_cases hi64 : i < 64
    · unfold onesH
      by_cases h : 64 < n
      · rw [if_pos h, Nat.testBit_two_pow_sub_one]
        have : (!decide (i < n - 64)) = decide (n ≤ i + 64) := by rw [← decide_not]; apply decide_eq_decide.2; omega
        rw [this]; simp [hi64, Bool.and_comm]
      · rw [if_neg h]
        have : decide (n ≤ i + 64) = true := decide_eq_true (by omega)
        rw [this]; simp [hi64]
    · have : (num hi lo).testBit (i + 64) = false := by
        rw [← hb]; exact Nat.testBit_lt_two_pow (Nat.lt_of_lt_of_le hH (Nat.pow_le_pow_right (by decide) (by omega)))
      rw [this]; simp
  · apply Nat.eq_of_testBit_eq; intro i
    rw [Nat.testBit_and, show 18446744073709551615 - onesL n = 2 ^ 64 - (onesL n + 1) by omega, Nat.testBit_two_pow_sub_succ lL, Nat.testBit_mod_two_pow, testBit_clr]
    by_cases hi64 : i < 64
    · have hb : lo.toNat.testBit i = (num hi lo).testBit i := by rw [← eL, Nat.testBit_mod_two_pow]; simp [hi64]
      rw [hb]
      unfold onesL
      by_cases h : 64 < n
      · rw [if_pos h, show (18446744073709551615 : Nat) = 2 ^ 64 - 1 by decide, Nat.testBit_two_pow_sub_one]
        have : decide (n ≤ i) = false := decide_eq_false (by omega)
        rw [this]; simp [hi64]
      · rw [if_neg h, Nat.testBit_two_pow_sub_one]
        have : (!decide (i < n)) = decide (n ≤ i) := by rw [← decide_not]; apply decide_eq_decide.2; omega
        rw [this]; simp [hi64, Bool.and_comm]
    · have : lo.toNat.testBit i = false := Nat.testBit_lt_two_pow (Nat.lt_of_lt_of_le hL (Nat.pow_le_pow_right (by decide) (by omega)))
      rw [this]; simp [hi64]
end Go.Proofs.YtfiocnjogbpgoaaGreatDoor
namespace Go.Proofs.YtfiocnjogbpgoaaGreatDoor
open Go.RowKit

end Go.Proofs.YtfiocnjogbpgoaaGreatDoor
