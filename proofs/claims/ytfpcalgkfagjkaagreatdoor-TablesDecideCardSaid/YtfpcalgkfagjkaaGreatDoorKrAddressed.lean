/- Package addr writes addresses: Text of the address 1 is as it must be. -/
import Derived.Test.YtfpcalgkfagjkaaGreatDoorKrWideB
import Derived.Deep.RegionHeld3
import Derived.Deep.DeepCutAuto
import Derived.Test.YtfpcalgkfagjkaaGreatDoorKrShelf
namespace Go.Proofs.YtfpcalgkfagjkaaGreatDoor
open Go.RowKit

set_option maxHeartbeats 400000 in
theorem checkAddr_any (s : Bool) (hi lo : Int) (w : World) :
    Calls Tryz.prog 27 #[.agg #[.bool s, .int .u64 hi, .int .u64 lo]] w (GivesV (.int .i64 (adF s hi lo)) w) := by
  cases s
  · by_cases h : hi = 0
    · have b0 : (hi != 0) = false := by simp [h]
      by_cases h' : 4294967296 ≤ lo
      · have H := Lib.hid (show adF false hi lo = 3 from if_pos ⟨rfl, .inr (by omega)⟩)
        clear h
        go_enter Tryz.func27, Tryz.ntmps27
        go_wp2_with fail
        go_ret
        exact ⟨by rw [H.out]; rfl, (Below.refl _ _).alloc (Nat.le_refl _) _⟩
      · have H := Lib.hid (show adF false hi lo = 0 from if_neg (by omega))
        clear h
        go_enter Tryz.func27, Tryz.ntmps27
        go_wp2_with fail
        go_ret
        exact ⟨by rw [H.out]; rfl, (Below.refl _ _).alloc (Nat.le_refl _) _⟩
    · have b0 : (hi != 0) = true := by simp [h]
      have H := Lib.hid (show adF false hi lo = 3 from if_pos ⟨rfl, .inl (by omega)⟩)
      clear h
      go_enter Tryz.func27, Tryz.ntmps27
      go_wp2_with fail
      go_ret
      exact ⟨by rw [H.out]; rfl, (Below.refl _ _).alloc (Nat.le_refl _) _⟩
  · go_enter Tryz.func27, Tryz.ntmps27
    go_wp2_with fail
    go_ret
    exact ⟨rfl, (Below.refl _ _).alloc (Nat.le_refl _) _⟩

set_option maxHeartbeats 400000 in
theorem spanLength_any (s : Bool) (w : World) :
    Calls Tryz.prog 92 #[.bool s] w fun e w' => e = .returned (.int .i64 (lenZ s)) ∧ w = w' := by
  cases s
  all_goals
    go_enter Tryz.func92, Tryz.ntmps92
    go_wp2_with fail
    go_ret
    exact ⟨rfl, rfl⟩

def onesH (n : Nat) : Nat := if 64 < n then 2 ^ (n - 64) - 1 else 0
def onesL (n : Nat) : Nat := if 64 < n then 18446744073709551615 else 2 ^ n - 1

theorem wrap_pow (n : Nat) (h : n ≤ 64) : IntKind.u64.wrap (IntKind.u64.wrap (2 ^ n) - 1) = ((2 ^ n - 1 : Nat) : Int) := by
  rw [IntKind.wrap_u64, IntKind.wrap_u64]
  have hp : (1 : Nat) ≤ 2 ^ n := Nat.one_le_two_pow
  have hc : ((2 : Int) ^ n) = ((2 ^ n : Nat) : Int) := by simp
  by_cases h' : n = 64
  · subst h'; decide
  · have hq : (2 : Nat) ^ n ≤ 2 ^ 63 := Nat.pow_le_pow_right (by decide) (by omega)
    rw [hc]
    have e : ((2 ^ n - 1 : Nat) : Int) = ((2 ^ n : Nat) : Int) - 1 := by omega
    rw [e]
    omega

theorem tuple_eq {a b c d : Int} (h1 : a = b) (h2 : c = d) : Ending.returned (.tuple #[.int .u64 a, .int .u64 c]) = Ending.returned (.tuple #[.int .u64 b, .int .u64 d]) := by rw [h1, h2]

set_option maxHeartbeats 400000 in
theorem ones_any (n : Nat) (hn : n ≤ 128) (w : World) :
    Calls Tryz.prog 91 #[.int .i64 (n : Int)] w fun e w' => e = .returned (.tuple #[.int .u64 (onesH n : Int), .int .u64 (onesL n : Int)]) ∧ ∃ m, w' = w.drewN m := by
  by_cases h : 64 < n
  · have H := Lib.hid (tuple_eq (show IntKind.u64.wrap (IntKind.u64.wrap (2 ^ (n - 64)) - 1) = (onesH n : Int) by rw [wrap_pow _ (by omega)]; unfold onesH; rw [if_pos h]) (show (18446744073709551615 : Int) = (onesL n : Int) by unfold onesL; rw [if_pos h]; rfl))
    go_enter Tryz.func91, Tryz.ntmps91
    go_wp2_with fail
    go_ret2
    exact ⟨H.out, 0, rfl⟩
  · have H := Lib.hid (tuple_eq (show (0 : Int) = (onesH n : Int) by unfold onesH; rw [if_neg h]; rfl) (show IntKind.u64.wrap (IntKind.u64.wrap (2 ^ n) - 1) = (onesL n : Int) by rw [wrap_pow _ (by omega)]; unfold onesL; rw [if_neg h]))
    go_enter Tryz.func91, Tryz.ntmps91
    go_wp2_with fail
    go_quiet (fail)
    go_wp2_with fail
    go_ret2
    exact ⟨H.out, _, rfl⟩

theorem clr_halves (hi lo : Int) (n : Nat) (hn : n ≤ 128) (h1 : 0 ≤ hi) (h2 : hi < 18446744073709551616) (h3 : 0 ≤ lo) (h4 : lo < 18446744073709551616) :
    bits .andNot .u64 hi (onesH n : Int) = ((clr (num hi lo) n / 2 ^ 64 : Nat) : Int) ∧ bits .andNot .u64 lo (onesL n : Int) = ((clr (num hi lo) n % 2 ^ 64 : Nat) : Int) := by
  have lH : onesH n < 18446744073709551616 := by
    unfold onesH; split
    · have : (2 : Nat) ^ (n - 64) ≤ 2 ^ 64 := Nat.pow_le_pow_right (by decide) (by omega)
      have := Nat.two_pow_pos (n - 64); omega
    · omega
  have lL : onesL n < 18446744073709551616 := by
    unfold onesL; split
    · omega
    · have : (2 : Nat) ^ n ≤ 2 ^ 64 := Nat.pow_le_pow_right (by decide) (by omega)
      have := Nat.two_pow_pos n; omega
  rw [u64_andNot hi _ h1 h2 (by omega) (by omega), u64_andNot lo _ h3 h4 (by omega) (by omega)]
  simp only [Int.toNat_natCast]
  have hH : hi.toNat < 2 ^ 64 := by omega
  have hL : lo.toNat < 2 ^ 64 := by omega
  have eH := num_div hi lo h4
  have eL := num_mod hi lo h4
  refine ⟨congrArg Int.ofNat ?_, congrArg Int.ofNat ?_⟩
  · apply Nat.eq_of_testBit_eq; intro i
    rw [Nat.testBit_and, show 18446744073709551615 - onesH n = 2 ^ 64 - (onesH n + 1) by omega, Nat.testBit_two_pow_sub_succ lH, Nat.testBit_div_two_pow, testBit_clr]
    have hb : hi.toNat.testBit i = (num hi lo).testBit (i + 64) := by rw [← eH, Nat.testBit_div_two_pow]
    rw [hb]
    by_cases hi64 : i < 64
    · unfold onesH
      by_cases h : 64 < n
      · rw [if_pos h, Nat.testBit_two_pow_sub_one]
        have : (!decide (i < n - 64)) = decide (n ≤ i + 64) := by rw [← decide_not]; apply decide_eq_decide.2; omega
        rw [this]; simp [hi64, Bool.and_comm]
      · rw [if_neg h]
        have : decide (n ≤ i + 64) = true := decide_eq_true (by omega)
        rw [this]; simp [hi64]
    · have : (num hi lo).testBit (i + 64) = false := by
        rw [← hb]; exact Nat.testBit_lt_two_pow (Nat.lt_of_lt_of_le hH (Nat.pow_le_pow_right (by decide) (by omega)))
      rw [this]; simp
  · apply Nat.eq_of_testBit_eq; intro i
    rw [Nat.testBit_and, show 18446744073709551615 - onesL n = 2 ^ 64 - (onesL n + 1) by omega, Nat.testBit_two_pow_sub_succ lL, Nat.testBit_mod_two_pow, testBit_clr]
    by_cases hi64 : i < 64
    · have hb : lo.toNat.testBit i = (num hi lo).testBit i := by rw [← eL, Nat.testBit_mod_two_pow]; simp [hi64]
      rw [hb]
      unfold onesL
      by_cases h : 64 < n
      · rw [if_pos h, show (18446744073709551615 : Nat) = 2 ^ 64 - 1 by decide, Nat.testBit_two_pow_sub_one]
        have : decide (n ≤ i) = false := decide_eq_false (by omega)
        rw [this]; simp [hi64]
      · rw [if_neg h, Nat.testBit_two_pow_sub_one]
        have : (!decide (i < n)) = decide (n ≤ i) := by rw [← decide_not]; apply decide_eq_decide.2; omega
        rw [this]; simp [hi64, Bool.and_comm]
    · have : lo.toNat.testBit i = false := Nat.testBit_lt_two_pow (Nat.lt_of_lt_of_le hL (Nat.pow_le_pow_right (by decide) (by omega)))
      rw [this]; simp [hi64]

set_option maxHeartbeats 400000 in
theorem formatUint_in (i : Nat) (h : i < 100) (w : World) :
    Calls Tryz.prog 133 #[.int .u64 (i : Int), .int .i64 10] w fun e w' => e = .returned (.string ⟨(Lib.decDigits i).toArray⟩) ∧ w = w' := by
  have h1 : (i : Int) < 100 := by omega
  have HS := fun w' => Lib.hid (Tryz.internal_strconv_small i h w')
  go_enter Tryz.func133, Tryz.ntmps133
  go_wp2_with fail
  refine (HS _).out.mono ?_
  rintro e w' ⟨rfl, rfl⟩
  go_wp2_with fail
  go_ret
  exact ⟨rfl, rfl⟩

set_option maxHeartbeats 400000 in
theorem formatUint_small (i : Nat) (h : i < 100) (w : World) :
    Calls Tryz.prog 108 #[.int .u64 (i : Int), .int .i64 10] w fun e w' => e = .returned (.string ⟨(Lib.decDigits i).toArray⟩) ∧ w = w' := by
  go_enter Tryz.func108, Tryz.ntmps108
  go_wp2_with fail
  refine (formatUint_in i h _).mono ?_
  rintro e w' ⟨rfl, rfl⟩
  go_wp2_with fail
  go_ret
  exact ⟨rfl, rfl⟩

theorem fmt_zero (w : World) : Calls Tryz.prog 108 #[.int .u64 0, .int .i64 10] w fun e w' => e = .returned (.string ⟨#[48]⟩) ∧ w = w' := by
  have := formatUint_small 0 (by decide) w
  rwa [show Lib.decDigits 0 = [48] from by decide +kernel] at this
theorem fmt_one (w : World) : Calls Tryz.prog 108 #[.int .u64 1, .int .i64 10] w fun e w' => e = .returned (.string ⟨#[49]⟩) ∧ w = w' := by
  have := formatUint_small 1 (by decide) w
  rwa [show Lib.decDigits 1 = [49] from by decide +kernel] at this

theorem info_str : (Tryz.prog.info? 9).map (fun i => (i.zero, i.size, i.bytes)) = some (some (.string ⟨#[]⟩), 1, 16) := by kernel_rfl

set_option maxHeartbeats 1000000 in
theorem textOfBytes_one (w : World) :
    Calls Tryz.prog 83 #[.int .u64 1] w (GivesV (.string ⟨#[48, 46, 48, 46, 48, 46, 49]⟩) w) := by
  have e0 : bits BinOp.and IntKind.u64 0 255 = 0 := by decide
  have e1 : bits BinOp.and IntKind.u64 1 255 = 1 := by decide
  obtain ⟨i0, hi, hz0, hz1, hz2⟩ := info_parts info_str
  go_enter Tryz.func83, Tryz.ntmps83
  go_wp2_with fail
  refine wp_loop_rounds 5 ?_
  rw [rounds_succ]
  go_wp2_with fail
  have hown0 := World.ownsRow_nil w w.heap.size 9 1
  refine (fmt_zero _).mono ?_
  rintro e w' ⟨rfl, rfl⟩
  go_wp2_with (at_builtin; refine wpList_append_own _ rfl _ _ 59 rfl w.heap.size 9 i0 (.string ⟨#[]⟩) 1 16 Tryz.underlying59 hi hz0 hz1 hz2 rfl (by decide) _ _ _ rfl (hown0.alloc _) ⟨w.heap.size, 0, none⟩ 1 1 [.string ⟨#[48]⟩] rfl rfl ?c1 ?c2 ?c3 ?c4 ?c5 ?_)
  case c1 => exact (cell_one_new _ _ _)
  case c2 => simp; rfl
  case c3 => unfold maxLen; omega
  case c4 => omega
  case c5 => simp
  intro v1 w1 hown1 hg1 _
  have hb1 : Below w.heap.size w w1 := ((Below.refl _ _).alloc (Nat.le_refl _) _).grown hg1 (by simp) (by intro k h; cases h)
  have hs1 := hb1.size
  clear hg1
  go_wp2_with fail
  rw [rounds_succ]
  go_wp2_with fail
  refine (fmt_zero _).mono ?_
  rintro e w' ⟨rfl, rfl⟩
  go_wp2_with (at_builtin; refine wpList_append_own _ rfl _ _ 59 rfl w.heap.size 9 i0 (.string ⟨#[]⟩) 1 16 Tryz.underlying59 hi hz0 hz1 hz2 rfl (by decide) _ _ _ rfl (hown1.alloc _) ⟨w1.heap.size, 0, none⟩ 1 1 [.string ⟨#[48]⟩] rfl rfl ?c1 ?c2 ?c3 ?c4 ?c5 ?_)
  case c1 => exact (cell_one_new _ _ _)
  case c2 => simp; rfl
  case c3 => unfold maxLen; omega
  case c4 => omega
  case c5 => simp; omega
  intro v2 w2 hown2 hg2 _
  have hb2 : Below w.heap.size w w2 := (hb1.alloc hs1 _).grown hg2 (by simp; omega) (fun k h => (hown1.lt k h).1)
  have hs2 := hb2.size
  clear hg2
  go_wp2_with fail
  rw [rounds_succ]
  go_wp2_with fail
  refine (fmt_zero _).mono ?_
  rintro e w' ⟨rfl, rfl⟩
  go_wp2_with (at_builtin; refine wpList_append_own _ rfl _ _ 59 rfl w.heap.size 9 i0 (.string ⟨#[]⟩) 1 16 Tryz.underlying59 hi hz0 hz1 hz2 rfl (by decide) _ _ _ rfl (hown2.alloc _) ⟨w2.heap.size, 0, none⟩ 1 1 [.string ⟨#[48]⟩] rfl rfl ?c1 ?c2 ?c3 ?c4 ?c5 ?_)
  case c1 => exact (cell_one_new _ _ _)
  case c2 => simp; rfl
  case c3 => unfold maxLen; omega
  case c4 => omega
  case c5 => simp; omega
  intro v3 w3 hown3 hg3 _
  have hb3 : Below w.heap.size w w3 := (hb2.alloc hs2 _).grown hg3 (by simp; omega) (fun k h => (hown2.lt k h).1)
  have hs3 := hb3.size
  clear hg3
  go_wp2_with fail
  rw [rounds_succ]
  go_wp2_with fail
  refine (fmt_one _).mono ?_
  rintro e w' ⟨rfl, rfl⟩
  go_wp2_with (at_builtin; refine wpList_append_own _ rfl _ _ 59 rfl w.heap.size 9 i0 (.string ⟨#[]⟩) 1 16 Tryz.underlying59 hi hz0 hz1 hz2 rfl (by decide) _ _ _ rfl (hown3.alloc _) ⟨w3.heap.size, 0, none⟩ 1 1 [.string ⟨#[49]⟩] rfl rfl ?c1 ?c2 ?c3 ?c4 ?c5 ?_)
  case c1 => exact (cell_one_new _ _ _)
  case c2 => simp; rfl
  case c3 => unfold maxLen; omega
  case c4 => omega
  case c5 => simp; omega
  intro v4 w4 hown4 hg4 _
  have hb4 : Below w.heap.size w w4 := (hb3.alloc hs3 _).grown hg4 (by simp; omega) (fun k h => (hown3.lt k h).1)
  have hs4 := hb4.size
  clear hg4
  go_wp2_with fail
  rw [rounds_succ]
  go_wp2_with fail
  obtain ⟨g, cap, hv, hgb, hcap, hcell⟩ : ∃ g cap, v4 = .slice (some ⟨g, 0, none⟩) 4 cap ∧ g < w4.heap.size ∧ 4 ≤ cap ∧ ∀ j u, [Value.string ⟨#[48]⟩, .string ⟨#[48]⟩, .string ⟨#[48]⟩, .string ⟨#[49]⟩][j]? = some u → w4.cell? ⟨g, j, none⟩ = some u := by
    rcases hown4.2 with ⟨_, h0⟩ | ⟨g, cap, cur, hv, _, hg, hle, _, _, _⟩
    · omega
    · refine ⟨g, cap, hv, (Array.getElem?_eq_some_iff.1 hg).1, hle, fun j u hu => ?_⟩
      have := hown4.cells (g := g) (by rw [hv]; rfl) j u hu
      by_cases hj : j = 0
      · subst hj; simpa [Addr.add] using this
      · simpa [Addr.add, hj] using this
  have HJ := Tryz.strings_Join g 0 cap [⟨#[48]⟩, ⟨#[48]⟩, ⟨#[48]⟩, ⟨#[49]⟩] ⟨#[46]⟩ w4 (fun j x hx => by
    rw [Nat.zero_add]
    apply hcell
    match j, hx with
    | 0, hx => simp at hx; subst hx; rfl
    | 1, hx => simp at hx; subst hx; rfl
    | 2, hx => simp at hx; subst hx; rfl
    | 3, hx => simp at hx; subst hx; rfl) hgb (by simp) (by simpa using hcap) (by decide +kernel)
  rw [show Lib.join (([⟨#[48]⟩, ⟨#[48]⟩, ⟨#[48]⟩, ⟨#[49]⟩] : List ByteArray).map (·.data.toList)) (⟨#[46]⟩ : ByteArray).data.toList = [48, 46, 48, 46, 48, 46, 49] from by decide +kernel] at HJ
  rw [hv]
  clear hown0 hown1 hown2 hown3 hown4 hcell hv
  refine HJ.mono ?_
  rintro e w5 ⟨rfl, hb5⟩
  go_wp2_with fail
  go_ret
  exact ⟨rfl, hb4.trans (hb5.mono hs4)⟩

set_option maxHeartbeats 400000 in
theorem text_one (w : World) :
    Calls Tryz.prog 51 #[.agg #[.bool false, .int .u64 0, .int .u64 1]] w (GivesV (.tuple #[.string ⟨#[48, 46, 48, 46, 48, 46, 49]⟩, .int .i64 0]) w) := by
  have hA := Blk.new w [.bool false, .int .u64 0, .int .u64 1] 30
  have HC := fun w' => Lib.hid (checkAddr_any false 0 1 w')
  rw [show adF false 0 1 = 0 from rfl] at HC
  go_enter Tryz.func51, Tryz.ntmps51
  go_wp2_with fail
  refine (HC _).out.mono ?_
  rintro e w1 ⟨rfl, hb1⟩
  obtain ⟨a0, a1, a2, _⟩ := (hA.below hb1).three
  have hC1 : Below w.heap.size w w1 := ((Below.refl _ _).alloc (Nat.le_refl _) _).trans (hb1.mono (by simp))
  clear hb1 hA
  go_wp2_with fail
  refine (textOfBytes_one _).mono ?_
  rintro e w2 ⟨rfl, hb2⟩
  go_wp2_with fail
  go_ret2
  exact ⟨rfl, hC1.trans (hb2.mono hC1.size)⟩

set_option maxHeartbeats 400000 in
theorem addressed_any (w : World) : Calls Tryz.prog 21 #[] w (GivesV (.bool true) w) := by
  go_enter Tryz.func21, Tryz.ntmps21
  go_wp2_with fail
  refine (text_one _).mono ?_
  rintro e w1 ⟨rfl, hb1⟩
  go_wp2_with fail
  go_ret
  exact ⟨rfl, hb1⟩
end Go.Proofs.YtfpcalgkfagjkaaGreatDoor
