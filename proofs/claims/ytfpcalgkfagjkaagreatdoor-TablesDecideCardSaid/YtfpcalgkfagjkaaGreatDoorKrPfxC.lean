/- Prefixes: inside, Inside, RangeOf, Last of the program. -/
import Derived.Test.YtfpcalgkfagjkaaGreatDoorKrGzA
import Derived.Test.YtfpcalgkfagjkaaGreatDoorKrPfxA
import Derived.Test.YtfpcalgkfagjkaaGreatDoorKrSiteB
set_option linter.unusedVariables false
set_option linter.unusedSimpArgs false
namespace Go.Proofs.YtfpcalgkfagjkaaGreatDoor
open Go.RowKit






theorem pfQ_mask (s : Bool) (hi lo n : Int) (V : Nat) (h1 : 0 ≤ hi) (h2 : hi < 18446744073709551616) (h3 : 0 ≤ lo) (h4 : lo < 18446744073709551616) :
    pfQ s s ((V / 2 ^ 64 : Nat) : Int) ((V % 2 ^ 64 : Nat) : Int) hi lo n n = decide (V = num hi lo) := by
  have e : V = num hi lo ↔ (((V / 2 ^ 64 : Nat) : Int) = hi ∧ ((V % 2 ^ 64 : Nat) : Int) = lo) := by
    unfold num
    constructor
    · intro h; subst h; constructor <;> omega
    · rintro ⟨a, b⟩; omega
  rw [Bool.eq_iff_iff]
  simp only [pfQ, beq_self_eq_true, Bool.true_and, Bool.and_true, Bool.and_eq_true, beq_iff_eq, decide_eq_true_eq]
  exact e.symm

set_option linter.unusedSimpArgs false in
theorem contains_any (s : Bool) (hi lo n : Int) (t : Bool) (h l : Int) (w : World) (h1 : 0 ≤ hi) (h2 : hi < 18446744073709551616) (h3 : 0 ≤ lo) (h4 : lo < 18446744073709551616)
    (k1 : 0 ≤ h) (k2 : h < 18446744073709551616) (k3 : 0 ≤ l) (k4 : l < 18446744073709551616) (hn1 : 0 ≤ n) (hn2 : n ≤ lenZ s) :
    Calls Tryz.prog 61 #[.agg #[.bool s, .int .u64 hi, .int .u64 lo, .int .i64 n], .agg #[.bool t, .int .u64 h, .int .u64 l]] w (GivesV (.bool (ctB s hi lo n t h l)) w) := by
  have HF : Hid (∀ u, ((w.alloc (.cells #[.bool s, .int .u64 hi, .int .u64 lo, .int .i64 n] 35)).alloc (.cells #[.bool t, .int .u64 h, .int .u64 l] 30)).grownBy u none → _) :=
    Lib.hid fun u hu => And.intro ((blk2 w [.bool s, .int .u64 hi, .int .u64 lo, .int .i64 n] [.bool t, .int .u64 h, .int .u64 l] _ _).1.gn hu).four ((blk2 w [.bool s, .int .u64 hi, .int .u64 lo, .int .i64 n] [.bool t, .int .u64 h, .int .u64 l] _ _).2.gn hu).three
  have hB := gb_refl ((w.alloc (.cells #[.bool s, .int .u64 hi, .int .u64 lo, .int .i64 n] 35)).alloc (.cells #[.bool t, .int .u64 h, .int .u64 l] 30)) none
  by_cases hst : s = t
  · subst hst
    obtain ⟨MH, hMH⟩ : ∃ x : Int, x = ((clr (num h l) (lenZ s - n).toNat / 2 ^ 64 : Nat) : Int) := ⟨_, rfl⟩
    obtain ⟨ML, hML⟩ : ∃ x : Int, x = ((clr (num h l) (lenZ s - n).toNat % 2 ^ 64 : Nat) : Int) := ⟨_, rfl⟩
    have HM : ∀ w', Hid (Calls Tryz.prog 87 #[.agg #[.bool s, .int .u64 h, .int .u64 l], .int .i64 n] w' (GivesV (.agg #[.bool s, .int .u64 MH, .int .u64 ML, .int .i64 n]) w')) := fun w' => by
      rw [hMH, hML]; exact spanMask_any s h l n w' k1 k2 k3 k4 hn1 hn2
    have HQ := pfQ_mask s hi lo n (clr (num h l) (lenZ s - n).toNat) h1 h2 h3 h4
    rw [← hMH, ← hML] at HQ
    replace HQ := Lib.hid HQ
    clear hMH hML
    have HR := Lib.hid (show ctB s hi lo n s h l = decide (clr (num h l) (lenZ s - n).toNat = num hi lo) by simp [ctB])
    clear hn1 hn2
    go_enter Tryz.func61, Tryz.ntmps61
    go_wp2_with fail
    refine ways_begin (none) (by kernel_rfl) ?_
    replace hB := gb_drew hB
    refine ways_take (i := 0) (d := some 5) (v := ?_) (by simp only [gzA, gzB, gzC] <;> rfl) (by rfl) (by kernel_rfl) (by kernel_rfl) (by kernel_rfl) (fun _ _ _ h => h) (by rfl) ?_ ?_; rotate_left; · (intro u hu; go_simp; try with_reducible rfl)
    try simp only [Act.put, gzD, gzE, gzF]
    refine ways_take (i := 1) (d := some 6) (v := ?_) (by simp only [gzA, gzB, gzC] <;> rfl) (by rfl) (by kernel_rfl) (by kernel_rfl) (by kernel_rfl) (fun _ _ _ h => h) (by rfl) ?_ ?_; rotate_left; · (intro u hu; go_simp; try with_reducible rfl)
    try simp only [Act.put, gzD, gzE, gzF]
    refine ways_take (i := 2) (d := some 7) (v := ?_) (by simp only [gzA, gzB, gzC] <;> rfl) (by rfl) (by kernel_rfl) (by kernel_rfl) (by kernel_rfl) (fun _ _ _ h => h) (by rfl) ?_ ?_; rotate_left; · (intro u hu; obtain ⟨⟨c0, c1, c2, c3, _⟩, ⟨d0, d1, d2, _⟩⟩ := HF.out u (gb_trans hB hu); go_simp; try with_reducible rfl)
    try simp only [Act.put, gzD, gzE, gzF]
    refine ways_take (i := 3) (d := some 8) (v := ?_) (by simp only [gzA, gzB, gzC] <;> rfl) (by rfl) (by kernel_rfl) (by kernel_rfl) (by kernel_rfl) (fun _ _ _ h => h) (by rfl) ?_ ?_; rotate_left; · (intro u hu; go_simp; try with_reducible rfl)
    try simp only [Act.put, gzD, gzE, gzF]
    refine ways_take (i := 4) (d := some 9) (v := ?_) (by simp only [gzA, gzB, gzC] <;> rfl) (by rfl) (by kernel_rfl) (by kernel_rfl) (by kernel_rfl) (fun _ _ _ h => h) (by rfl) ?_ ?_; rotate_left; · (intro u hu; obtain ⟨⟨c0, c1, c2, c3, _⟩, ⟨d0, d1, d2, _⟩⟩ := HF.out u (gb_trans hB hu); go_simp; try with_reducible rfl)
    try simp only [Act.put, gzD, gzE, gzF]
    refine ways_take (i := 5) (d := some 10) (v := ?_) (by simp only [gzA, gzB, gzC] <;> rfl) (by rfl) (by kernel_rfl) (by kernel_rfl) (by kernel_rfl) (fun _ _ _ h => h) (by rfl) ?_ ?_; rotate_left; · (intro u hu; go_simp; try with_reducible rfl)
    try simp only [Act.put, gzD, gzE, gzF]
    refine ways_take (i := 6) (d := some 11) (v := ?_) (by simp only [gzA, gzB, gzC] <;> rfl) (by rfl) (by kernel_rfl) (by kernel_rfl) (by kernel_rfl) (fun _ _ _ h => h) (by rfl) ?_ ?_; rotate_left; · (intro u hu; go_simp; try with_reducible rfl)
    try simp only [Act.put, gzD, gzE, gzF]
    refine ways_take (i := 7) (d := some 12) (v := ?_) (by simp only [gzA, gzB, gzC] <;> rfl) (by rfl) (by kernel_rfl) (by kernel_rfl) (by kernel_rfl) (fun _ _ _ h => h) (by rfl) ?_ ?_; rotate_left; · (intro u hu; obtain ⟨⟨c0, c1, c2, c3, _⟩, ⟨d0, d1, d2, _⟩⟩ := HF.out u (gb_trans hB hu); go_simp; try with_reducible rfl)
    try simp only [Act.put, gzD, gzE, gzF]
    refine ways_take (i := 8) (d := some 13) (v := ?_) (by simp only [gzA, gzB, gzC] <;> rfl) (by rfl) (by kernel_rfl) (by kernel_rfl) (by kernel_rfl) (fun _ _ _ h => h) (by rfl) ?_ ?_; rotate_left; · (intro u hu; go_simp; try with_reducible rfl)
    try simp only [Act.put, gzD, gzE, gzF]
    refine ways_take (i := 9) (d := some 14) (v := ?_) (by simp only [gzA, gzB, gzC] <;> rfl) (by rfl) (by kernel_rfl) (by kernel_rfl) (by kernel_rfl) (fun _ _ _ h => h) (by rfl) ?_ ?_; rotate_left; · (intro u hu; obtain ⟨⟨c0, c1, c2, c3, _⟩, ⟨d0, d1, d2, _⟩⟩ := HF.out u (gb_trans hB hu); go_simp; try with_reducible rfl)
    try simp only [Act.put, gzD, gzE, gzF]
    refine ways_take (i := 11) (d := some 16) (v := ?_) (by simp only [gzA, gzB, gzC] <;> rfl) (by rfl) (by kernel_rfl) (by kernel_rfl) (by kernel_rfl) (fun _ _ _ h => h) (by rfl) ?_ ?_; rotate_left; · (intro u hu; obtain ⟨⟨c0, c1, c2, c3, _⟩, ⟨d0, d1, d2, _⟩⟩ := HF.out u (gb_trans hB hu); go_simp; try with_reducible rfl)
    try simp only [Act.put, gzD, gzE, gzF]
    refine ways_one (i := 10) (by simp only [gzA, gzB, gzC] <;> rfl) (by kernel_rfl) (by rfl) (fun u hu K hK => ?_)
    replace hB := gb_trans hB hu
    go_simp
    refine ((HM _).out).mono ?_
    rintro e w110 ⟨rfl, hb10⟩
    have hg10 := gbB (r := none) hb10
    refine hK.out _ _ hg10 ?_
    replace hB := gb_trans hB hg10
    clear hK K hu
    try simp only [Act.put, gzD, gzE, gzF]
    refine ways_take (i := 12) (d := some 17) (v := ?_) (by simp only [gzA, gzB, gzC] <;> rfl) (by rfl) (by kernel_rfl) (by kernel_rfl) (by kernel_rfl) (fun _ _ _ h => h) (by rfl) ?_ ?_; rotate_left; · (intro u hu; go_simp; try with_reducible rfl)
    try simp only [Act.put, gzD, gzE, gzF]
    refine ways_take (i := 13) (d := some 18) (v := ?_) (by simp only [gzA, gzB, gzC] <;> rfl) (by rfl) (by kernel_rfl) (by kernel_rfl) (by kernel_rfl) (fun _ _ _ h => h) (by rfl) ?_ ?_; rotate_left; · (intro u hu; go_simp; try with_reducible rfl)
    try simp only [Act.put, gzD, gzE, gzF]
    refine ways_take (i := 14) (d := some 4) (v := ?_) (by simp only [gzA, gzB, gzC] <;> rfl) (by rfl) (by kernel_rfl) (by kernel_rfl) (by kernel_rfl) (fun _ _ _ h => h) (by rfl) ?_ ?_; rotate_left; · (intro u hu; go_simp; try with_reducible rfl)
    try simp only [Act.put, gzD, gzE, gzF]
    refine ways_done (by kernel_rfl) (fun u hu => ?_) _
    replace hB := gb_trans hB hu
    clear hu
    go_wp2_with fail
    go_ret
    exact ⟨ret_bool (HQ.out.trans HR.out.symm), below_gb2 hB⟩
  · have HR := Lib.hid (show ctB s hi lo n t h l = false by simp [ctB, hst])
    have b0 : (s == t) = false := by simp [hst]
    clear hst
    go_enter Tryz.func61, Tryz.ntmps61
    go_wp2_with fail
    refine ways_begin (none) (by kernel_rfl) ?_
    replace hB := gb_drew hB
    refine ways_take (i := 0) (d := some 5) (v := ?_) (by simp only [gzA, gzB, gzC] <;> rfl) (by rfl) (by kernel_rfl) (by kernel_rfl) (by kernel_rfl) (fun _ _ _ h => h) (by rfl) ?_ ?_; rotate_left; · (intro u hu; go_simp; try with_reducible rfl)
    try simp only [Act.put, gzD, gzE, gzF]
    refine ways_take (i := 1) (d := some 6) (v := ?_) (by simp only [gzA, gzB, gzC] <;> rfl) (by rfl) (by kernel_rfl) (by kernel_rfl) (by kernel_rfl) (fun _ _ _ h => h) (by rfl) ?_ ?_; rotate_left; · (intro u hu; go_simp; try with_reducible rfl)
    try simp only [Act.put, gzD, gzE, gzF]
    refine ways_take (i := 2) (d := some 7) (v := ?_) (by simp only [gzA, gzB, gzC] <;> rfl) (by rfl) (by kernel_rfl) (by kernel_rfl) (by kernel_rfl) (fun _ _ _ h => h) (by rfl) ?_ ?_; rotate_left; · (intro u hu; obtain ⟨⟨c0, c1, c2, c3, _⟩, ⟨d0, d1, d2, _⟩⟩ := HF.out u (gb_trans hB hu); go_simp; try with_reducible rfl)
    try simp only [Act.put, gzD, gzE, gzF]
    refine ways_take (i := 3) (d := some 8) (v := ?_) (by simp only [gzA, gzB, gzC] <;> rfl) (by rfl) (by kernel_rfl) (by kernel_rfl) (by kernel_rfl) (fun _ _ _ h => h) (by rfl) ?_ ?_; rotate_left; · (intro u hu; go_simp; try with_reducible rfl)
    try simp only [Act.put, gzD, gzE, gzF]
    refine ways_take (i := 4) (d := some 9) (v := ?_) (by simp only [gzA, gzB, gzC] <;> rfl) (by rfl) (by kernel_rfl) (by kernel_rfl) (by kernel_rfl) (fun _ _ _ h => h) (by rfl) ?_ ?_; rotate_left; · (intro u hu; obtain ⟨⟨c0, c1, c2, c3, _⟩, ⟨d0, d1, d2, _⟩⟩ := HF.out u (gb_trans hB hu); go_simp; try with_reducible rfl)
    try simp only [Act.put, gzD, gzE, gzF]
    refine ways_take (i := 5) (d := some 10) (v := ?_) (by simp only [gzA, gzB, gzC] <;> rfl) (by rfl) (by kernel_rfl) (by kernel_rfl) (by kernel_rfl) (fun _ _ _ h => h) (by rfl) ?_ ?_; rotate_left; · (intro u hu; go_simp; try with_reducible rfl)
    try simp only [Act.put, gzD, gzE, gzF]
    refine ways_take (i := 6) (d := some 11) (v := ?_) (by simp only [gzA, gzB, gzC] <;> rfl) (by rfl) (by kernel_rfl) (by kernel_rfl) (by kernel_rfl) (fun _ _ _ h => h) (by rfl) ?_ ?_; rotate_left; · (intro u hu; go_simp; try with_reducible rfl)
    try simp only [Act.put, gzD, gzE, gzF]
    refine ways_skip (i := 7) (d := some 12) (by simp only [gzA, gzB, gzC] <;> rfl) (by rfl) (by kernel_rfl) (by kernel_rfl) (by kernel_rfl) (fun _ _ _ h => h) (by rfl) ?_
    try simp only [Act.put, gzD, gzE, gzF]
    refine ways_skip (i := 8) (d := some 13) (by simp only [gzA, gzB, gzC] <;> rfl) (by rfl) (by kernel_rfl) (by kernel_rfl) (by kernel_rfl) (fun _ _ _ h => h) (by rfl) ?_
    try simp only [Act.put, gzD, gzE, gzF]
    refine ways_skip (i := 9) (d := some 14) (by simp only [gzA, gzB, gzC] <;> rfl) (by rfl) (by kernel_rfl) (by kernel_rfl) (by kernel_rfl) (fun _ _ _ h => h) (by rfl) ?_
    try simp only [Act.put, gzD, gzE, gzF]
    refine ways_skip (i := 10) (d := some 15) (by simp only [gzA, gzB, gzC] <;> rfl) (by rfl) (by kernel_rfl) (by kernel_rfl) (by kernel_rfl) (fun _ _ _ h => h) (by rfl) ?_
    try simp only [Act.put, gzD, gzE, gzF]
    refine ways_skip (i := 11) (d := some 16) (by simp only [gzA, gzB, gzC] <;> rfl) (by rfl) (by kernel_rfl) (by kernel_rfl) (by kernel_rfl) (fun _ _ _ h => h) (by rfl) ?_
    try simp only [Act.put, gzD, gzE, gzF]
    refine ways_skip (i := 12) (d := some 17) (by simp only [gzA, gzB, gzC] <;> rfl) (by rfl) (by kernel_rfl) (by kernel_rfl) (by kernel_rfl) (fun _ _ _ h => h) (by rfl) ?_
    try simp only [Act.put, gzD, gzE, gzF]
    refine ways_take (i := 13) (d := some 18) (v := ?_) (by simp only [gzA, gzB, gzC] <;> rfl) (by rfl) (by kernel_rfl) (by kernel_rfl) (by kernel_rfl) (fun _ _ _ h => h) (by rfl) ?_ ?_; rotate_left; · (intro u hu; go_simp; try with_reducible rfl)
    try simp only [Act.put, gzD, gzE, gzF]
    refine ways_take (i := 14) (d := some 4) (v := ?_) (by simp only [gzA, gzB, gzC] <;> rfl) (by rfl) (by kernel_rfl) (by kernel_rfl) (by kernel_rfl) (fun _ _ _ h => h) (by rfl) ?_ ?_; rotate_left; · (intro u hu; go_simp; try with_reducible rfl)
    try simp only [Act.put, gzD, gzE, gzF]
    refine ways_done (by kernel_rfl) (fun u hu => ?_) _
    replace hB := gb_trans hB hu
    clear hu
    go_wp2_with fail
    go_ret
    exact ⟨ret_bool HR.out.symm, below_gb2 hB⟩

theorem firstZ_two (a b : Int) : firstZ [a, b] = if a = 0 then b else a := by
  simp only [firstZ]
  split
  · split <;> simp_all
  · rfl


def insB (s : Bool) (hi lo n : Int) (t : Bool) (h l m : Int) : Bool := decide (m ≤ n) && ctB t h l m s hi lo

theorem inside_any (s : Bool) (hi lo n : Int) (t : Bool) (h l m : Int) (w : World) (h1 : 0 ≤ hi) (h2 : hi < 18446744073709551616) (h3 : 0 ≤ lo) (h4 : lo < 18446744073709551616)
    (k1 : 0 ≤ h) (k2 : h < 18446744073709551616) (k3 : 0 ≤ l) (k4 : l < 18446744073709551616) (hn1 : 0 ≤ m) (hn2 : m ≤ lenZ t) :
    Calls Tryz.prog 31 #[.agg #[.bool s, .int .u64 hi, .int .u64 lo, .int .i64 n], .agg #[.bool t, .int .u64 h, .int .u64 l, .int .i64 m]] w (GivesV (.bool (insB s hi lo n t h l m)) w) := by
  have HM := fun w' => Lib.hid (contains_any t h l m s hi lo w' k1 k2 k3 k4 h1 h2 h3 h4 hn1 hn2)
  clear hn1 hn2
  by_cases hm : m ≤ n
  · have HR := Lib.hid (show insB s hi lo n t h l m = ctB t h l m s hi lo by simp [insB, hm])
    go_enter Tryz.func31, Tryz.ntmps31
    go_wp2_with fail
    refine (HM _).out.mono ?_
    rintro e w1 ⟨rfl, hb1⟩
    go_wp2_with fail
    go_ret
    exact ⟨ret_bool HR.out.symm, (below_two _ _ _).trans (hb1.mono (by simp; omega))⟩
  · have HR := Lib.hid (show insB s hi lo n t h l m = false by simp [insB, hm])
    go_enter Tryz.func31, Tryz.ntmps31
    go_wp2_with fail
    go_ret
    exact ⟨ret_bool HR.out.symm, below_two _ _ _⟩

theorem fil_halves (hi lo : Int) (n : Nat) (hn : n ≤ 128) (h1 : 0 ≤ hi) (h2 : hi < 18446744073709551616) (h3 : 0 ≤ lo) (h4 : lo < 18446744073709551616) :
    bits .or .u64 hi (onesH n : Int) = ((fil (num hi lo) n / 2 ^ 64 : Nat) : Int) ∧ bits .or .u64 lo (onesL n : Int) = ((fil (num hi lo) n % 2 ^ 64 : Nat) : Int) := by
  have lH : onesH n < 18446744073709551616 := by
    unfold onesH; split
    · have : (2 : Nat) ^ (n - 64) ≤ 2 ^ 64 := Nat.pow_le_pow_right (by decide) (by omega)
      have := Nat.two_pow_pos (n - 64); omega
    · omega
  have lL : onesL n < 18446744073709551616 := by
    unfold onesL; split
    · omega
    · have : (2 : Nat) ^ n ≤ 2 ^ 64 := Nat.pow_le_pow_right (by decide) (by omega)
      have := Nat.two_pow_pos n; omega
  have eH := num_div hi lo h4
  have eL := num_mod hi lo h4
  have hH : hi.toNat < 2 ^ 64 := by omega
  have hL : lo.toNat < 2 ^ 64 := by omega
  have oH := u64_or_nat hi.toNat (onesH n) (by omega) lH
  have oL := u64_or_nat lo.toNat (onesL n) (by omega) lL
  rw [Int.toNat_of_nonneg h1] at oH
  rw [Int.toNat_of_nonneg h3] at oL
  rw [oH, oL]
  refine ⟨congrArg Int.ofNat ?_, congrArg Int.ofNat ?_⟩
  · apply Nat.eq_of_testBit_eq; intro i
    rw [Nat.testBit_or, Nat.testBit_div_two_pow, testBit_fil]
    have hb : hi.toNat.testBit i = (num hi lo).testBit (i + 64) := by rw [← eH, Nat.testBit_div_two_pow]
    rw [hb, Bool.or_comm]
    congr 1
    unfold onesH
    by_cases h : 64 < n
    · rw [if_pos h, Nat.testBit_two_pow_sub_one]
      apply decide_eq_decide.2; omega
    · rw [if_neg h, Nat.zero_testBit]
      exact (decide_eq_false (by omega)).symm
  · apply Nat.eq_of_testBit_eq; intro i
    rw [Nat.testBit_or, Nat.testBit_mod_two_pow, testBit_fil]
    by_cases hi64 : i < 64
    · have hb : lo.toNat.testBit i = (num hi lo).testBit i := by rw [← eL, Nat.testBit_mod_two_pow]; simp [hi64]
      rw [hb, Bool.or_comm]
      simp only [hi64, decide_true, Bool.true_and]
      congr 1
      unfold onesL
      by_cases h : 64 < n
      · rw [if_pos h, show (18446744073709551615 : Nat) = 2 ^ 64 - 1 by decide, Nat.testBit_two_pow_sub_one]
        apply decide_eq_decide.2; omega
      · rw [if_neg h, Nat.testBit_two_pow_sub_one]
    · have e1 : lo.toNat.testBit i = false := Nat.testBit_lt_two_pow (Nat.lt_of_lt_of_le hL (Nat.pow_le_pow_right (by decide) (by omega)))
      have e2 : (onesL n).testBit i = false := Nat.testBit_lt_two_pow (Nat.lt_of_lt_of_le (show onesL n < 2 ^ 64 from lL) (Nat.pow_le_pow_right (by decide) (by omega)))
      rw [e1, e2]; simp [hi64]

abbrev rangeV (s : Bool) (hi lo n : Int) : Value := .agg #[.bool s, .int .u64 hi, .int .u64 lo, .bool s, .int .u64 ((fil (num hi lo) (lenZ s - n).toNat / 2 ^ 64 : Nat) : Int), .int .u64 ((fil (num hi lo) (lenZ s - n).toNat % 2 ^ 64 : Nat) : Int)]
theorem Blk.six {w : World} {p : Nat} {x0 x1 x2 x3 x4 x5 : Value} {t : TypeId} (h : Blk w p [x0, x1, x2, x3, x4, x5] t) :
    w.cell? ⟨p, 0, none⟩ = some x0 ∧ w.cell? ⟨p, 1, none⟩ = some x1 ∧ w.cell? ⟨p, 2, none⟩ = some x2 ∧ w.cell? ⟨p, 3, none⟩ = some x3 ∧ w.cell? ⟨p, 4, none⟩ = some x4 ∧ w.cell? ⟨p, 5, none⟩ = some x5 ∧ w.frozen? ⟨p, 0, none⟩ = false ∧ w.frozen? ⟨p, 1, none⟩ = false ∧ w.frozen? ⟨p, 2, none⟩ = false ∧ w.frozen? ⟨p, 3, none⟩ = false ∧ w.frozen? ⟨p, 4, none⟩ = false ∧ w.frozen? ⟨p, 5, none⟩ = false :=
  ⟨h.cell rfl, h.cell rfl, h.cell rfl, h.cell rfl, h.cell rfl, h.cell rfl, h.free _, h.free _, h.free _, h.free _, h.free _, h.free _⟩
theorem below_six {B p : Nat} {w W : World} (h : Below B w W) (hp : B ≤ p) (x0 x1 x2 x3 x4 x5 : Value) : Below B w ((((((W.setCell ⟨p, 0, none⟩ x0).setCell ⟨p, 1, none⟩ x1).setCell ⟨p, 2, none⟩ x2).setCell ⟨p, 3, none⟩ x3).setCell ⟨p, 4, none⟩ x4).setCell ⟨p, 5, none⟩ x5) :=
  Below.setCell (p := ⟨p, 5, none⟩) (Below.setCell (p := ⟨p, 4, none⟩) (below_four h hp x0 x1 x2 x3) hp x4) hp x5

set_option linter.unusedSimpArgs false in
set_option maxHeartbeats 1000000 in
theorem rangeOf_any (s : Bool) (hi lo n : Int) (w : World) (h1 : 0 ≤ hi) (h2 : hi < 18446744073709551616) (h3 : 0 ≤ lo) (h4 : lo < 18446744073709551616) (hn1 : 0 ≤ n) (hn2 : n ≤ lenZ s) :
    Calls Tryz.prog 66 #[.agg #[.bool s, .int .u64 hi, .int .u64 lo, .int .i64 n]] w (GivesV (rangeV s hi lo n) w) := by
  have hl : lenZ s ≤ 128 := by cases s <;> decide
  obtain ⟨N, hN⟩ := Int.eq_ofNat_of_zero_le (show 0 ≤ lenZ s - n by omega)
  have hN' : N ≤ 128 := by omega
  obtain ⟨e1, e2⟩ := fil_halves hi lo N hN' h1 h2 h3 h4
  have hS : IntKind.i64.wrap (lenZ s - n) = (N : Int) := by rw [← hN]; exact IntWalk.i64_in _ (by omega)
  have HE := Lib.hid (show (Value.agg #[.bool s, .int .u64 hi, .int .u64 lo, .bool s, .int .u64 (bits .or .u64 hi (onesH N : Int)), .int .u64 (bits .or .u64 lo (onesL N : Int))]) = rangeV s hi lo n by rw [e1, e2]; unfold rangeV; rw [hN, Int.toNat_natCast])
  clear e1 e2 hN hn1 hn2
  have HF : Hid (∀ u, ((w.alloc (.cells #[.bool s, .int .u64 hi, .int .u64 lo, .int .i64 n] 35)).alloc (.cells #[.bool false, .int .u64 0, .int .u64 0, .bool false, .int .u64 0, .int .u64 0] 95)).grownBy u none → _) :=
    Lib.hid fun u hu => And.intro ((blk2 w [.bool s, .int .u64 hi, .int .u64 lo, .int .i64 n] [.bool false, .int .u64 0, .int .u64 0, .bool false, .int .u64 0, .int .u64 0] _ _).1.gn hu).four ((blk2 w [.bool s, .int .u64 hi, .int .u64 lo, .int .i64 n] [.bool false, .int .u64 0, .int .u64 0, .bool false, .int .u64 0, .int .u64 0] _ _).2.gn hu).six
  have hB := gb_refl ((w.alloc (.cells #[.bool s, .int .u64 hi, .int .u64 lo, .int .i64 n] 35)).alloc (.cells #[.bool false, .int .u64 0, .int .u64 0, .bool false, .int .u64 0, .int .u64 0] 95)) none
  go_enter Tryz.func66, Tryz.ntmps66
  go_wp2_with fail
  refine ways_begin (none) (by kernel_rfl) ?_
  replace hB := gb_drew hB
  refine ways_take (i := 0) (d := some 6) (v := ?_) (by simp only [gzA, gzB, gzC] <;> rfl) (by rfl) (by kernel_rfl) (by kernel_rfl) (by kernel_rfl) (fun _ _ _ h => h) (by rfl) ?_ ?_; rotate_left; · (intro u hu; go_simp; try with_reducible rfl)
  try simp only [Act.put, gzD, gzE, gzF]
  refine ways_take (i := 1) (d := some 7) (v := ?_) (by simp only [gzA, gzB, gzC] <;> rfl) (by rfl) (by kernel_rfl) (by kernel_rfl) (by kernel_rfl) (fun _ _ _ h => h) (by rfl) ?_ ?_; rotate_left; · (intro u hu; go_simp; try with_reducible rfl)
  try simp only [Act.put, gzD, gzE, gzF]
  refine ways_take (i := 2) (d := some 8) (v := ?_) (by simp only [gzA, gzB, gzC] <;> rfl) (by rfl) (by kernel_rfl) (by kernel_rfl) (by kernel_rfl) (fun _ _ _ h => h) (by rfl) ?_ ?_; rotate_left; · (intro u hu; obtain ⟨⟨c0, c1, c2, c3, _⟩, _⟩ := HF.out u (gb_trans hB hu); go_simp; try with_reducible rfl)
  try simp only [Act.put, gzD, gzE, gzF]
  refine ways_take (i := 4) (d := some 10) (v := ?_) (by simp only [gzA, gzB, gzC] <;> rfl) (by rfl) (by kernel_rfl) (by kernel_rfl) (by kernel_rfl) (fun _ _ _ h => h) (by rfl) ?_ ?_; rotate_left; · (intro u hu; go_simp; try with_reducible rfl)
  try simp only [Act.put, gzD, gzE, gzF]
  refine ways_take (i := 5) (d := some 11) (v := ?_) (by simp only [gzA, gzB, gzC] <;> rfl) (by rfl) (by kernel_rfl) (by kernel_rfl) (by kernel_rfl) (fun _ _ _ h => h) (by rfl) ?_ ?_; rotate_left; · (intro u hu; obtain ⟨⟨c0, c1, c2, c3, _⟩, _⟩ := HF.out u (gb_trans hB hu); go_simp; try with_reducible rfl)
  try simp only [Act.put, gzD, gzE, gzF]
  refine ways_one (i := 3) (by simp only [gzA, gzB, gzC] <;> rfl) (by kernel_rfl) (by rfl) (fun u hu K hK => ?_)
  replace hB := gb_trans hB hu
  go_simp
  refine (spanLength_any _ _).mono ?_
  rintro e w103 ⟨rfl, rfl⟩
  have hg3 := gb_refl u (none)
  refine hK.out _ _ hg3 ?_
  replace hB := gb_trans hB hg3
  clear hK K hu
  try simp only [Act.put, gzD, gzE, gzF]
  refine ways_take (i := 6) (d := some 12) (v := ?_) (by simp only [gzA, gzB, gzC] <;> rfl) (by rfl) (by kernel_rfl) (by kernel_rfl) (by kernel_rfl) (fun _ _ _ h => h) (by rfl) ?_ ?_; rotate_left; · (intro u hu; go_simp; try with_reducible rfl)
  try simp only [Act.put, gzD, gzE, gzF]
  refine ways_one (i := 7) (by simp only [gzA, gzB, gzC] <;> rfl) (by kernel_rfl) (by rfl) (fun u hu K hK => ?_)
  replace hB := gb_trans hB hu
  go_simp
  refine (ones_any _ hN' _).mono ?_
  rintro e w107 ⟨rfl, m, rfl⟩
  have hg7 := gb_drewN (m := m) (gb_refl u none)
  refine hK.out _ _ hg7 ?_
  replace hB := gb_trans hB hg7
  clear hK K hu
  try simp only [Act.put, gzD, gzE, gzF]
  refine ways_take (i := 8) (d := some 5) (v := ?_) (by simp only [gzA, gzB, gzC] <;> rfl) (by rfl) (by kernel_rfl) (by kernel_rfl) (by kernel_rfl) (fun _ _ _ h => h) (by rfl) ?_ ?_; rotate_left; · (intro u hu; go_simp; try with_reducible rfl)
  try simp only [Act.put, gzD, gzE, gzF]
  refine ways_take (i := 9) (d := some 14) (v := ?_) (by simp only [gzA, gzB, gzC] <;> rfl) (by rfl) (by kernel_rfl) (by kernel_rfl) (by kernel_rfl) (fun _ _ _ h => h) (by rfl) ?_ ?_; rotate_left; · (intro u hu; go_simp; try with_reducible rfl)
  try simp only [Act.put, gzD, gzE, gzF]
  refine ways_take (i := 11) (d := some 3) (v := ?_) (by simp only [gzA, gzB, gzC] <;> rfl) (by rfl) (by kernel_rfl) (by kernel_rfl) (by kernel_rfl) (fun _ _ _ h => h) (by rfl) ?_ ?_; rotate_left; · (intro u hu; go_simp; try with_reducible rfl)
  try simp only [Act.put, gzD, gzE, gzF]
  refine ways_take (i := 10) (d := some 15) (v := ?_) (by simp only [gzA, gzB, gzC] <;> rfl) (by rfl) (by kernel_rfl) (by kernel_rfl) (by kernel_rfl) (fun _ _ _ h => h) (by rfl) ?_ ?_; rotate_left; · (intro u hu; go_simp; try with_reducible rfl)
  try simp only [Act.put, gzD, gzE, gzF]
  refine ways_take (i := 12) (d := some 4) (v := ?_) (by simp only [gzA, gzB, gzC] <;> rfl) (by rfl) (by kernel_rfl) (by kernel_rfl) (by kernel_rfl) (fun _ _ _ h => h) (by rfl) ?_ ?_; rotate_left; · (intro u hu; go_simp; try with_reducible rfl)
  try simp only [Act.put, gzD, gzE, gzF]
  refine ways_done (by kernel_rfl) (fun u hu => ?_) _
  replace hB := gb_trans hB hu
  clear hu
  obtain ⟨⟨c0, c1, c2, c3, _⟩, ⟨z0, z1, z2, z3, z4, z5, f0, f1, f2, f3, f4, f5⟩⟩ := HF.out _ hB
  have hC1 := below_gb2 hB
  have hx1 : w.heap.size + 1 < u.heap.size := by have := hB.size; simp at this; omega
  have hx0 : w.heap.size < u.heap.size := by omega
  clear hS hB
  go_wp2_with fail
  refine bodyPost_ret ?_ rfl ⟨congrArg Ending.returned HE.out, ?_⟩
  · simp [results, Tryz.results66, go_sem, z0, z1, z2, z3, z4, z5, hx1]
  · exact below_six hC1 (by simp) _ _ _ _ _ _

@[go_sem] theorem run_lastField (a b : Bool) (x y z u : Int) (w : World) : (Instr.field 95 (.agg #[.bool a, .int .u64 x, .int .u64 y, .bool b, .int .u64 z, .int .u64 u]) 1).run Tryz.prog w = .ok (.agg #[.bool b, .int .u64 z, .int .u64 u]) w := by kernel_rfl

end Go.Proofs.YtfpcalgkfagjkaaGreatDoor
