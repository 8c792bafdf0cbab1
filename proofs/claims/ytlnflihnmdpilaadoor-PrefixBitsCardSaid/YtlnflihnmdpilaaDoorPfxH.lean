/- Prefixes: the program and the reference, side by side. -/
import Derived.Test.YtlnflihnmdpilaaDoorPfxG
namespace Go.Proofs.YtlnflihnmdpilaaDoor
open Go.RowKit
set_option linter.unusedVariables false
set_option linter.unusedSimpArgs false

/-- Is a number of bits out of range? -/
def outB (b : Int) (t : Bool) : Bool := decide (b < 0 ∨ lenZ t < b)
/-- Mask's error. -/
def maE (t : Bool) (h l b : Int) : Int := firstZ [adF t h l, whenZ (outB b t) 1]

theorem mask_both (t : Bool) (h l b : Int) (k1 : 0 ≤ h) (k2 : h < 18446744073709551616) (k3 : 0 ≤ l) (k4 : l < 18446744073709551616) :
    ∃ ms mh ml mn, (∀ w', Hid (Calls Tryd.prog 20 #[.agg #[.bool t, .int .u64 h, .int .u64 l], .int .i64 b] w' (GivesV (pfR (.agg #[.bool ms, .int .u64 mh, .int .u64 ml, .int .i64 mn]) (maE t h l b)) w'))) ∧
      (maE t h l b = 0 → ∀ w', Hid (Calls Tryd.prog 18 #[.agg #[.bool t, .int .u64 h, .int .u64 l], .int .i64 b] w' (GivesV (.agg #[.bool ms, .int .u64 mh, .int .u64 ml, .int .i64 mn]) w'))) := by
  by_cases hA : adF t h l = 0
  · by_cases ho : b < 0 ∨ lenZ t < b
    · have e : maE t h l b = 1 := by unfold maE; rw [firstZ_two, if_pos hA, show outB b t = true from decide_eq_true ho]; rfl
      rw [e]
      exact ⟨false, 0, 0, 0, fun w' => Lib.hid (mask_range t h l b w' hA ho), fun h => by omega⟩
    · have e : maE t h l b = 0 := by unfold maE; rw [firstZ_two, if_pos hA, show outB b t = false from decide_eq_false ho]; rfl
      rw [e]
      exact ⟨_, _, _, _, fun w' => Lib.hid (mask_ok t h l b w' k1 k2 k3 k4 hA (by omega) (by omega)), fun _ w' => Lib.hid (maskOf_any t h l b w' k1 k2 k3 k4 (by omega) (by omega))⟩
  · have e : maE t h l b = adF t h l := by unfold maE; rw [firstZ_two, if_neg hA]
    rw [e]
    exact ⟨false, 0, 0, 0, fun w' => Lib.hid (mask_fault t h l b w' hA), fun h => absurd h hA⟩

theorem last_both (s : Bool) (hi lo n : Int) (h1 : 0 ≤ hi) (h2 : hi < 18446744073709551616) (h3 : 0 ≤ lo) (h4 : lo < 18446744073709551616) :
    ∃ xs xh xl, (∀ w', Hid (Calls Tryd.prog 21 #[.agg #[.bool s, .int .u64 hi, .int .u64 lo, .int .i64 n]] w' (GivesV (.tuple #[.agg #[.bool xs, .int .u64 xh, .int .u64 xl], .int .i64 (pfF s hi lo n)]) w'))) ∧
      (pfF s hi lo n = 0 → ∀ w', Hid (Calls Tryd.prog 29 #[.agg #[.bool s, .int .u64 hi, .int .u64 lo, .int .i64 n]] w' (GivesV (.agg #[.bool xs, .int .u64 xh, .int .u64 xl]) w'))) := by
  by_cases hf : pfF s hi lo n = 0
  · have hz := pfF_zero hf
    refine ⟨_, _, _, fun w' => ?_, fun _ w' => Lib.hid (lastOfRef_any s hi lo n w' h1 h2 h3 h4 hz.2.1 hz.2.2.1)⟩
    rw [hf]
    exact Lib.hid (last_ok s hi lo n w' h1 h2 h3 h4 hf)
  · exact ⟨false, 0, 0, fun w' => Lib.hid (last_bad s hi lo n w' h1 h2 h3 h4 hf), fun h => absurd h hf⟩

theorem cont_both (s : Bool) (hi lo n : Int) (t : Bool) (h l : Int) (h1 : 0 ≤ hi) (h2 : hi < 18446744073709551616) (h3 : 0 ≤ lo) (h4 : lo < 18446744073709551616)
    (k1 : 0 ≤ h) (k2 : h < 18446744073709551616) (k3 : 0 ≤ l) (k4 : l < 18446744073709551616) :
    ∃ c, (∀ w', Hid (Calls Tryd.prog 22 #[.agg #[.bool s, .int .u64 hi, .int .u64 lo, .int .i64 n], .agg #[.bool t, .int .u64 h, .int .u64 l]] w' (GivesV (.tuple #[.bool c, .int .i64 (coE s hi lo n t h l)]) w'))) ∧
      (coE s hi lo n t h l = 0 → ∀ w', Hid (Calls Tryd.prog 30 #[.agg #[.bool s, .int .u64 hi, .int .u64 lo, .int .i64 n], .agg #[.bool t, .int .u64 h, .int .u64 l]] w' (GivesV (.bool c) w'))) := by
  refine ⟨_, fun w' => Lib.hid (addrContains_any s hi lo n t h l w' h1 h2 h3 h4 k1 k2 k3 k4), fun he w' => ?_⟩
  have hp : pfF s hi lo n = 0 := by
    unfold coE at he; rw [firstZ_two] at he; split at he <;> simp_all
  have hz := pfF_zero hp
  have := holds_any s hi lo n t h l w' h1 h2 h3 h4 k1 k2 k3 k4 hz.2.1 hz.2.2.1
  rw [hdB_clr hz.2.2.2] at this
  have e : okB (coE s hi lo n t h l) (ctB s hi lo n t h l) = (s == t && decide (clr (num h l) (lenZ s - n).toNat = num hi lo)) := by
    rw [he, ok_zero]; unfold ctB
    cases hst : (s == t)
    · rw [Bool.false_and, Bool.false_and]
    · rw [beq_iff_eq] at hst; rw [hst]
  rw [e]
  exact Lib.hid this

theorem ins_both (s : Bool) (hi lo n : Int) (t : Bool) (h l m : Int) (h1 : 0 ≤ hi) (h2 : hi < 18446744073709551616) (h3 : 0 ≤ lo) (h4 : lo < 18446744073709551616)
    (k1 : 0 ≤ h) (k2 : h < 18446744073709551616) (k3 : 0 ≤ l) (k4 : l < 18446744073709551616) :
    ∃ c, (∀ w', Hid (Calls Tryd.prog 23 #[.agg #[.bool s, .int .u64 hi, .int .u64 lo, .int .i64 n], .agg #[.bool t, .int .u64 h, .int .u64 l, .int .i64 m]] w' (GivesV (.tuple #[.bool c, .int .i64 (twE s hi lo n t h l m)]) w'))) ∧
      (twE s hi lo n t h l m = 0 → ∀ w', Hid (Calls Tryd.prog 31 #[.agg #[.bool s, .int .u64 hi, .int .u64 lo, .int .i64 n], .agg #[.bool t, .int .u64 h, .int .u64 l, .int .i64 m]] w' (GivesV (.bool c) w'))) := by
  refine ⟨_, fun w' => Lib.hid (addrInside_any s hi lo n t h l m w' h1 h2 h3 h4 k1 k2 k3 k4), fun he w' => ?_⟩
  have hp := pfF_zero (twE_zero he).1
  have hq := pfF_zero (twE_zero he).2
  have := within_any s hi lo n t h l m w' h1 h2 h3 h4 k1 k2 k3 k4 hp.2.1 hp.2.2.1 hq.2.1 hq.2.2.1
  rw [wtB_eq hp.2.2.2 hq.2.2.2] at this
  have e : okB (twE s hi lo n t h l m) (insB s hi lo n t h l m) = (t == s && decide ((lenZ s - n).toNat ≤ (lenZ t - m).toNat ∧ clr (num hi lo) (lenZ t - m).toNat = num h l)) := by
    rw [he, ok_zero]; unfold insB ctB
    cases hst : (t == s)
    · simp
    · rw [beq_iff_eq] at hst
      subst hst
      rw [Bool.true_and, Bool.true_and, Bool.eq_iff_iff]
      simp only [Bool.and_eq_true, decide_eq_true_eq]
      have a1 := hp.2.1
      have a2 := hp.2.2.1
      have a3 := hq.2.1
      have a4 := hq.2.2.1
      constructor
      · rintro ⟨x, y⟩; exact ⟨by omega, y⟩
      · rintro ⟨x, y⟩; exact ⟨by omega, y⟩
  rw [e]
  exact Lib.hid this

/-- Common's error. -/
def cmE (s : Bool) (hi lo n : Int) (t : Bool) (h l m : Int) : Int := firstZ [twE s hi lo n t h l m, whenZ (s != t) 10]

theorem com_both (s : Bool) (hi lo n : Int) (t : Bool) (h l m : Int) (h1 : 0 ≤ hi) (h2 : hi < 18446744073709551616) (h3 : 0 ≤ lo) (h4 : lo < 18446744073709551616)
    (k1 : 0 ≤ h) (k2 : h < 18446744073709551616) (k3 : 0 ≤ l) (k4 : l < 18446744073709551616) :
    ∃ ks kh kl kn, (∀ w', Hid (Calls Tryd.prog 24 #[.agg #[.bool s, .int .u64 hi, .int .u64 lo, .int .i64 n], .agg #[.bool t, .int .u64 h, .int .u64 l, .int .i64 m]] w' (GivesV (pfR (.agg #[.bool ks, .int .u64 kh, .int .u64 kl, .int .i64 kn]) (cmE s hi lo n t h l m)) w'))) ∧
      (cmE s hi lo n t h l m = 0 → ∀ w', Hid (Calls Tryd.prog 32 #[.agg #[.bool s, .int .u64 hi, .int .u64 lo, .int .i64 n], .agg #[.bool t, .int .u64 h, .int .u64 l, .int .i64 m]] w' (GivesV (.agg #[.bool ks, .int .u64 kh, .int .u64 kl, .int .i64 kn]) w'))) ∧
      (cmE s hi lo n t h l m ≠ 0 → ks = false ∧ kh = 0 ∧ kl = 0 ∧ kn = 0) := by
  by_cases he : twE s hi lo n t h l m = 0
  · by_cases hst : s = t
    · have e : cmE s hi lo n t h l m = 0 := by unfold cmE; rw [firstZ_two, if_pos he, hst]; simp [whenZ]
      rw [e]
      refine ⟨_, _, _, _, fun w' => Lib.hid (common_ok s hi lo n t h l m w' h1 h2 h3 h4 k1 k2 k3 k4 he hst), fun _ w' => ?_, fun h => absurd rfl h⟩
      subst hst
      exact Lib.hid (commonOf_any s hi lo n h l m w' h1 h2 h3 h4 k1 k2 k3 k4 (twE_zero he).1 (twE_zero he).2)
    · have e : cmE s hi lo n t h l m = 10 := by unfold cmE; rw [firstZ_two, if_pos he]; simp [whenZ, hst]
      rw [e]
      exact ⟨false, 0, 0, 0, fun w' => Lib.hid (common_type s hi lo n t h l m w' h1 h2 h3 h4 k1 k2 k3 k4 he hst), fun h => by omega, fun _ => ⟨rfl, rfl, rfl, rfl⟩⟩
  · have e : cmE s hi lo n t h l m = twE s hi lo n t h l m := by unfold cmE; rw [firstZ_two, if_neg he]
    rw [e]
    exact ⟨false, 0, 0, 0, fun w' => Lib.hid (common_bad s hi lo n t h l m w' h1 h2 h3 h4 k1 k2 k3 k4 he), fun h => absurd h he, fun _ => ⟨rfl, rfl, rfl, rfl⟩⟩
end Go.Proofs.YtlnflihnmdpilaaDoor
