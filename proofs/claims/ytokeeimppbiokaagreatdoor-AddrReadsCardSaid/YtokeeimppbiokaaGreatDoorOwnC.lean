/- The program's own CheckPrefix. -/
import Derived.Test.YtokeeimppbiokaaGreatDoorOwnB
namespace Go.Proofs.YtokeeimppbiokaaGreatDoor
open Go.RowKit

theorem mask_same (hi lo : Int) (k : Nat) (h1 : 0 ≤ hi) (h3 : 0 ≤ lo) (h4 : lo < 18446744073709551616) (h : clr (num hi lo) k = num hi lo) :
    ((clr (num hi lo) k / 2 ^ 64 : Nat) : Int) = hi ∧ ((clr (num hi lo) k % 2 ^ 64 : Nat) : Int) = lo := by
  rw [h, num_div hi lo h4, num_mod hi lo h4]
  exact ⟨Int.toNat_of_nonneg h1, Int.toNat_of_nonneg h3⟩

theorem mask_other (hi lo : Int) (k : Nat) (h4 : lo < 18446744073709551616) (h : ¬ clr (num hi lo) k = num hi lo) (a : ((clr (num hi lo) k / 2 ^ 64 : Nat) : Int) = hi) :
    ¬ ((clr (num hi lo) k % 2 ^ 64 : Nat) : Int) = lo := by
  intro b
  have e1 := num_div hi lo h4
  have e2 := num_mod hi lo h4
  generalize clr (num hi lo) k = C at *
  generalize hV : num hi lo = V at *
  omega

set_option maxHeartbeats 1000000 in
theorem checkPrefix_fault (s : Bool) (hi lo n : Int) (w : World) (hA : adF s hi lo ≠ 0) :
    Calls Tryz.prog 34 #[.agg #[.bool s, .int .u64 hi, .int .u64 lo, .int .i64 n]] w (GivesV (.int .i64 (pfF s hi lo n)) w) := by
  have H := Lib.hid (show pfF s hi lo n = adF s hi lo by unfold pfF; rw [if_pos hA]; rcases adF_two s hi lo with h | h <;> simp_all)
  have H1 : (adF s hi lo == 0) = false := by simp [hA]
  have HM := fun w' => Lib.hid (mask_fault s hi lo n w' hA)
  clear hA
  go_enter Tryz.func34, Tryz.ntmps34
  go_wp2_with fail
  refine (HM _).out.mono ?_
  rintro e w1 ⟨rfl, hb1⟩
  have hC1 : Below w.heap.size w w1 := ((Below.refl _ _).alloc (Nat.le_refl _) _).trans (hb1.mono (by simp))
  clear hb1
  go_wp2_with fail
  go_ret
  exact ⟨by rw [H.out]; rfl, hC1.alloc hC1.size _⟩

set_option maxHeartbeats 1000000 in
theorem checkPrefix_range (s : Bool) (hi lo n : Int) (w : World) (hA : adF s hi lo = 0) (hn : n < 0 ∨ lenZ s < n) :
    Calls Tryz.prog 34 #[.agg #[.bool s, .int .u64 hi, .int .u64 lo, .int .i64 n]] w (GivesV (.int .i64 (pfF s hi lo n)) w) := by
  have H := Lib.hid (show pfF s hi lo n = 1 by unfold pfF; rw [if_neg (by simp [hA]), if_pos (show inB n 0 (lenZ s) = false from decide_eq_false (by omega))])
  have HM := fun w' => Lib.hid (mask_range s hi lo n w' hA hn)
  clear hA hn
  go_enter Tryz.func34, Tryz.ntmps34
  go_wp2_with fail
  refine (HM _).out.mono ?_
  rintro e w1 ⟨rfl, hb1⟩
  have hC1 : Below w.heap.size w w1 := ((Below.refl _ _).alloc (Nat.le_refl _) _).trans (hb1.mono (by simp))
  clear hb1
  go_wp2_with fail
  go_ret
  exact ⟨by rw [H.out]; rfl, hC1.alloc hC1.size _⟩

set_option maxHeartbeats 1000000 in
theorem checkPrefix_ok (s : Bool) (hi lo n : Int) (w : World) (h1 : 0 ≤ hi) (h2 : hi < 18446744073709551616) (h3 : 0 ≤ lo) (h4 : lo < 18446744073709551616) (hA : adF s hi lo = 0) (hn1 : 0 ≤ n) (hn2 : n ≤ lenZ s) :
    Calls Tryz.prog 34 #[.agg #[.bool s, .int .u64 hi, .int .u64 lo, .int .i64 n]] w (GivesV (.int .i64 (pfF s hi lo n)) w) := by
  obtain ⟨MH, hMH⟩ : ∃ x : Int, x = ((clr (num hi lo) (lenZ s - n).toNat / 2 ^ 64 : Nat) : Int) := ⟨_, rfl⟩
  obtain ⟨ML, hML⟩ : ∃ x : Int, x = ((clr (num hi lo) (lenZ s - n).toNat % 2 ^ 64 : Nat) : Int) := ⟨_, rfl⟩
  have HM : ∀ w', Hid (Calls Tryz.prog 62 #[.agg #[.bool s, .int .u64 hi, .int .u64 lo], .int .i64 n] w' (GivesV (pfR (.agg #[.bool s, .int .u64 MH, .int .u64 ML, .int .i64 n]) 0) w')) := fun w' => by
    rw [hMH, hML]; exact mask_ok s hi lo n w' h1 h2 h3 h4 hA hn1 hn2
  have hI : inB n 0 (lenZ s) = true := decide_eq_true ⟨hn1, hn2⟩
  have hB := Blk.new w [.bool s, .int .u64 hi, .int .u64 lo, .int .i64 n] 36
  by_cases hC : clr (num hi lo) (lenZ s - n).toNat = num hi lo
  · have H := Lib.hid (show pfF s hi lo n = 0 by unfold pfF; rw [if_neg (by simp [hA]), if_neg (by rw [hI]; decide), if_pos hC])
    obtain ⟨a, b⟩ := mask_same hi lo (lenZ s - n).toNat h1 h3 h4 hC
    obtain rfl : MH = hi := hMH.trans a
    obtain rfl : ML = lo := hML.trans b
    clear hA hC hI h1 h2 h3 h4 hMH hML a b
    go_enter Tryz.func34, Tryz.ntmps34
    go_wp2_with fail
    refine (HM _).out.mono ?_
    rintro e w1 ⟨rfl, hb1⟩
    obtain ⟨u0, u1, u2, u3, _⟩ := (hB.below hb1).four
    have hz1 := hb1.size
    simp at hz1
    have hx1 : w.heap.size < w1.heap.size := by omega
    have hC1 : Below w.heap.size w w1 := ((Below.refl _ _).alloc (Nat.le_refl _) _).trans (hb1.mono (by simp))
    clear hb1 hB
    go_wp2_with fail
    go_ret
    exact ⟨by rw [H.out]; rfl, hC1.alloc hC1.size _⟩
  · have H := Lib.hid (show pfF s hi lo n = 3 by unfold pfF; rw [if_neg (by simp [hA]), if_neg (by rw [hI]; decide), if_neg hC])
    by_cases hE : MH = hi
    · have hne : ¬ ML = lo := by rw [hML]; exact mask_other hi lo _ h4 hC (by rw [← hMH]; exact hE)
      subst hE
      clear hA hC hI h1 h2 h3 h4 hMH hML
      go_enter Tryz.func34, Tryz.ntmps34
      go_wp2_with fail
      refine (HM _).out.mono ?_
      rintro e w1 ⟨rfl, hb1⟩
      obtain ⟨u0, u1, u2, u3, _⟩ := (hB.below hb1).four
      have hz1 := hb1.size
      simp at hz1
      have hx1 : w.heap.size < w1.heap.size := by omega
      have hC1 : Below w.heap.size w w1 := ((Below.refl _ _).alloc (Nat.le_refl _) _).trans (hb1.mono (by simp))
      clear hb1 hB
      go_wp2_with fail
      go_ret
      exact ⟨by rw [H.out]; rfl, hC1.alloc hC1.size _⟩
    · clear hA hC hI h1 h2 h3 h4 hMH hML
      go_enter Tryz.func34, Tryz.ntmps34
      go_wp2_with fail
      refine (HM _).out.mono ?_
      rintro e w1 ⟨rfl, hb1⟩
      obtain ⟨u0, u1, u2, u3, _⟩ := (hB.below hb1).four
      have hz1 := hb1.size
      simp at hz1
      have hx1 : w.heap.size < w1.heap.size := by omega
      have hC1 : Below w.heap.size w w1 := ((Below.refl _ _).alloc (Nat.le_refl _) _).trans (hb1.mono (by simp))
      clear hb1 hB
      go_wp2_with fail
      go_ret
      exact ⟨by rw [H.out]; rfl, hC1.alloc hC1.size _⟩

/-- CheckPrefix gives the error of a prefix. -/
theorem checkPrefix_any (s : Bool) (hi lo n : Int) (w : World) (h1 : 0 ≤ hi) (h2 : hi < 18446744073709551616) (h3 : 0 ≤ lo) (h4 : lo < 18446744073709551616) :
    Calls Tryz.prog 34 #[.agg #[.bool s, .int .u64 hi, .int .u64 lo, .int .i64 n]] w (GivesV (.int .i64 (pfF s hi lo n)) w) := by
  by_cases hA : adF s hi lo = 0
  · by_cases hn : n < 0 ∨ lenZ s < n
    · exact checkPrefix_range s hi lo n w hA hn
    · exact checkPrefix_ok s hi lo n w h1 h2 h3 h4 hA (by omega) (by omega)
  · exact checkPrefix_fault s hi lo n w hA
end Go.Proofs.YtokeeimppbiokaaGreatDoor
