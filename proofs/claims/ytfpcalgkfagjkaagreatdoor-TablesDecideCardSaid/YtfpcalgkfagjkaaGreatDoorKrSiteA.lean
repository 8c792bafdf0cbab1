/- Sites: Via, ViaOf, Site, SiteOf; errs, when. -/
import Derived.Test.YtfpcalgkfagjkaaGreatDoorKrAddressed
import Derived.Test.YtfpcalgkfagjkaaGreatDoorKrWideD
namespace Go.Proofs.YtfpcalgkfagjkaaGreatDoor
open Go.RowKit

theorem belowN {B m : Nat} {a w : World} (h : Below B a w) : Below B a (w.drewN m) := ⟨h.os, h.tape, h.output, h.size, h.block⟩
theorem below_four {B p : Nat} {w W : World} (h : Below B w W) (hp : B ≤ p) (x0 x1 x2 x3 : Value) : Below B w ((((W.setCell ⟨p, 0, none⟩ x0).setCell ⟨p, 1, none⟩ x1).setCell ⟨p, 2, none⟩ x2).setCell ⟨p, 3, none⟩ x3) :=
  (Below.setCell (p := ⟨p, 3, none⟩) (Below.setCell (p := ⟨p, 2, none⟩) (Below.setCell (p := ⟨p, 1, none⟩) (Below.setCell (p := ⟨p, 0, none⟩) h hp x0) hp x1) hp x2) hp x3)

set_option maxHeartbeats 1000000 in
theorem spanMask_any (s : Bool) (hi lo n : Int) (w : World) (h1 : 0 ≤ hi) (h2 : hi < 18446744073709551616) (h3 : 0 ≤ lo) (h4 : lo < 18446744073709551616) (hn1 : 0 ≤ n) (hn2 : n ≤ lenZ s) :
    Calls Tryz.prog 87 #[.agg #[.bool s, .int .u64 hi, .int .u64 lo], .int .i64 n] w (GivesV (maskV s hi lo n) w) := by
  have hl : lenZ s ≤ 128 := by cases s <;> decide
  obtain ⟨N, hN⟩ := Int.eq_ofNat_of_zero_le (show 0 ≤ lenZ s - n by omega)
  have hN' : N ≤ 128 := by omega
  obtain ⟨e1, e2⟩ := clr_halves hi lo N hN' h1 h2 h3 h4
  have HE := Lib.hid (show (Value.agg #[.bool s, .int .u64 (bits .andNot .u64 hi (onesH N : Int)), .int .u64 (bits .andNot .u64 lo (onesL N : Int)), .int .i64 n]) = maskV s hi lo n by rw [e1, e2]; unfold maskV; rw [hN, Int.toNat_natCast])
  clear e1 e2
  have hA := (Blk.new w [.bool s, .int .u64 hi, .int .u64 lo] 30).alloc (.cells #[.bool false, .int .u64 0, .int .u64 0, .int .i64 0] 35)
  have hB := Blk.new (w.alloc (.cells #[.bool s, .int .u64 hi, .int .u64 lo] 30)) [.bool false, .int .u64 0, .int .u64 0, .int .i64 0] 35
  simp at hB
  have hN2 := Lib.hid hN
  clear hN
  go_enter Tryz.func87, Tryz.ntmps87
  go_wp2_with fail
  refine (spanLength_any _ _).mono ?_
  rintro e w1 ⟨rfl, rfl⟩
  go_wp2_with fail
  rw [hN2.out]
  refine (ones_any _ hN' _).mono ?_
  rintro e w1 ⟨rfl, m, rfl⟩
  go_wp2_with fail
  refine bodyPost_ret ?_ rfl ⟨congrArg Ending.returned HE.out, ?_⟩
  · simp [results, Tryz.results87, go_sem]
  · exact below_four (belowN (((Below.refl _ _).alloc (Nat.le_refl _) _).alloc (by simp) _)) (by simp) _ _ _ _

abbrev zeroP : Value := .agg #[.bool false, .int .u64 0, .int .u64 0, .int .i64 0]
abbrev pfR (p : Value) (e : Int) : Value := .tuple #[p, .int .i64 e]

set_option maxHeartbeats 1000000 in
theorem mask_fault (s : Bool) (hi lo n : Int) (w : World) (hA : adF s hi lo ≠ 0) :
    Calls Tryz.prog 72 #[.agg #[.bool s, .int .u64 hi, .int .u64 lo], .int .i64 n] w (GivesV (pfR zeroP (adF s hi lo)) w) := by
  have hB := Blk.new (w.alloc (.cells #[.bool s, .int .u64 hi, .int .u64 lo] 30)) [.bool false, .int .u64 0, .int .u64 0, .int .i64 0] 35
  simp at hB
  have H1 : (adF s hi lo != 0) = true := by simp [hA]
  clear hA
  go_enter Tryz.func72, Tryz.ntmps72
  go_wp2_with fail
  refine (checkAddr_any _ _ _ _).mono ?_
  rintro e w1 ⟨rfl, hb1⟩
  obtain ⟨u0, u1, u2, u3, f0, f1, f2, f3⟩ := (hB.below hb1).four
  have hC1 : Below w.heap.size w w1 := (((Below.refl _ _).alloc (Nat.le_refl _) _).alloc (by simp) _).trans (hb1.mono (by simp; omega))
  clear hb1 hB
  go_wp2_with fail
  refine bodyPost_ret (v := pfR zeroP (adF s hi lo)) ?_ rfl ⟨rfl, ?_⟩
  · simp [results, Tryz.results72, go_sem, u0, u1, u2, u3]
  · exact below_four hC1 (by simp) _ _ _ _

set_option maxHeartbeats 1000000 in
theorem mask_range (s : Bool) (hi lo n : Int) (w : World) (hA : adF s hi lo = 0) (hn : n < 0 ∨ lenZ s < n) :
    Calls Tryz.prog 72 #[.agg #[.bool s, .int .u64 hi, .int .u64 lo], .int .i64 n] w (GivesV (pfR zeroP 1) w) := by
  have hD := (Blk.new w [.bool s, .int .u64 hi, .int .u64 lo] 30).alloc (.cells #[.bool false, .int .u64 0, .int .u64 0, .int .i64 0] 35)
  have hB := Blk.new (w.alloc (.cells #[.bool s, .int .u64 hi, .int .u64 lo] 30)) [.bool false, .int .u64 0, .int .u64 0, .int .i64 0] 35
  simp at hB
  have H1 : (adF s hi lo != 0) = false := by simp [hA]
  have HA := Lib.hid hA
  clear hA
  rcases hn with hn | hn
  · go_enter Tryz.func72, Tryz.ntmps72
    go_wp2_with fail
    refine (checkAddr_any _ _ _ _).mono ?_
    rintro e w1 ⟨rfl, hb1⟩
    obtain ⟨u0, u1, u2, u3, f0, f1, f2, f3⟩ := (hB.below hb1).four
    have hC1 : Below w.heap.size w w1 := (((Below.refl _ _).alloc (Nat.le_refl _) _).alloc (by simp) _).trans (hb1.mono (by simp; omega))
    clear hb1 hB
    go_wp2_with fail
    refine bodyPost_ret (v := pfR zeroP 1) ?_ rfl ⟨rfl, ?_⟩
    · simp [results, Tryz.results72, go_sem, u0, u1, u2, u3]
    · exact below_four hC1 (by simp) _ _ _ _
  · have hn' : ¬ n < 0 := by cases s <;> simp [lenZ] at hn <;> omega
    go_enter Tryz.func72, Tryz.ntmps72
    go_wp2_with fail
    refine (checkAddr_any _ _ _ _).mono ?_
    rintro e w1 ⟨rfl, hb1⟩
    obtain ⟨u0, u1, u2, u3, f0, f1, f2, f3⟩ := (hB.below hb1).four
    obtain ⟨a0, a1, a2, _⟩ := (hD.below hb1).three
    have hC1 : Below w.heap.size w w1 := (((Below.refl _ _).alloc (Nat.le_refl _) _).alloc (by simp) _).trans (hb1.mono (by simp; omega))
    clear hb1 hB hD
    go_wp2_with fail
    refine (spanLength_any _ _).mono ?_
    rintro e w2 ⟨rfl, rfl⟩
    go_wp2_with fail
    refine bodyPost_ret (v := pfR zeroP 1) ?_ rfl ⟨rfl, ?_⟩
    · simp [results, Tryz.results72, go_sem, u0, u1, u2, u3]
    · exact below_four hC1 (by simp) _ _ _ _

set_option maxHeartbeats 1000000 in
theorem mask_ok (s : Bool) (hi lo n : Int) (w : World) (h1 : 0 ≤ hi) (h2 : hi < 18446744073709551616) (h3 : 0 ≤ lo) (h4 : lo < 18446744073709551616) (hA : adF s hi lo = 0) (hn1 : 0 ≤ n) (hn2 : n ≤ lenZ s) :
    Calls Tryz.prog 72 #[.agg #[.bool s, .int .u64 hi, .int .u64 lo], .int .i64 n] w (GivesV (pfR (maskV s hi lo n) 0) w) := by
  have hD := (Blk.new w [.bool s, .int .u64 hi, .int .u64 lo] 30).alloc (.cells #[.bool false, .int .u64 0, .int .u64 0, .int .i64 0] 35)
  have hB := Blk.new (w.alloc (.cells #[.bool s, .int .u64 hi, .int .u64 lo] 30)) [.bool false, .int .u64 0, .int .u64 0, .int .i64 0] 35
  simp at hB
  have H1 : (adF s hi lo != 0) = false := by simp [hA]
  have HA := Lib.hid hA
  clear hA
  have hn' : ¬ n < 0 := by omega
  have hn'' : ¬ lenZ s < n := by omega
  go_enter Tryz.func72, Tryz.ntmps72
  go_wp2_with fail
  refine (checkAddr_any _ _ _ _).mono ?_
  rintro e w1 ⟨rfl, hb1⟩
  have hB1 := hB.below hb1
  obtain ⟨a0, a1, a2, _⟩ := (hD.below hb1).three
  have hC1 : Below w.heap.size w w1 := (((Below.refl _ _).alloc (Nat.le_refl _) _).alloc (by simp) _).trans (hb1.mono (by simp; omega))
  clear hb1 hB hD
  go_wp2_with fail
  refine (spanLength_any _ _).mono ?_
  rintro e w2 ⟨rfl, rfl⟩
  go_wp2_with fail
  refine (spanMask_any _ _ _ _ _ h1 h2 h3 h4 hn1 hn2).mono ?_
  rintro e w2 ⟨rfl, hb2⟩
  obtain ⟨u0, u1, u2, u3, f0, f1, f2, f3⟩ := (hB1.below hb2).four
  have hC2 := hC1.trans (hb2.mono hC1.size)
  clear hb2 hB1 hC1
  go_wp2_with fail
  refine bodyPost_ret (v := pfR (maskV s hi lo n) 0) ?_ rfl ⟨rfl, ?_⟩
  · simp [results, Tryz.results72, go_sem, u0, u1, u2, u3]
  · exact below_four hC2 (by simp) _ _ _ _

theorem mask_same (hi lo : Int) (k : Nat) (h1 : 0 ≤ hi) (h3 : 0 ≤ lo) (h4 : lo < 18446744073709551616) (h : clr (num hi lo) k = num hi lo) :
    ((clr (num hi lo) k / 2 ^ 64 : Nat) : Int) = hi ∧ ((clr (num hi lo) k % 2 ^ 64 : Nat) : Int) = lo := by
  rw [h, num_div hi lo h4, num_mod hi lo h4]
  exact ⟨Int.toNat_of_nonneg h1, Int.toNat_of_nonneg h3⟩

theorem mask_other (hi lo : Int) (k : Nat) (h4 : lo < 18446744073709551616) (h : ¬ clr (num hi lo) k = num hi lo) (a : ((clr (num hi lo) k / 2 ^ 64 : Nat) : Int) = hi) :
    ¬ ((clr (num hi lo) k % 2 ^ 64 : Nat) : Int) = lo := by
  intro b
  have e1 := num_div hi lo h4
  have e2 := num_mod hi lo h4
  generalize clr (num hi lo) k = C at *
  generalize hV : num hi lo = V at *
  omega

set_option maxHeartbeats 1000000 in
theorem checkPrefix_fault (s : Bool) (hi lo n : Int) (w : World) (hA : adF s hi lo ≠ 0) :
    Calls Tryz.prog 37 #[.agg #[.bool s, .int .u64 hi, .int .u64 lo, .int .i64 n]] w (GivesV (.int .i64 (pfF s hi lo n)) w) := by
  have H := Lib.hid (show pfF s hi lo n = adF s hi lo by unfold pfF; rw [if_pos hA]; rcases adF_two s hi lo with h | h <;> simp_all)
  have H1 : (adF s hi lo == 0) = false := by simp [hA]
  have HM := fun w' => Lib.hid (mask_fault s hi lo n w' hA)
  clear hA
  go_enter Tryz.func37, Tryz.ntmps37
  go_wp2_with fail
  refine (HM _).out.mono ?_
  rintro e w1 ⟨rfl, hb1⟩
  have hC1 : Below w.heap.size w w1 := ((Below.refl _ _).alloc (Nat.le_refl _) _).trans (hb1.mono (by simp))
  clear hb1
  go_wp2_with fail
  go_ret
  exact ⟨by rw [H.out]; rfl, hC1.alloc hC1.size _⟩

set_option maxHeartbeats 1000000 in
theorem checkPrefix_range (s : Bool) (hi lo n : Int) (w : World) (hA : adF s hi lo = 0) (hn : n < 0 ∨ lenZ s < n) :
    Calls Tryz.prog 37 #[.agg #[.bool s, .int .u64 hi, .int .u64 lo, .int .i64 n]] w (GivesV (.int .i64 (pfF s hi lo n)) w) := by
  have H := Lib.hid (show pfF s hi lo n = 1 by unfold pfF; rw [if_neg (by simp [hA]), if_pos (show inB n 0 (lenZ s) = false from decide_eq_false (by omega))])
  have HM := fun w' => Lib.hid (mask_range s hi lo n w' hA hn)
  clear hA hn
  go_enter Tryz.func37, Tryz.ntmps37
  go_wp2_with fail
  refine (HM _).out.mono ?_
  rintro e w1 ⟨rfl, hb1⟩
  have hC1 : Below w.heap.size w w1 := ((Below.refl _ _).alloc (Nat.le_refl _) _).trans (hb1.mono (by simp))
  clear hb1
  go_wp2_with fail
  go_ret
  exact ⟨by rw [H.out]; rfl, hC1.alloc hC1.size _⟩

set_option maxHeartbeats 1000000 in
theorem checkPrefix_ok (s : Bool) (hi lo n : Int) (w : World) (h1 : 0 ≤ hi) (h2 : hi < 18446744073709551616) (h3 : 0 ≤ lo) (h4 : lo < 18446744073709551616) (hA : adF s hi lo = 0) (hn1 : 0 ≤ n) (hn2 : n ≤ lenZ s) :
    Calls Tryz.prog 37 #[.agg #[.bool s, .int .u64 hi, .int .u64 lo, .int .i64 n]] w (GivesV (.int .i64 (pfF s hi lo n)) w) := by
  obtain ⟨MH, hMH⟩ : ∃ x : Int, x = ((clr (num hi lo) (lenZ s - n).toNat / 2 ^ 64 : Nat) : Int) := ⟨_, rfl⟩
  obtain ⟨ML, hML⟩ : ∃ x : Int, x = ((clr (num hi lo) (lenZ s - n).toNat % 2 ^ 64 : Nat) : Int) := ⟨_, rfl⟩
  have HM : ∀ w', Hid (Calls Tryz.prog 72 #[.agg #[.bool s, .int .u64 hi, .int .u64 lo], .int .i64 n] w' (GivesV (pfR (.agg #[.bool s, .int .u64 MH, .int .u64 ML, .int .i64 n]) 0) w')) := fun w' => by
    rw [hMH, hML]; exact mask_ok s hi lo n w' h1 h2 h3 h4 hA hn1 hn2
  have hI : inB n 0 (lenZ s) = true := decide_eq_true ⟨hn1, hn2⟩
  have hB := Blk.new w [.bool s, .int .u64 hi, .int .u64 lo, .int .i64 n] 35
  by_cases hC : clr (num hi lo) (lenZ s - n).toNat = num hi lo
  · have H := Lib.hid (show pfF s hi lo n = 0 by unfold pfF; rw [if_neg (by simp [hA]), if_neg (by rw [hI]; decide), if_pos hC])
    obtain ⟨a, b⟩ := mask_same hi lo (lenZ s - n).toNat h1 h3 h4 hC
    obtain rfl : MH = hi := hMH.trans a
    obtain rfl : ML = lo := hML.trans b
    clear hA hC hI h1 h2 h3 h4 hMH hML a b
    go_enter Tryz.func37, Tryz.ntmps37
    go_wp2_with fail
    refine (HM _).out.mono ?_
    rintro e w1 ⟨rfl, hb1⟩
    obtain ⟨u0, u1, u2, u3, _⟩ := (hB.below hb1).four
    have hz1 := hb1.size
    simp at hz1
    have hx1 : w.heap.size < w1.heap.size := by omega
    have hC1 : Below w.heap.size w w1 := ((Below.refl _ _).alloc (Nat.le_refl _) _).trans (hb1.mono (by simp))
    clear hb1 hB
    go_wp2_with fail
    go_ret
    exact ⟨by rw [H.out]; rfl, hC1.alloc hC1.size _⟩
  · have H := Lib.hid (show pfF s hi lo n = 3 by unfold pfF; rw [if_neg (by simp [hA]), if_neg (by rw [hI]; decide), if_neg hC])
    by_cases hE : MH = hi
    · have hne : ¬ ML = lo := by rw [hML]; exact mask_other hi lo _ h4 hC (by rw [← hMH]; exact hE)
      subst hE
      clear hA hC hI h1 h2 h3 h4 hMH hML
      go_enter Tryz.func37, Tryz.ntmps37
      go_wp2_with fail
      refine (HM _).out.mono ?_
      rintro e w1 ⟨rfl, hb1⟩
      obtain ⟨u0, u1, u2, u3, _⟩ := (hB.below hb1).four
      have hz1 := hb1.size
      simp at hz1
      have hx1 : w.heap.size < w1.heap.size := by omega
      have hC1 : Below w.heap.size w w1 := ((Below.refl _ _).alloc (Nat.le_refl _) _).trans (hb1.mono (by simp))
      clear hb1 hB
      go_wp2_with fail
      go_ret
      exact ⟨by rw [H.out]; rfl, hC1.alloc hC1.size _⟩
    · clear hA hC hI h1 h2 h3 h4 hMH hML
      go_enter Tryz.func37, Tryz.ntmps37
      go_wp2_with fail
      refine (HM _).out.mono ?_
      rintro e w1 ⟨rfl, hb1⟩
      obtain ⟨u0, u1, u2, u3, _⟩ := (hB.below hb1).four
      have hz1 := hb1.size
      simp at hz1
      have hx1 : w.heap.size < w1.heap.size := by omega
      have hC1 : Below w.heap.size w w1 := ((Below.refl _ _).alloc (Nat.le_refl _) _).trans (hb1.mono (by simp))
      clear hb1 hB
      go_wp2_with fail
      go_ret
      exact ⟨by rw [H.out]; rfl, hC1.alloc hC1.size _⟩

theorem checkPrefix_any (s : Bool) (hi lo n : Int) (w : World) (h1 : 0 ≤ hi) (h2 : hi < 18446744073709551616) (h3 : 0 ≤ lo) (h4 : lo < 18446744073709551616) :
    Calls Tryz.prog 37 #[.agg #[.bool s, .int .u64 hi, .int .u64 lo, .int .i64 n]] w (GivesV (.int .i64 (pfF s hi lo n)) w) := by
  by_cases hA : adF s hi lo = 0
  · by_cases hn : n < 0 ∨ lenZ s < n
    · exact checkPrefix_range s hi lo n w hA hn
    · exact checkPrefix_ok s hi lo n w h1 h2 h3 h4 hA (by omega) (by omega)
  · exact checkPrefix_fault s hi lo n w hA

def firstZ : List Int → Int
  | [] => 0
  | e :: r => if e = 0 then firstZ r else e

set_option maxHeartbeats 1000000 in
theorem errs_any (l : List Int) (p cap : Nat) (w : World) (hz : ∀ i, i < l.length → w.cell? ⟨p, i, none⟩ = some (.int .i64 (l.getD i 0))) (hl : l.length ≤ 100) :
    Calls Tryz.prog 14 #[.slice (some ⟨p, 0, none⟩) l.length cap] w fun e w' => e = .returned (.int .i64 (firstZ l)) ∧ w = w' := by
  go_enter Tryz.func14, Tryz.ntmps14
  go_wp2_with fail
  go_loop [7] (fun c => ∃ k : Nat, k ≤ l.length ∧ c = .int .i64 k ∧ firstZ (l.drop k) = firstZ l) (fun c => l.length - (intOf c).toNat)
  case atStart => exact ⟨0, Nat.zero_le _, rfl, rfl⟩
  case round =>
    obtain ⟨k, hk, rfl, hf⟩ := hrel
    have HF := Lib.hid hf
    clear hf
    by_cases hlt : k < l.length
    · have hc := hz k hlt
      have HD := Lib.hid (show firstZ (l.drop k) = if l.getD k 0 = 0 then firstZ (l.drop (k + 1)) else l.getD k 0 by rw [List.drop_eq_getElem_cons hlt, firstZ, List.getD_eq_getElem?_getD, List.getElem?_eq_getElem hlt]; rfl)
      generalize l.getD k 0 = x at hc HD
      clear hz
      by_cases hx : x = 0
      · have HX := Lib.hid hx
        have b0 : (x != 0) = false := by simp [hx]
        clear hx
        go_wp2_with fail
        go_round
        case rel => exact ⟨k + 1, by omega, by go_num, by rw [← HF.out, HD.out, if_pos HX.out]⟩
        case measure => simp [intOf]; omega
      · have HX := Lib.hid hx
        have b0 : (x != 0) = true := by simp [hx]
        clear hx
        go_wp2_with fail
        go_ret
        exact ⟨by rw [← HF.out, HD.out, if_neg HX.out]; rfl, rfl⟩
    · have hkl : k = l.length := by omega
      have HK := Lib.hid hkl
      clear hkl hz
      go_wp2_with fail
      go_ret
      exact ⟨by rw [← HF.out, HK.out, List.drop_length]; rfl, rfl⟩
end Go.Proofs.YtfpcalgkfagjkaaGreatDoor
