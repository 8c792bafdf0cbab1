/- The order of addresses, as the program and as the reference have it. -/
import Derived.Test.YtfpcalgkfagjkaaGreatDoorKrGzA
import Derived.Test.YtfpcalgkfagjkaaGreatDoorKrPfxD
namespace Go.Proofs.YtfpcalgkfagjkaaGreatDoor
open Go.RowKit

theorem orI_any (l : List Int) (p cap : Nat) (w : World) (hz : ∀ i, i < l.length → w.cell? ⟨p, i, none⟩ = some (.int .i64 (l.getD i 0))) (hl : l.length ≤ 100) :
    Calls Tryz.prog 75 #[.slice (some ⟨p, 0, none⟩) l.length cap] w fun e w' => e = .returned (.int .i64 (firstZ l)) ∧ w = w' := by
  go_enter Tryz.func75, Tryz.ntmps75
  go_wp2_with fail
  go_loop [8] (fun c => ∃ k : Nat, k ≤ l.length ∧ c = .int .i64 k ∧ firstZ (l.drop k) = firstZ l) (fun c => l.length - (intOf c).toNat)
  case atStart => exact ⟨0, Nat.zero_le _, rfl, rfl⟩
  case round =>
    obtain ⟨k, hk, rfl, hf⟩ := hrel
    have HF := Lib.hid hf
    clear hf
    by_cases hlt : k < l.length
    · have hc := hz k hlt
      have HD := Lib.hid (show firstZ (l.drop k) = if l.getD k 0 = 0 then firstZ (l.drop (k + 1)) else l.getD k 0 by rw [List.drop_eq_getElem_cons hlt, firstZ, List.getD_eq_getElem?_getD, List.getElem?_eq_getElem hlt]; rfl)
      generalize l.getD k 0 = x at hc HD
      clear hz
      by_cases hx : x = 0
      · have HX := Lib.hid hx
        have b0 : (x != 0) = false := by simp [hx]
        clear hx
        go_wp2_with fail
        go_round
        case rel => exact ⟨k + 1, by omega, by go_num, by rw [← HF.out, HD.out, if_pos HX.out]⟩
        case measure => simp [intOf]; omega
      · have HX := Lib.hid hx
        have b0 : (x != 0) = true := by simp [hx]
        clear hx
        go_wp2_with fail
        go_ret
        exact ⟨by rw [← HF.out, HD.out, if_neg HX.out]; rfl, rfl⟩
    · have hkl : k = l.length := by omega
      have HK := Lib.hid hkl
      clear hkl hz
      go_wp2_with fail
      go_ret
      exact ⟨by rw [← HF.out, HK.out, List.drop_length]; rfl, rfl⟩

def cmpZ (x y : Int) : Int := if x < y then -1 else if y < x then 1 else 0

set_option maxHeartbeats 400000 in
theorem isNaN_any (x : Int) (w : World) : Calls Tryz.prog 120 #[.int .u64 x] w fun e w' => e = .returned (.bool false) ∧ w = w' := by
  go_enter Tryz.func120, Tryz.ntmps120
  go_wp2
  go_ret
  exact ⟨rfl, rfl⟩

set_option maxHeartbeats 400000 in
theorem cmpU_any (x y : Int) (w : World) : Calls Tryz.prog 90 #[.int .u64 x, .int .u64 y] w fun e w' => e = .returned (.int .i64 (cmpZ x y)) ∧ w = w' := by
  have hn : x < y ∨ (¬ x < y ∧ y < x) ∨ (¬ x < y ∧ ¬ y < x) := by omega
  rcases hn with a | ⟨a, b⟩ | ⟨a, b⟩
  · have H := Lib.hid (show cmpZ x y = -1 from if_pos a)
    go_enter Tryz.func90, Tryz.ntmps90
    go_wp2_with (go_at_call 120; refine (isNaN_any _ _).mono ?_; rintro e w' ⟨rfl, rfl⟩)
    go_ret
    exact ⟨ret_i64 H.out.symm, rfl⟩
  · have H := Lib.hid (show cmpZ x y = 1 by unfold cmpZ; rw [if_neg a, if_pos b])
    go_enter Tryz.func90, Tryz.ntmps90
    go_wp2_with (go_at_call 120; refine (isNaN_any _ _).mono ?_; rintro e w' ⟨rfl, rfl⟩)
    go_ret
    exact ⟨ret_i64 H.out.symm, rfl⟩
  · have H := Lib.hid (show cmpZ x y = 0 by unfold cmpZ; rw [if_neg a, if_neg b])
    go_enter Tryz.func90, Tryz.ntmps90
    go_wp2_with (go_at_call 120; refine (isNaN_any _ _).mono ?_; rintro e w' ⟨rfl, rfl⟩)
    go_ret
    exact ⟨ret_i64 H.out.symm, rfl⟩

theorem cmpW_halves (hi lo h l : Int) (s : Bool) (h1 : 0 ≤ hi) (h2 : hi < 18446744073709551616) (h3 : 0 ≤ lo) (h4 : lo < 18446744073709551616)
    (k1 : 0 ≤ h) (k2 : h < 18446744073709551616) (k3 : 0 ≤ l) (k4 : l < 18446744073709551616) : firstZ [cmpZ hi h, cmpZ lo l] = cmpW (num hi lo) s (num h l) s := by
  rw [firstZ_two]
  unfold cmpZ cmpW num
  rw [if_pos rfl]
  by_cases a : hi < h
  · rw [if_pos a, if_neg (by decide), if_pos (by omega)]
  · rw [if_neg a]
    by_cases b : h < hi
    · rw [if_pos b, if_neg (by decide), if_neg (by omega), if_neg (by omega)]
    · rw [if_neg b, if_pos rfl]
      have e : hi = h := by omega
      subst e
      by_cases c : lo < l
      · rw [if_pos c, if_pos (by omega)]
      · rw [if_neg c]
        by_cases d : l < lo
        · rw [if_pos d, if_neg (by omega), if_neg (by omega)]
        · rw [if_neg d, if_neg (by omega), if_pos (by omega)]

set_option linter.unusedSimpArgs false in
set_option maxHeartbeats 1000000 in
theorem order_any (s : Bool) (hi lo : Int) (t : Bool) (h l : Int) (w : World) (h1 : 0 ≤ hi) (h2 : hi < 18446744073709551616) (h3 : 0 ≤ lo) (h4 : lo < 18446744073709551616)
    (k1 : 0 ≤ h) (k2 : h < 18446744073709551616) (k3 : 0 ≤ l) (k4 : l < 18446744073709551616) :
    Calls Tryz.prog 56 #[.agg #[.bool s, .int .u64 hi, .int .u64 lo], .agg #[.bool t, .int .u64 h, .int .u64 l]] w (GivesV (.int .i64 (cmpW (num hi lo) s (num h l) t)) w) := by
  have HF : Hid (∀ u, ((w.alloc (.cells #[.bool s, .int .u64 hi, .int .u64 lo] 30)).alloc (.cells #[.bool t, .int .u64 h, .int .u64 l] 30)).grownBy u none → _) :=
    Lib.hid fun u hu => And.intro ((blk2 w [.bool s, .int .u64 hi, .int .u64 lo] [.bool t, .int .u64 h, .int .u64 l] _ _).1.gn hu).three ((blk2 w [.bool s, .int .u64 hi, .int .u64 lo] [.bool t, .int .u64 h, .int .u64 l] _ _).2.gn hu).three
  have hB := gb_refl ((w.alloc (.cells #[.bool s, .int .u64 hi, .int .u64 lo] 30)).alloc (.cells #[.bool t, .int .u64 h, .int .u64 l] 30)) none
  have HA := fun w' => Lib.hid (of_any s hi lo w' h1 h2 h3 h4)
  have HC := fun w' => Lib.hid (of_any t h l w' k1 k2 k3 k4)
  have HM := fun w' => Lib.hid (cmp_any (num hi lo) s (num h l) t w' (num_lt h2 h4) (num_lt k2 k4))
  generalize num hi lo = V at *
  generalize num h l = U at *
  generalize cmpW V s U t = c at *
  go_enter Tryz.func56, Tryz.ntmps56
  go_wp2_with fail
  refine ways_begin (none) (by kernel_rfl) ?_
  replace hB := gb_drew hB
  refine ways_take (i := 0) (d := some 5) (v := ?_) (by simp only [gzA, gzB, gzC] <;> rfl) (by rfl) (by kernel_rfl) (by kernel_rfl) (by kernel_rfl) (fun _ _ _ h => h) (by rfl) ?_ ?_; rotate_left; · (intro u hu; obtain ⟨⟨c0, c1, c2, _⟩, ⟨d0, d1, d2, _⟩⟩ := HF.out u (gb_trans hB hu); go_simp; try with_reducible rfl)
  try simp only [Act.put, gzD, gzE, gzF]
  refine ways_take (i := 2) (d := some 7) (v := ?_) (by simp only [gzA, gzB, gzC] <;> rfl) (by rfl) (by kernel_rfl) (by kernel_rfl) (by kernel_rfl) (fun _ _ _ h => h) (by rfl) ?_ ?_; rotate_left; · (intro u hu; obtain ⟨⟨c0, c1, c2, _⟩, ⟨d0, d1, d2, _⟩⟩ := HF.out u (gb_trans hB hu); go_simp; try with_reducible rfl)
  try simp only [Act.put, gzD, gzE, gzF]
  refine ways_one (i := 1) (by simp only [gzA, gzB, gzC] <;> rfl) (by kernel_rfl) (by rfl) (fun u hu K hK => ?_)
  replace hB := gb_trans hB hu
  go_simp
  refine ((HA _).out).mono ?_
  rintro e w101 ⟨rfl, hb1⟩
  have hg1 := gbB (r := none) hb1
  refine hK.out _ _ hg1 ?_
  replace hB := gb_trans hB hg1
  clear hK K hu
  try simp only [Act.put, gzD, gzE, gzF]
  refine ways_one (i := 3) (by simp only [gzA, gzB, gzC] <;> rfl) (by kernel_rfl) (by rfl) (fun u hu K hK => ?_)
  replace hB := gb_trans hB hu
  go_simp
  refine ((HC _).out).mono ?_
  rintro e w103 ⟨rfl, hb3⟩
  have hg3 := gbB (r := none) hb3
  refine hK.out _ _ hg3 ?_
  replace hB := gb_trans hB hg3
  clear hK K hu
  try simp only [Act.put, gzD, gzE, gzF]
  refine ways_one (i := 4) (by simp only [gzA, gzB, gzC] <;> rfl) (by kernel_rfl) (by rfl) (fun u hu K hK => ?_)
  replace hB := gb_trans hB hu
  go_simp
  refine ((HM _).out).mono ?_
  rintro e w104 ⟨rfl, hb4⟩
  have hg4 := gbB (r := none) hb4
  refine hK.out _ _ hg4 ?_
  replace hB := gb_trans hB hg4
  clear hK K hu
  try simp only [Act.put, gzD, gzE, gzF]
  refine ways_take (i := 5) (d := some 4) (v := ?_) (by simp only [gzA, gzB, gzC] <;> rfl) (by rfl) (by kernel_rfl) (by kernel_rfl) (by kernel_rfl) (fun _ _ _ h => h) (by rfl) ?_ ?_; rotate_left; · (intro u hu; go_simp; try with_reducible rfl)
  try simp only [Act.put, gzD, gzE, gzF]
  refine ways_done (by kernel_rfl) (fun u hu => ?_) _
  replace hB := gb_trans hB hu
  clear hu
  go_wp2_with fail
  go_ret
  exact ⟨rfl, below_gb2 hB⟩
end Go.Proofs.YtfpcalgkfagjkaaGreatDoor
