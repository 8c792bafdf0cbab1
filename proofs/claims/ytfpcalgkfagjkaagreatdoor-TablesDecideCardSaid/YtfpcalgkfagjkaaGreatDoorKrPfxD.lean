/- Prefixes: sign, cmp, lastOf, LastOf of the reference. -/
import Derived.Test.YtfpcalgkfagjkaaGreatDoorKrGzA
import Derived.Test.YtfpcalgkfagjkaaGreatDoorKrPfxC
import Derived.Test.YtfpcalgkfagjkaaGreatDoorKrPfxM
set_option linter.unusedVariables false
set_option linter.unusedSimpArgs false
namespace Go.Proofs.YtfpcalgkfagjkaaGreatDoor
open Go.RowKit

def sgn (n : Int) : Int := if n < 0 then -1 else if 0 < n then 1 else 0
theorem sign_any (n : Int) (w : World) : Calls Tryz.prog 71 #[.int .i64 n] w fun e w' => e = .returned (.int .i64 (sgn n)) ∧ w = w' := by
  have hn : n < 0 ∨ (¬ n < 0 ∧ 0 < n) ∨ (¬ n < 0 ∧ ¬ 0 < n) := by omega
  rcases hn with a | ⟨a, b⟩ | ⟨a, b⟩
  · have H := Lib.hid (show sgn n = -1 from if_pos a)
    go_enter Tryz.func71, Tryz.ntmps71
    go_wp2_with fail
    go_ret
    exact ⟨by rw [H.out]; rfl, rfl⟩
  · have H := Lib.hid (show sgn n = 1 by unfold sgn; rw [if_neg a, if_pos b])
    go_enter Tryz.func71, Tryz.ntmps71
    go_wp2_with fail
    go_ret
    exact ⟨by rw [H.out]; rfl, rfl⟩
  · have H := Lib.hid (show sgn n = 0 by unfold sgn; rw [if_neg a, if_neg b])
    go_enter Tryz.func71, Tryz.ntmps71
    go_wp2_with fail
    go_ret
    exact ⟨by rw [H.out]; rfl, rfl⟩

theorem ret_i64 {a b : Int} (h : a = b) : Ending.returned (.int .i64 a) = Ending.returned (.int .i64 b) := by rw [h]

theorem cmp_step (A : Nat) (s : Bool) (B : Nat) (t : Bool) (j : Nat) (hj : j < 9) (hA : A < 2 ^ 128) (hB : B < 2 ^ 128) (hq : j = 8 ∨ (s = t ∧ A / 2 ^ (16 * (j + 1)) = B / 2 ^ (16 * (j + 1)))) :
    ∃ X Y : Int, (0 ≤ X ∧ X < 65536) ∧ (0 ≤ Y ∧ Y < 65536) ∧ (digL A s)[j]? = some (.int .i64 X) ∧ (digL B t)[j]? = some (.int .i64 Y) ∧
      (X = Y → s = t ∧ A / 2 ^ (16 * j) = B / 2 ^ (16 * j)) ∧ (X ≠ Y → sgn (X - Y) = cmpW A s B t) := by
  by_cases h8 : j = 8
  · subst h8
    refine ⟨b2i s, b2i t, by cases s <;> decide, by cases t <;> decide, rfl, rfl, fun h => ⟨?_, ?_⟩, fun h => ?_⟩
    · cases s <;> cases t <;> simp_all [b2i]
    · rw [Nat.div_eq_of_lt hA, Nat.div_eq_of_lt hB]
    · cases s <;> cases t <;> simp_all [b2i, sgn, cmpW]
  · have hq' : s = t ∧ A / 2 ^ (16 * (j + 1)) = B / 2 ^ (16 * (j + 1)) := by
      rcases hq with h | h
      · exact absurd h h8
      · exact h
    clear hq
    obtain ⟨rfl, hq⟩ := hq'
    have hd1 := dig_lt A j
    have hd2 := dig_lt B j
    obtain ⟨p1, p2, p3⟩ := top_step A B j hq
    refine ⟨dig A j, dig B j, by omega, by omega, digL_get _ _ _ (by omega), digL_get _ _ _ (by omega), fun h => ⟨rfl, p1 (by omega)⟩, fun h => ?_⟩
    unfold cmpW sgn
    rw [if_pos rfl]
    rcases Nat.lt_or_ge (dig A j) (dig B j) with g | g
    · rw [if_pos (by omega), if_pos (p2 g)]
    · have g' : dig B j < dig A j := by omega
      have := p3 g'
      rw [if_neg (by omega), if_pos (by omega), if_neg (by omega), if_neg (by omega)]

set_option linter.unusedSimpArgs false in
set_option maxHeartbeats 2000000 in
theorem cmp_any (A : Nat) (s : Bool) (B : Nat) (t : Bool) (w : World) (hA : A < 2 ^ 128) (hB : B < 2 ^ 128) :
    Calls Tryz.prog 49 #[wV A s, wV B t] w (GivesV (.int .i64 (cmpW A s B t)) w) := by
  have hl1 := (blk2 w (digL A s) (digL B t) 77 77).1
  have hl2 := (blk2 w (digL A s) (digL B t) 77 77).2
  have hBl : Below w.heap.size w ((w.alloc (.cells (digL A s).toArray 77)).alloc (.cells (digL B t).toArray 77)) := below_two _ _ _
  go_enter Tryz.func49, Tryz.ntmps49
  go_wp2_with fail
  go_loopw [5] (fun c wr => ∃ m : Int, -1 ≤ m ∧ m ≤ 8 ∧ c = .int .i64 m ∧ (m = 8 ∨ (s = t ∧ A / 2 ^ (16 * (m + 1).toNat) = B / 2 ^ (16 * (m + 1).toNat))) ∧ Blk wr w.heap.size (digL A s) 77 ∧ Blk wr (w.heap.size + 1) (digL B t) 77 ∧ Below w.heap.size w wr) (fun c _ => (intOf c + 1).toNat)
  case atStart => exact ⟨8, by omega, by omega, rfl, .inl rfl, hl1, hl2, hBl⟩
  case round =>
    clear hl1 hl2 hBl
    obtain ⟨m, hm1, hm2, rfl, hq, hx, hy, hb⟩ := hrel
    by_cases h0 : m < 0
    · have H := Lib.hid (show cmpW A s B t = 0 by
        obtain rfl : m = -1 := by omega
        rcases hq with h | ⟨h1, h2⟩
        · omega
        · simp at h2
          unfold cmpW; rw [if_pos h1, if_neg (by omega), if_pos h2])
      clear hq
      go_wp2_with fail
      go_ret
      exact ⟨ret_i64 H.out.symm, hb⟩
    · obtain ⟨j, rfl⟩ := Int.eq_ofNat_of_zero_le (show 0 ≤ m by omega)
      obtain ⟨X, Y, ⟨a1, a2⟩, ⟨b1, b2⟩, d1, d2, e1, e2⟩ := cmp_step A s B t j (by omega) hA hB (by
        rcases hq with h | h
        · exact .inl (by omega)
        · rw [show ((j : Int) + 1).toNat = j + 1 by omega] at h; exact .inr h)
      have HF : Hid (∀ u, wr.grownBy u none → _) := Lib.hid fun u hu => And.intro ((hx.gn hu).cell d1) ((hy.gn hu).cell d2)
      have hB := gb_refl wr none
      have E1 := Lib.hid e1
      have E2 := Lib.hid e2
      have hz := hb.size
      have hj0 : (0 : Int) ≤ j := by omega
      have hj9 : (j : Int) < 9 := by omega
      have hS : IntKind.i64.wrap (X - Y) = X - Y := IntWalk.i64_in _ (by omega)
      clear hq d1 d2 e1 e2
      by_cases hXY : X = Y
      · have c0 : (X != Y) = false := by simp [hXY]
        have HXY := Lib.hid hXY
        clear hXY
        go_wp2_with fail
        refine ways_begin (none) (by kernel_rfl) ?_
        replace hB := gb_drew hB
        refine ways_take (i := 0) (d := some 10) (v := ?_) (by simp only [gzA, gzB, gzC] <;> rfl) (by rfl) (by kernel_rfl) (by kernel_rfl) (by kernel_rfl) (fun _ _ _ h => h) (by rfl) ?_ ?_; rotate_left; · (intro u hu; go_simp; try with_reducible rfl)
        try simp only [Act.put, gzD, gzE, gzF]
        refine ways_take (i := 1) (d := some 11) (v := ?_) (by simp only [gzA, gzB, gzC] <;> rfl) (by rfl) (by kernel_rfl) (by kernel_rfl) (by kernel_rfl) (fun _ _ _ h => h) (by rfl) ?_ ?_; rotate_left; · (intro u hu; go_simp; try with_reducible rfl)
        try simp only [Act.put, gzD, gzE, gzF]
        refine ways_take (i := 2) (d := some 12) (v := ?_) (by simp only [gzA, gzB, gzC] <;> rfl) (by rfl) (by kernel_rfl) (by kernel_rfl) (by kernel_rfl) (fun _ _ _ h => h) (by rfl) ?_ ?_; rotate_left; · (intro u hu; obtain ⟨x0, y0⟩ := HF.out u (gb_trans hB hu); go_simp; try with_reducible rfl)
        try simp only [Act.put, gzD, gzE, gzF]
        refine ways_take (i := 3) (d := some 13) (v := ?_) (by simp only [gzA, gzB, gzC] <;> rfl) (by rfl) (by kernel_rfl) (by kernel_rfl) (by kernel_rfl) (fun _ _ _ h => h) (by rfl) ?_ ?_; rotate_left; · (intro u hu; go_simp; try with_reducible rfl)
        try simp only [Act.put, gzD, gzE, gzF]
        refine ways_take (i := 4) (d := some 14) (v := ?_) (by simp only [gzA, gzB, gzC] <;> rfl) (by rfl) (by kernel_rfl) (by kernel_rfl) (by kernel_rfl) (fun _ _ _ h => h) (by rfl) ?_ ?_; rotate_left; · (intro u hu; go_simp; try with_reducible rfl)
        try simp only [Act.put, gzD, gzE, gzF]
        refine ways_take (i := 5) (d := some 15) (v := ?_) (by simp only [gzA, gzB, gzC] <;> rfl) (by rfl) (by kernel_rfl) (by kernel_rfl) (by kernel_rfl) (fun _ _ _ h => h) (by rfl) ?_ ?_; rotate_left; · (intro u hu; obtain ⟨x0, y0⟩ := HF.out u (gb_trans hB hu); go_simp; try with_reducible rfl)
        try simp only [Act.put, gzD, gzE, gzF]
        refine ways_take (i := 6) (d := some 16) (v := ?_) (by simp only [gzA, gzB, gzC] <;> rfl) (by rfl) (by kernel_rfl) (by kernel_rfl) (by kernel_rfl) (fun _ _ _ h => h) (by rfl) ?_ ?_; rotate_left; · (intro u hu; go_simp; try with_reducible rfl)
        try simp only [Act.put, gzD, gzE, gzF]
        refine ways_done (by kernel_rfl) (fun u hu => ?_) _
        replace hB := gb_trans hB hu
        clear hu
        go_wp2_with fail
        refine ⟨⟨(j : Int) - 1, by omega, by omega, rfl, .inr ?_, hx.gn hB, hy.gn hB, hb.trans ((gb2B hB).mono hz)⟩, by simp [intOf]⟩
        rw [show ((j : Int) - 1 + 1).toNat = j by omega]
        exact E1.out HXY.out
      · have c0 : (X != Y) = true := by simp [hXY]
        have H := Lib.hid (E2.out hXY)
        clear hXY E1 E2
        go_wp2_with fail
        refine ways_begin (none) (by kernel_rfl) ?_
        replace hB := gb_drew hB
        refine ways_take (i := 0) (d := some 10) (v := ?_) (by simp only [gzA, gzB, gzC] <;> rfl) (by rfl) (by kernel_rfl) (by kernel_rfl) (by kernel_rfl) (fun _ _ _ h => h) (by rfl) ?_ ?_; rotate_left; · (intro u hu; go_simp; try with_reducible rfl)
        try simp only [Act.put, gzD, gzE, gzF]
        refine ways_take (i := 1) (d := some 11) (v := ?_) (by simp only [gzA, gzB, gzC] <;> rfl) (by rfl) (by kernel_rfl) (by kernel_rfl) (by kernel_rfl) (fun _ _ _ h => h) (by rfl) ?_ ?_; rotate_left; · (intro u hu; go_simp; try with_reducible rfl)
        try simp only [Act.put, gzD, gzE, gzF]
        refine ways_take (i := 2) (d := some 12) (v := ?_) (by simp only [gzA, gzB, gzC] <;> rfl) (by rfl) (by kernel_rfl) (by kernel_rfl) (by kernel_rfl) (fun _ _ _ h => h) (by rfl) ?_ ?_; rotate_left; · (intro u hu; obtain ⟨x0, y0⟩ := HF.out u (gb_trans hB hu); go_simp; try with_reducible rfl)
        try simp only [Act.put, gzD, gzE, gzF]
        refine ways_take (i := 3) (d := some 13) (v := ?_) (by simp only [gzA, gzB, gzC] <;> rfl) (by rfl) (by kernel_rfl) (by kernel_rfl) (by kernel_rfl) (fun _ _ _ h => h) (by rfl) ?_ ?_; rotate_left; · (intro u hu; go_simp; try with_reducible rfl)
        try simp only [Act.put, gzD, gzE, gzF]
        refine ways_take (i := 4) (d := some 14) (v := ?_) (by simp only [gzA, gzB, gzC] <;> rfl) (by rfl) (by kernel_rfl) (by kernel_rfl) (by kernel_rfl) (fun _ _ _ h => h) (by rfl) ?_ ?_; rotate_left; · (intro u hu; go_simp; try with_reducible rfl)
        try simp only [Act.put, gzD, gzE, gzF]
        refine ways_take (i := 5) (d := some 15) (v := ?_) (by simp only [gzA, gzB, gzC] <;> rfl) (by rfl) (by kernel_rfl) (by kernel_rfl) (by kernel_rfl) (fun _ _ _ h => h) (by rfl) ?_ ?_; rotate_left; · (intro u hu; obtain ⟨x0, y0⟩ := HF.out u (gb_trans hB hu); go_simp; try with_reducible rfl)
        try simp only [Act.put, gzD, gzE, gzF]
        refine ways_take (i := 6) (d := some 16) (v := ?_) (by simp only [gzA, gzB, gzC] <;> rfl) (by rfl) (by kernel_rfl) (by kernel_rfl) (by kernel_rfl) (fun _ _ _ h => h) (by rfl) ?_ ?_; rotate_left; · (intro u hu; go_simp; try with_reducible rfl)
        try simp only [Act.put, gzD, gzE, gzF]
        refine ways_done (by kernel_rfl) (fun u hu => ?_) _
        replace hB := gb_trans hB hu
        clear hu
        go_wp2_with fail
        refine ways_begin (none) (by kernel_rfl) ?_
        replace hB := gb_drew hB
        refine ways_take (i := 0) (d := some 17) (v := ?_) (by simp only [gzA, gzB, gzC] <;> rfl) (by rfl) (by kernel_rfl) (by kernel_rfl) (by kernel_rfl) (fun _ _ _ h => h) (by rfl) ?_ ?_; rotate_left; · (intro u hu; go_simp; try with_reducible rfl)
        try simp only [Act.put, gzD, gzE, gzF]
        refine ways_take (i := 1) (d := some 18) (v := ?_) (by simp only [gzA, gzB, gzC] <;> rfl) (by rfl) (by kernel_rfl) (by kernel_rfl) (by kernel_rfl) (fun _ _ _ h => h) (by rfl) ?_ ?_; rotate_left; · (intro u hu; go_simp; try with_reducible rfl)
        try simp only [Act.put, gzD, gzE, gzF]
        refine ways_take (i := 2) (d := some 19) (v := ?_) (by simp only [gzA, gzB, gzC] <;> rfl) (by rfl) (by kernel_rfl) (by kernel_rfl) (by kernel_rfl) (fun _ _ _ h => h) (by rfl) ?_ ?_; rotate_left; · (intro u hu; obtain ⟨x0, y0⟩ := HF.out u (gb_trans hB hu); go_simp; try with_reducible rfl)
        try simp only [Act.put, gzD, gzE, gzF]
        refine ways_take (i := 3) (d := some 20) (v := ?_) (by simp only [gzA, gzB, gzC] <;> rfl) (by rfl) (by kernel_rfl) (by kernel_rfl) (by kernel_rfl) (fun _ _ _ h => h) (by rfl) ?_ ?_; rotate_left; · (intro u hu; go_simp; try with_reducible rfl)
        try simp only [Act.put, gzD, gzE, gzF]
        refine ways_take (i := 4) (d := some 21) (v := ?_) (by simp only [gzA, gzB, gzC] <;> rfl) (by rfl) (by kernel_rfl) (by kernel_rfl) (by kernel_rfl) (fun _ _ _ h => h) (by rfl) ?_ ?_; rotate_left; · (intro u hu; go_simp; try with_reducible rfl)
        try simp only [Act.put, gzD, gzE, gzF]
        refine ways_take (i := 5) (d := some 22) (v := ?_) (by simp only [gzA, gzB, gzC] <;> rfl) (by rfl) (by kernel_rfl) (by kernel_rfl) (by kernel_rfl) (fun _ _ _ h => h) (by rfl) ?_ ?_; rotate_left; · (intro u hu; obtain ⟨x0, y0⟩ := HF.out u (gb_trans hB hu); go_simp; try with_reducible rfl)
        try simp only [Act.put, gzD, gzE, gzF]
        refine ways_take (i := 6) (d := some 23) (v := ?_) (by simp only [gzA, gzB, gzC] <;> rfl) (by rfl) (by kernel_rfl) (by kernel_rfl) (by kernel_rfl) (fun _ _ _ h => h) (by rfl) ?_ ?_; rotate_left; · (intro u hu; go_simp; try with_reducible rfl)
        try simp only [Act.put, gzD, gzE, gzF]
        refine ways_one (i := 7) (by simp only [gzA, gzB, gzC] <;> rfl) (by kernel_rfl) (by rfl) (fun u hu K hK => ?_)
        replace hB := gb_trans hB hu
        go_simp
        refine (sign_any _ _).mono ?_
        rintro e w107 ⟨rfl, rfl⟩
        have hg7 := gb_refl u (none)
        refine hK.out _ _ hg7 ?_
        replace hB := gb_trans hB hg7
        clear hK K hu
        try simp only [Act.put, gzD, gzE, gzF]
        refine ways_take (i := 8) (d := some 4) (v := ?_) (by simp only [gzA, gzB, gzC] <;> rfl) (by rfl) (by kernel_rfl) (by kernel_rfl) (by kernel_rfl) (fun _ _ _ h => h) (by rfl) ?_ ?_; rotate_left; · (intro u hu; go_simp; try with_reducible rfl)
        try simp only [Act.put, gzD, gzE, gzF]
        refine ways_done (by kernel_rfl) (fun u hu => ?_) _
        replace hB := gb_trans hB hu
        clear hu
        go_wp2_with fail
        go_ret
        exact ⟨ret_i64 H.out, hb.trans ((gb2B hB).mono hz)⟩

theorem or_i64 (D j : Nat) (hD : D < 65536) (hj : j < 16) : bits BinOp.or IntKind.i64 (D : Int) (wrap64 (2 ^ j)) = ((D ||| 2 ^ j : Nat) : Int) := by
  have hp : (2 : Nat) ^ j < 2 ^ 16 := Nat.pow_lt_pow_right (by decide) hj
  have hw : wrap64 (2 ^ j) = ((2 ^ j : Nat) : Int) := by
    rw [IntWalk.wrap64_in]
    · simp
    · have a1 : (0 : Int) < 2 ^ j := Int.pow_pos (by decide)
      have a2 : ((2 : Int) ^ j) < 65536 := by have := Int.ofNat_lt.2 hp; simpa using this
      omega
  rw [hw]
  show IntKind.i64.wrap ((BitVec.ofInt 64 (D : Int) ||| BitVec.ofInt 64 ((2 ^ j : Nat) : Int)).toNat : Int) = _
  have o1 : (BitVec.ofInt 64 (D : Int)).toNat = D := by rw [BitVec.ofInt_natCast, BitVec.toNat_ofNat]; exact Nat.mod_eq_of_lt (by omega)
  have o2 : (BitVec.ofInt 64 ((2 ^ j : Nat) : Int)).toNat = 2 ^ j := by rw [BitVec.ofInt_natCast, BitVec.toNat_ofNat]; exact Nat.mod_eq_of_lt (by omega)
  rw [BitVec.toNat_or, o1, o2]
  have hle : D ||| 2 ^ j < 2 ^ 16 := Nat.or_lt_two_pow hD hp
  exact IntWalk.i64_in _ (by omega)

theorem digL_fil (V k : Nat) (s : Bool) (hk : k < 128) : (digL (fil V k) s).set (k / 16) (.int .i64 ((dig (fil V k) (k / 16) ||| 2 ^ (k % 16) : Nat) : Int)) = digL (fil V (k + 1)) s := by
  have h8 : k / 16 < 8 := by omega
  rw [← dig_fil_here]
  apply List.ext_getElem?
  intro j
  rw [List.getElem?_set]
  by_cases hj : k / 16 = j
  · subst hj
    rw [if_pos rfl, if_pos (show k / 16 < (digL (fil V k) s).length by simp [digL]; omega), digL_get _ _ _ h8]
  · rw [if_neg hj]
    by_cases h : j < 8
    · rw [digL_get _ _ _ h, digL_get _ _ _ h, dig_fil_other V k j (fun e => hj e.symm)]
    · rw [digL_eq, digL_eq, List.getElem?_append_right (by simp; omega), List.getElem?_append_right (by simp; omega)]
      simp

set_option linter.unusedSimpArgs false in
set_option maxHeartbeats 2000000 in
theorem lastOf_any (s : Bool) (hi lo n : Int) (w : World) (h1 : 0 ≤ hi) (h2 : hi < 18446744073709551616) (h3 : 0 ≤ lo) (h4 : lo < 18446744073709551616) (hn1 : 0 ≤ n) (hn2 : n ≤ lenZ s) :
    Calls Tryz.prog 46 #[.agg #[.bool s, .int .u64 hi, .int .u64 lo, .int .i64 n]] w (GivesV (wV (fil (num hi lo) (lenZ s - n).toNat) s) w) := by
  have hl : lenZ s ≤ 128 := by cases s <;> decide
  go_enter Tryz.func46, Tryz.ntmps46
  go_wp2_with fail
  refine (of_any _ _ _ _ h1 h2 h3 h4).mono ?_
  rintro e w1 ⟨rfl, hb1⟩
  have hA := (blk2 w [.bool s, .int .u64 hi, .int .u64 lo, .int .i64 n] [.int .i64 0, .int .i64 0, .int .i64 0, .int .i64 0, .int .i64 0, .int .i64 0, .int .i64 0, .int .i64 0, .int .i64 0] 35 77).1
  have hR := (blk2 w [.bool s, .int .u64 hi, .int .u64 lo, .int .i64 n] [.int .i64 0, .int .i64 0, .int .i64 0, .int .i64 0, .int .i64 0, .int .i64 0, .int .i64 0, .int .i64 0, .int .i64 0] 35 77).2
  have hA1 := hA.below hb1
  have hR1 := hR.below hb1
  have hz1 := hb1.size
  simp at hz1
  have hx1 : w.heap.size < w1.heap.size := by omega
  have hy1 : w.heap.size + 1 < w1.heap.size := by omega
  have hD := Blk.new w1 (digL (num hi lo) s) 77
  have hA2 := hA1.alloc (.cells (digL (num hi lo) s).toArray 77)
  have hR2 := hR1.alloc (.cells (digL (num hi lo) s).toArray 77)
  have hB2 : Below w.heap.size w (w1.alloc (.cells (digL (num hi lo) s).toArray 77)) := ((below_two w _ _).trans (hb1.mono (by simp; omega))).alloc (by omega) _
  clear hA hR hA1 hR1 hb1
  obtain ⟨N, hN⟩ := Int.eq_ofNat_of_zero_le (show 0 ≤ lenZ s - n by omega)
  have hN' : N ≤ 128 := by omega
  have hS : IntKind.i64.wrap (lenZ s - n) = (N : Int) := by rw [← hN]; exact IntWalk.i64_in _ (by omega)
  have HN := Lib.hid hN
  clear hN hn1 hn2
  have HF : Hid (∀ u, (w1.alloc (.cells (digL (num hi lo) s).toArray 77)).grownBy u none → _) := Lib.hid fun u hu => (hA2.gn hu).four
  have hB := gb_refl (w1.alloc (.cells (digL (num hi lo) s).toArray 77)) none
  go_wp2_with fail
  refine ways_begin (none) (by kernel_rfl) ?_
  replace hB := gb_drew hB
  refine ways_take (i := 0) (d := some 8) (v := ?_) (by simp only [gzA, gzB, gzC] <;> rfl) (by rfl) (by kernel_rfl) (by kernel_rfl) (by kernel_rfl) (fun _ _ _ h => h) (by rfl) ?_ ?_; rotate_left; · (intro u hu; go_simp; try with_reducible rfl)
  try simp only [Act.put, gzD, gzE, gzF]
  refine ways_take (i := 1) (d := some 9) (v := ?_) (by simp only [gzA, gzB, gzC] <;> rfl) (by rfl) (by kernel_rfl) (by kernel_rfl) (by kernel_rfl) (fun _ _ _ h => h) (by rfl) ?_ ?_; rotate_left; · (intro u hu; obtain ⟨c0, c1, c2, c3, _⟩ := HF.out u (gb_trans hB hu); go_simp; try with_reducible rfl)
  try simp only [Act.put, gzD, gzE, gzF]
  refine ways_take (i := 3) (d := some 11) (v := ?_) (by simp only [gzA, gzB, gzC] <;> rfl) (by rfl) (by kernel_rfl) (by kernel_rfl) (by kernel_rfl) (fun _ _ _ h => h) (by rfl) ?_ ?_; rotate_left; · (intro u hu; go_simp; try with_reducible rfl)
  try simp only [Act.put, gzD, gzE, gzF]
  refine ways_take (i := 4) (d := some 12) (v := ?_) (by simp only [gzA, gzB, gzC] <;> rfl) (by rfl) (by kernel_rfl) (by kernel_rfl) (by kernel_rfl) (fun _ _ _ h => h) (by rfl) ?_ ?_; rotate_left; · (intro u hu; obtain ⟨c0, c1, c2, c3, _⟩ := HF.out u (gb_trans hB hu); go_simp; try with_reducible rfl)
  try simp only [Act.put, gzD, gzE, gzF]
  refine ways_take (i := 6) (d := some 14) (v := ?_) (by simp only [gzA, gzB, gzC] <;> rfl) (by rfl) (by kernel_rfl) (by kernel_rfl) (by kernel_rfl) (fun _ _ _ h => h) (by rfl) ?_ ?_; rotate_left; · (intro u hu; go_simp; try with_reducible rfl)
  try simp only [Act.put, gzD, gzE, gzF]
  refine ways_one (i := 2) (by simp only [gzA, gzB, gzC] <;> rfl) (by kernel_rfl) (by rfl) (fun u hu K hK => ?_)
  replace hB := gb_trans hB hu
  go_simp
  refine (length_any _ _ _ _).mono ?_
  rintro e w102 ⟨rfl, hb2⟩
  have hg2 := gbB (r := none) hb2
  refine hK.out _ _ hg2 ?_
  replace hB := gb_trans hB hg2
  clear hK K hu
  try simp only [Act.put, gzD, gzE, gzF]
  refine ways_take (i := 5) (d := some 13) (v := ?_) (by simp only [gzA, gzB, gzC] <;> rfl) (by rfl) (by kernel_rfl) (by kernel_rfl) (by kernel_rfl) (fun _ _ _ h => h) (by rfl) ?_ ?_; rotate_left; · (intro u hu; go_simp; try with_reducible rfl)
  try simp only [Act.put, gzD, gzE, gzF]
  refine ways_done (by kernel_rfl) (fun u hu => ?_) _
  replace hB := gb_trans hB hu
  clear hu
  have hD2 := hD.gn hB
  have hR3 := hR2.gn hB
  have hB3 := hB2.trans ((gb2B hB).mono hB2.size)
  clear hS hB HF hA2 hD hR2 hB2
  go_wp2_with fail
  go_loopw [14] (fun c wr => ∃ k : Nat, k ≤ N ∧ c = .int .i64 k ∧ Blk wr w1.heap.size (digL (fil (num hi lo) k) s) 77 ∧ Blk wr (w.heap.size + 1) [.int .i64 0, .int .i64 0, .int .i64 0, .int .i64 0, .int .i64 0, .int .i64 0, .int .i64 0, .int .i64 0, .int .i64 0] 77 ∧ Below w.heap.size w wr) (fun c _ => N - (intOf c).toNat)
  case atStart => exact ⟨0, Nat.zero_le _, rfl, by rw [fil_zero]; exact hD2, hR3, hB3⟩
  case round =>
    obtain ⟨k, hk, rfl, hD3, hR3, hB3⟩ := hrel
    by_cases hlt : k < N
    · have hc := hD3.cell (digL_get _ s (k / 16) (by omega))
      have hf := hD3.free (k / 16)
      go_wp2_with fail
      go_region
      go_wp2_with fail
      have hv : bits BinOp.or IntKind.i64 (↑(dig (fil (num hi lo) k) (k / 16))) (wrap64 (2 ^ (k % 16))) = ((dig (fil (num hi lo) k) (k / 16) ||| 2 ^ (k % 16) : Nat) : Int) := or_i64 _ _ (dig_lt _ _) (by omega)
      rw [hv]
      refine ⟨⟨k + 1, by omega, by go_num, ?_, (hR3.other (by simp; omega) _).drew, (hB3.setCell (by simp; omega) _).drew⟩, by simp [intOf]; omega⟩
      have := (hD3.set (k / 16) (.int .i64 ((dig (fil (num hi lo) k) (k / 16) ||| 2 ^ (k % 16) : Nat) : Int))).drew
      rwa [digL_fil _ _ _ (by omega)] at this
    · obtain ⟨z0, z1, z2, z3, z4, z5, z6, z7, z8⟩ := hR3.nine
      obtain ⟨y0, y1, y2, y3, y4, y5, y6, y7, y8⟩ := hR3.nineFree
      obtain ⟨d0, d1, d2, d3, d4, d5, d6, d7, d8⟩ := hD3.nine
      go_wp2_with fail
      have hkN : k = N := by omega
      subst hkN
      refine bodyPost_ret (v := wV (fil (num hi lo) k) s) ?_ rfl ⟨by rw [HN.out, Int.toNat_natCast], ?_⟩
      · simp [results, Tryz.results46, go_sem, z0, z1, z2, z3, z4, z5, z6, z7, z8]
      · exact below_nine hB3 (by omega) _ _ _ _ _ _ _ _ _

theorem fil_lt128 (s : Bool) (hi lo n : Int) (h2 : hi < 18446744073709551616) (h4 : lo < 18446744073709551616) (hn1 : 0 ≤ n) : fil (num hi lo) (lenZ s - n).toNat < 2 ^ 128 := by
  have hl : lenZ s ≤ 128 := by cases s <;> decide
  exact fil_lt (by omega) (num_lt h2 h4)

end Go.Proofs.YtfpcalgkfagjkaaGreatDoor
