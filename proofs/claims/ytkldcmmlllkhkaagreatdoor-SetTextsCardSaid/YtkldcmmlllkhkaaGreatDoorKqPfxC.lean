/- Prefixes: inside, Inside, RangeOf, Last of the program. -/
import Derived.Test.YtkldcmmlllkhkaaGreatDoorKqGzA
import Derived.Test.YtkldcmmlllkhkaaGreatDoorKqPfxA
import Derived.Test.YtkldcmmlllkhkaaGreatDoorKqSiteB
set_option linter.unusedVariables false
set_option linter.unusedSimpArgs false
namespace Go.Proofs.YtkldcmmlllkhkaaGreatDoor
open Go.RowKit






theorem pfQ_mask (s : Bool) (hi lo n : Int) (V : Nat) (h1 : 0 ≤ hi) (h2 : hi < 18446744073709551616) (h3 : 0 ≤ lo) (h4 : lo < 18446744073709551616) :
    pfQ s s ((V / 2 ^ 64 : Nat) : Int) ((V % 2 ^ 64 : Nat) : Int) hi lo n n = decide (V = num hi lo) := by
  have e : V = num hi lo ↔ (((V / 2 ^ 64 : Nat) : Int) = hi ∧ ((V % 2 ^ 64 : Nat) : Int) = lo) := by
    unfold num
    constructor
    · intro h; subst h; constructor <;> omega
    · rintro ⟨a, b⟩; omega
  rw [Bool.eq_iff_iff]
  simp only [pfQ, beq_self_eq_true, Bool.true_and, Bool.and_true, Bool.and_eq_true, beq_iff_eq, decide_eq_true_eq]
  exact e.symm

set_option linter.unusedSimpArgs false in
theorem contains_any (s : Bool) (hi lo n : Int) (t : Bool) (h l : Int) (w : World) (h1 : 0 ≤ hi) (h2 : hi < 18446744073709551616) (h3 : 0 ≤ lo) (h4 : lo < 18446744073709551616)
    (k1 : 0 ≤ h) (k2 : h < 18446744073709551616) (k3 : 0 ≤ l) (k4 : l < 18446744073709551616) (hn1 : 0 ≤ n) (hn2 : n ≤ lenZ s) :
    Calls Tryz.prog 73 #[.agg #[.bool s, .int .u64 hi, .int .u64 lo, .int .i64 n], .agg #[.bool t, .int .u64 h, .int .u64 l]] w (GivesV (.bool (ctB s hi lo n t h l)) w) := by
  have HF : Hid (∀ u, ((w.alloc (.cells #[.bool s, .int .u64 hi, .int .u64 lo, .int .i64 n] 41)).alloc (.cells #[.bool t, .int .u64 h, .int .u64 l] 39)).grownBy u none → _) :=
    Lib.hid fun u hu => And.intro ((blk2 w [.bool s, .int .u64 hi, .int .u64 lo, .int .i64 n] [.bool t, .int .u64 h, .int .u64 l] _ _).1.gn hu).four ((blk2 w [.bool s, .int .u64 hi, .int .u64 lo, .int .i64 n] [.bool t, .int .u64 h, .int .u64 l] _ _).2.gn hu).three
  have hB := gb_refl ((w.alloc (.cells #[.bool s, .int .u64 hi, .int .u64 lo, .int .i64 n] 41)).alloc (.cells #[.bool t, .int .u64 h, .int .u64 l] 39)) none
  by_cases hst : s = t
  · subst hst
    obtain ⟨MH, hMH⟩ : ∃ x : Int, x = ((clr (num h l) (lenZ s - n).toNat / 2 ^ 64 : Nat) : Int) := ⟨_, rfl⟩
    obtain ⟨ML, hML⟩ : ∃ x : Int, x = ((clr (num h l) (lenZ s - n).toNat % 2 ^ 64 : Nat) : Int) := ⟨_, rfl⟩
    have HM : ∀ w', Hid (Calls Tryz.prog 74 #[.agg #[.bool s, .int .u64 h, .int .u64 l], .int .i64 n] w' (GivesV (.agg #[.bool s, .int .u64 MH, .int .u64 ML, .int .i64 n]) w')) := fun w' => by
      rw [hMH, hML]; exact spanMask_any s h l n w' k1 k2 k3 k4 hn1 hn2
    have HQ := pfQ_mask s hi lo n (clr (num h l) (lenZ s - n).toNat) h1 h2 h3 h4
    rw [← hMH, ← hML] at HQ
    replace HQ := Lib.hid HQ
    clear hMH hML
    have HR := Lib.hid (show ctB s hi lo n s h l = decide (clr (num h l) (lenZ s - n).toNat = num hi lo) by simp [ctB])
    clear hn1 hn2
    go_enter Tryz.func73, Tryz.ntmps73
    go_wp2_with fail
    refine ways_begin (none) (by kernel_rfl) ?_
    replace hB := gb_drew hB
    refine ways_take (i := 0) (d := some 5) (v := ?_) (by simp only [gzA, gzB, gzC] <;> rfl) (by rfl) (by kernel_rfl) (by kernel_rfl) (by kernel_rfl) (fun _ _ _ h => h) (by rfl) ?_ ?_; rotate_left; · (intro u hu; go_simp; try with_reducible rfl)
    try simp only [Act.put, gzD, gzE, gzF]
    refine ways_take (i := 1) (d := some 6) (v := ?_) (by simp only [gzA, gzB, gzC] <;> rfl) (by rfl) (by kernel_rfl) (by kernel_rfl) (by kernel_rfl) (fun _ _ _ h => h) (by rfl) ?_ ?_; rotate_left; · (intro u hu; go_simp; try with_reducible rfl)
    try simp only [Act.put, gzD, gzE, gzF]
    refine ways_take (i := 2) (d := some 7) (v := ?_) (by simp only [gzA, gzB, gzC] <;> rfl) (by rfl) (by kernel_rfl) (by kernel_rfl) (by kernel_rfl) (fun _ _ _ h => h) (by rfl) ?_ ?_; rotate_left; · (intro u hu; obtain ⟨⟨c0, c1, c2, c3, _⟩, ⟨d0, d1, d2, _⟩⟩ := HF.out u (gb_trans hB hu); go_simp; try with_reducible rfl)
    try simp only [Act.put, gzD, gzE, gzF]
    refine ways_take (i := 3) (d := some 8) (v := ?_) (by simp only [gzA, gzB, gzC] <;> rfl) (by rfl) (by kernel_rfl) (by kernel_rfl) (by kernel_rfl) (fun _ _ _ h => h) (by rfl) ?_ ?_; rotate_left; · (intro u hu; go_simp; try with_reducible rfl)
    try simp only [Act.put, gzD, gzE, gzF]
    refine ways_take (i := 4) (d := some 9) (v := ?_) (by simp only [gzA, gzB, gzC] <;> rfl) (by rfl) (by kernel_rfl) (by kernel_rfl) (by kernel_rfl) (fun _ _ _ h => h) (by rfl) ?_ ?_; rotate_left; · (intro u hu; obtain ⟨⟨c0, c1, c2, c3, _⟩, ⟨d0, d1, d2, _⟩⟩ := HF.out u (gb_trans hB hu); go_simp; try with_reducible rfl)
    try simp only [Act.put, gzD, gzE, gzF]
    refine ways_take (i := 5) (d := some 10) (v := ?_) (by simp only [gzA, gzB, gzC] <;> rfl) (by rfl) (by kernel_rfl) (by kernel_rfl) (by kernel_rfl) (fun _ _ _ h => h) (by rfl) ?_ ?_; rotate_left; · (intro u hu; go_simp; try with_reducible rfl)
    try simp only [Act.put, gzD, gzE, gzF]
    refine ways_take (i := 6) (d := some 11) (v := ?_) (by simp only [gzA, gzB, gzC] <;> rfl) (by rfl) (by kernel_rfl) (by kernel_rfl) (by kernel_rfl) (fun _ _ _ h => h) (by rfl) ?_ ?_; rotate_left; · (intro u hu; go_simp; try with_reducible rfl)
    try simp only [Act.put, gzD, gzE, gzF]
    refine ways_take (i := 7) (d := some 12) (v := ?_) (by simp only [gzA, gzB, gzC] <;> rfl) (by rfl) (by kernel_rfl) (by kernel_rfl) (by kernel_rfl) (fun _ _ _ h => h) (by rfl) ?_ ?_; rotate_left; · (intro u hu; obtain ⟨⟨c0, c1, c2, c3, _⟩, ⟨d0, d1, d2, _⟩⟩ := HF.out u (gb_trans hB hu); go_simp; try with_reducible rfl)
    try simp only [Act.put, gzD, gzE, gzF]
    refine ways_take (i := 8) (d := some 13) (v := ?_) (by simp only [gzA, gzB, gzC] <;> rfl) (by rfl) (by kernel_rfl) (by kernel_rfl) (by kernel_rfl) (fun _ _ _ h => h) (by rfl) ?_ ?_; rotate_left; · (intro u hu; go_simp; try with_reducible rfl)
    try simp only [Act.put, gzD, gzE, gzF]
    refine ways_take (i := 9) (d := some 14) (v := ?_) (by simp only [gzA, gzB, gzC] <;> rfl) (by rfl) (by kernel_rfl) (by kernel_rfl) (by kernel_rfl) (fun _ _ _ h => h) (by rfl) ?_ ?_; rotate_left; · (intro u hu; obtain ⟨⟨c0, c1, c2, c3, _⟩, ⟨d0, d1, d2, _⟩⟩ := HF.out u (gb_trans hB hu); go_simp; try with_reducible rfl)
    try simp only [Act.put, gzD, gzE, gzF]
    refine ways_take (i := 11) (d := some 16) (v := ?_) (by simp only [gzA, gzB, gzC] <;> rfl) (by rfl) (by kernel_rfl) (by kernel_rfl) (by kernel_rfl) (fun _ _ _ h => h) (by rfl) ?_ ?_; rotate_left; · (intro u hu; obtain ⟨⟨c0, c1, c2, c3, _⟩, ⟨d0, d1, d2, _⟩⟩ := HF.out u (gb_trans hB hu); go_simp; try with_reducible rfl)
    try simp only [Act.put, gzD, gzE, gzF]
    refine ways_one (i := 10) (by simp only [gzA, gzB, gzC] <;> rfl) (by kernel_rfl) (by rfl) (fun u hu K hK => ?_)
    replace hB := gb_trans hB hu
    go_simp
    refine ((HM _).out).mono ?_
    rintro e w110 ⟨rfl, hb10⟩
    have hg10 := gbB (r := none) hb10
    refine hK.out _ _ hg10 ?_
    replace hB := gb_trans hB hg10
    clear hK K hu
    try simp only [Act.put, gzD, gzE, gzF]
    refine ways_take (i := 12) (d := some 17) (v := ?_) (by simp only [gzA, gzB, gzC] <;> rfl) (by rfl) (by kernel_rfl) (by kernel_rfl) (by kernel_rfl) (fun _ _ _ h => h) (by rfl) ?_ ?_; rotate_left; · (intro u hu; go_simp; try with_reducible rfl)
    try simp only [Act.put, gzD, gzE, gzF]
    refine ways_take (i := 13) (d := some 18) (v := ?_) (by simp only [gzA, gzB, gzC] <;> rfl) (by rfl) (by kernel_rfl) (by kernel_rfl) (by kernel_rfl) (fun _ _ _ h => h) (by rfl) ?_ ?_; rotate_left; · (intro u hu; go_simp; try with_reducible rfl)
    try simp only [Act.put, gzD, gzE, gzF]
    refine ways_take (i := 14) (d := some 4) (v := ?_) (by simp only [gzA, gzB, gzC] <;> rfl) (by rfl) (by kernel_rfl) (by kernel_rfl) (by kernel_rfl) (fun _ _ _ h => h) (by rfl) ?_ ?_; rotate_left; · (intro u hu; go_simp; try with_reducible rfl)
    try simp only [Act.put, gzD, gzE, gzF]
    refine ways_done (by kernel_rfl) (fun u hu => ?_) _
    replace hB := gb_trans hB hu
    clear hu
    go_wp2_with fail
    go_ret
    exact ⟨ret_bool (HQ.out.trans HR.out.symm), below_gb2 hB⟩
  · have HR := Lib.hid (show ctB s hi lo n t h l = false by simp [ctB, hst])
    have b0 : (s == t) = false := by simp [hst]
    clear hst
    go_enter Tryz.func73, Tryz.ntmps73
    go_wp2_with fail
    refine ways_begin (none) (by kernel_rfl) ?_
    replace hB := gb_drew hB
    refine ways_take (i := 0) (d := some 5) (v := ?_) (by simp only [gzA, gzB, gzC] <;> rfl) (by rfl) (by kernel_rfl) (by kernel_rfl) (by kernel_rfl) (fun _ _ _ h => h) (by rfl) ?_ ?_; rotate_left; · (intro u hu; go_simp; try with_reducible rfl)
    try simp only [Act.put, gzD, gzE, gzF]
    refine ways_take (i := 1) (d := some 6) (v := ?_) (by simp only [gzA, gzB, gzC] <;> rfl) (by rfl) (by kernel_rfl) (by kernel_rfl) (by kernel_rfl) (fun _ _ _ h => h) (by rfl) ?_ ?_; rotate_left; · (intro u hu; go_simp; try with_reducible rfl)
    try simp only [Act.put, gzD, gzE, gzF]
    refine ways_take (i := 2) (d := some 7) (v := ?_) (by simp only [gzA, gzB, gzC] <;> rfl) (by rfl) (by kernel_rfl) (by kernel_rfl) (by kernel_rfl) (fun _ _ _ h => h) (by rfl) ?_ ?_; rotate_left; · (intro u hu; obtain ⟨⟨c0, c1, c2, c3, _⟩, ⟨d0, d1, d2, _⟩⟩ := HF.out u (gb_trans hB hu); go_simp; try with_reducible rfl)
    try simp only [Act.put, gzD, gzE, gzF]
    refine ways_take (i := 3) (d := some 8) (v := ?_) (by simp only [gzA, gzB, gzC] <;> rfl) (by rfl) (by kernel_rfl) (by kernel_rfl) (by kernel_rfl) (fun _ _ _ h => h) (by rfl) ?_ ?_; rotate_left; · (intro u hu; go_simp; try with_reducible rfl)
    try simp only [Act.put, gzD, gzE, gzF]
    refine ways_take (i := 4) (d := some 9) (v := ?_) (by simp only [gzA, gzB, gzC] <;> rfl) (by rfl) (by kernel_rfl) (by kernel_rfl) (by kernel_rfl) (fun _ _ _ h => h) (by rfl) ?_ ?_; rotate_left; · (intro u hu; obtain ⟨⟨c0, c1, c2, c3, _⟩, ⟨d0, d1, d2, _⟩⟩ := HF.out u (gb_trans hB hu); go_simp; try with_reducible rfl)
    try simp only [Act.put, gzD, gzE, gzF]
    refine ways_take (i := 5) (d := some 10) (v := ?_) (by simp only [gzA, gzB, gzC] <;> rfl) (by rfl) (by kernel_rfl) (by kernel_rfl) (by kernel_rfl) (fun _ _ _ h => h) (by rfl) ?_ ?_; rotate_left; · (intro u hu; go_simp; try with_reducible rfl)
    try simp only [Act.put, gzD, gzE, gzF]
    refine ways_take (i := 6) (d := some 11) (v := ?_) (by simp only [gzA, gzB, gzC] <;> rfl) (by rfl) (by kernel_rfl) (by kernel_rfl) (by kernel_rfl) (fun _ _ _ h => h) (by rfl) ?_ ?_; rotate_left; · (intro u hu; go_simp; try with_reducible rfl)
    try simp only [Act.put, gzD, gzE, gzF]
    refine ways_skip (i := 7) (d := some 12) (by simp only [gzA, gzB, gzC] <;> rfl) (by rfl) (by kernel_rfl) (by kernel_rfl) (by kernel_rfl) (fun _ _ _ h => h) (by rfl) ?_
    try simp only [Act.put, gzD, gzE, gzF]
    refine ways_skip (i := 8) (d := some 13) (by simp only [gzA, gzB, gzC] <;> rfl) (by rfl) (by kernel_rfl) (by kernel_rfl) (by kernel_rfl) (fun _ _ _ h => h) (by rfl) ?_
    try simp only [Act.put, gzD, gzE, gzF]
    refine ways_skip (i := 9) (d := some 14) (by simp only [gzA, gzB, gzC] <;> rfl) (by rfl) (by kernel_rfl) (by kernel_rfl) (by kernel_rfl) (fun _ _ _ h => h) (by rfl) ?_
    try simp only [Act.put, gzD, gzE, gzF]
    refine ways_skip (i := 10) (d := some 15) (by simp only [gzA, gzB, gzC] <;> rfl) (by rfl) (by kernel_rfl) (by kernel_rfl) (by kernel_rfl) (fun _ _ _ h => h) (by rfl) ?_
    try simp only [Act.put, gzD, gzE, gzF]
    refine ways_skip (i := 11) (d := some 16) (by simp only [gzA, gzB, gzC] <;> rfl) (by rfl) (by kernel_rfl) (by kernel_rfl) (by kernel_rfl) (fun _ _ _ h => h) (by rfl) ?_
    try simp only [Act.put, gzD, gzE, gzF]
    refine ways_skip (i := 12) (d := some 17) (by simp only [gzA, gzB, gzC] <;> rfl) (by rfl) (by kernel_rfl) (by kernel_rfl) (by kernel_rfl) (fun _ _ _ h => h) (by rfl) ?_
    try simp only [Act.put, gzD, gzE, gzF]
    refine ways_take (i := 13) (d := some 18) (v := ?_) (by simp only [gzA, gzB, gzC] <;> rfl) (by rfl) (by kernel_rfl) (by kernel_rfl) (by kernel_rfl) (fun _ _ _ h => h) (by rfl) ?_ ?_; rotate_left; · (intro u hu; go_simp; try with_reducible rfl)
    try simp only [Act.put, gzD, gzE, gzF]
    refine ways_take (i := 14) (d := some 4) (v := ?_) (by simp only [gzA, gzB, gzC] <;> rfl) (by rfl) (by kernel_rfl) (by kernel_rfl) (by kernel_rfl) (fun _ _ _ h => h) (by rfl) ?_ ?_; rotate_left; · (intro u hu; go_simp; try with_reducible rfl)
    try simp only [Act.put, gzD, gzE, gzF]
    refine ways_done (by kernel_rfl) (fun u hu => ?_) _
    replace hB := gb_trans hB hu
    clear hu
    go_wp2_with fail
    go_ret
    exact ⟨ret_bool HR.out.symm, below_gb2 hB⟩

theorem firstZ_two (a b : Int) : firstZ [a, b] = if a = 0 then b else a := by
  simp only [firstZ]
  split
  · split <;> simp_all
  · rfl


def insB (s : Bool) (hi lo n : Int) (t : Bool) (h l m : Int) : Bool := decide (m ≤ n) && ctB t h l m s hi lo

theorem inside_any (s : Bool) (hi lo n : Int) (t : Bool) (h l m : Int) (w : World) (h1 : 0 ≤ hi) (h2 : hi < 18446744073709551616) (h3 : 0 ≤ lo) (h4 : lo < 18446744073709551616)
    (k1 : 0 ≤ h) (k2 : h < 18446744073709551616) (k3 : 0 ≤ l) (k4 : l < 18446744073709551616) (hn1 : 0 ≤ m) (hn2 : m ≤ lenZ t) :
    Calls Tryz.prog 72 #[.agg #[.bool s, .int .u64 hi, .int .u64 lo, .int .i64 n], .agg #[.bool t, .int .u64 h, .int .u64 l, .int .i64 m]] w (GivesV (.bool (insB s hi lo n t h l m)) w) := by
  have HM := fun w' => Lib.hid (contains_any t h l m s hi lo w' k1 k2 k3 k4 h1 h2 h3 h4 hn1 hn2)
  clear hn1 hn2
  by_cases hm : m ≤ n
  · have HR := Lib.hid (show insB s hi lo n t h l m = ctB t h l m s hi lo by simp [insB, hm])
    go_enter Tryz.func72, Tryz.ntmps72
    go_wp2_with fail
    refine (HM _).out.mono ?_
    rintro e w1 ⟨rfl, hb1⟩
    go_wp2_with fail
    go_ret
    exact ⟨ret_bool HR.out.symm, (below_two _ _ _).trans (hb1.mono (by simp; omega))⟩
  · have HR := Lib.hid (show insB s hi lo n t h l m = false by simp [insB, hm])
    go_enter Tryz.func72, Tryz.ntmps72
    go_wp2_with fail
    go_ret
    exact ⟨ret_bool HR.out.symm, below_two _ _ _⟩

theorem Blk.six {w : World} {p : Nat} {x0 x1 x2 x3 x4 x5 : Value} {t : TypeId} (h : Blk w p [x0, x1, x2, x3, x4, x5] t) :
    w.cell? ⟨p, 0, none⟩ = some x0 ∧ w.cell? ⟨p, 1, none⟩ = some x1 ∧ w.cell? ⟨p, 2, none⟩ = some x2 ∧ w.cell? ⟨p, 3, none⟩ = some x3 ∧ w.cell? ⟨p, 4, none⟩ = some x4 ∧ w.cell? ⟨p, 5, none⟩ = some x5 ∧ w.frozen? ⟨p, 0, none⟩ = false ∧ w.frozen? ⟨p, 1, none⟩ = false ∧ w.frozen? ⟨p, 2, none⟩ = false ∧ w.frozen? ⟨p, 3, none⟩ = false ∧ w.frozen? ⟨p, 4, none⟩ = false ∧ w.frozen? ⟨p, 5, none⟩ = false :=
  ⟨h.cell rfl, h.cell rfl, h.cell rfl, h.cell rfl, h.cell rfl, h.cell rfl, h.free _, h.free _, h.free _, h.free _, h.free _, h.free _⟩
end Go.Proofs.YtkldcmmlllkhkaaGreatDoor
