/- Prefixes: RangeOf, Last, contains, Contains, inside, Inside of the program. -/
import Derived.Test.YtlnflihnmdpilaaDoorPfxA
import Derived.Test.YtlnflihnmdpilaaDoorSiteB
namespace Go.Proofs.YtlnflihnmdpilaaDoor
open Go.RowKit
set_option linter.unusedVariables false
set_option linter.unusedSimpArgs false






/-- The halves of a number are those of a prefix just if the numbers are equal. -/
theorem pfQ_mask (s : Bool) (hi lo n : Int) (V : Nat) (h1 : 0 ≤ hi) (h2 : hi < 18446744073709551616) (h3 : 0 ≤ lo) (h4 : lo < 18446744073709551616) :
    pfQ s s ((V / 2 ^ 64 : Nat) : Int) ((V % 2 ^ 64 : Nat) : Int) hi lo n n = decide (V = num hi lo) := by
  have e : V = num hi lo ↔ (((V / 2 ^ 64 : Nat) : Int) = hi ∧ ((V % 2 ^ 64 : Nat) : Int) = lo) := by
    unfold num
    constructor
    · intro h; subst h; constructor <;> omega
    · rintro ⟨a, b⟩; omega
  rw [Bool.eq_iff_iff]
  simp only [pfQ, beq_self_eq_true, Bool.true_and, Bool.and_true, Bool.and_eq_true, beq_iff_eq, decide_eq_true_eq]
  exact e.symm

set_option linter.unusedSimpArgs false in
/-- A prefix (s, hi, lo, n) contains an address (t, h, l). -/
theorem contains_any (s : Bool) (hi lo n : Int) (t : Bool) (h l : Int) (w : World) (h1 : 0 ≤ hi) (h2 : hi < 18446744073709551616) (h3 : 0 ≤ lo) (h4 : lo < 18446744073709551616)
    (k1 : 0 ≤ h) (k2 : h < 18446744073709551616) (k3 : 0 ≤ l) (k4 : l < 18446744073709551616) (hn1 : 0 ≤ n) (hn2 : n ≤ lenZ s) :
    Calls Tryd.prog 58 #[.agg #[.bool s, .int .u64 hi, .int .u64 lo, .int .i64 n], .agg #[.bool t, .int .u64 h, .int .u64 l]] w (GivesV (.bool (ctB s hi lo n t h l)) w) := by
  have HF : Hid (∀ u, ((w.alloc (.cells #[.bool s, .int .u64 hi, .int .u64 lo, .int .i64 n] 42)).alloc (.cells #[.bool t, .int .u64 h, .int .u64 l] 28)).grownBy u none → _) :=
    Lib.hid fun u hu => And.intro ((blk2 w [.bool s, .int .u64 hi, .int .u64 lo, .int .i64 n] [.bool t, .int .u64 h, .int .u64 l] _ _).1.gn hu).four ((blk2 w [.bool s, .int .u64 hi, .int .u64 lo, .int .i64 n] [.bool t, .int .u64 h, .int .u64 l] _ _).2.gn hu).three
  have hB := gb_refl ((w.alloc (.cells #[.bool s, .int .u64 hi, .int .u64 lo, .int .i64 n] 42)).alloc (.cells #[.bool t, .int .u64 h, .int .u64 l] 28)) none
  by_cases hst : s = t
  · subst hst
    obtain ⟨MH, hMH⟩ : ∃ x : Int, x = ((clr (num h l) (lenZ s - n).toNat / 2 ^ 64 : Nat) : Int) := ⟨_, rfl⟩
    obtain ⟨ML, hML⟩ : ∃ x : Int, x = ((clr (num h l) (lenZ s - n).toNat % 2 ^ 64 : Nat) : Int) := ⟨_, rfl⟩
    have HM : ∀ w', Hid (Calls Tryd.prog 55 #[.agg #[.bool s, .int .u64 h, .int .u64 l], .int .i64 n] w' (GivesV (.agg #[.bool s, .int .u64 MH, .int .u64 ML, .int .i64 n]) w')) := fun w' => by
      rw [hMH, hML]; exact spanMask_any s h l n w' k1 k2 k3 k4 hn1 hn2
    have HQ := pfQ_mask s hi lo n (clr (num h l) (lenZ s - n).toNat) h1 h2 h3 h4
    rw [← hMH, ← hML] at HQ
    replace HQ := Lib.hid HQ
    clear hMH hML
    have HR := Lib.hid (show ctB s hi lo n s h l = decide (clr (num h l) (lenZ s - n).toNat = num hi lo) by simp [ctB])
    clear hn1 hn2
    go_enter Tryd.func58, Tryd.ntmps58
    go_wp2_with fail
    refine ways_begin (none) (by kernel_rfl) ?_
    replace hB := gb_drew hB
    refine ways_take (i := 0) (d := some 5) (v := ?_) (by simp only [List.getElem?_toArray, List.getElem?_cons_succ, List.getElem?_cons_zero] <;> rfl) (by rfl) (by kernel_rfl) (by kernel_rfl) (by kernel_rfl) (fun _ _ _ h => h) (by rfl) ?_ ?_
    rotate_left
    · ((intro u hu); go_simp; try with_reducible rfl)
    try simp only [Act.put, List.setIfInBounds_toArray, List.set_cons_zero, List.set_cons_succ]
    refine ways_take (i := 1) (d := some 6) (v := ?_) (by simp only [List.getElem?_toArray, List.getElem?_cons_succ, List.getElem?_cons_zero] <;> rfl) (by rfl) (by kernel_rfl) (by kernel_rfl) (by kernel_rfl) (fun _ _ _ h => h) (by rfl) ?_ ?_
    rotate_left
    · ((intro u hu); go_simp; try with_reducible rfl)
    try simp only [Act.put, List.setIfInBounds_toArray, List.set_cons_zero, List.set_cons_succ]
    refine ways_take (i := 2) (d := some 7) (v := ?_) (by simp only [List.getElem?_toArray, List.getElem?_cons_succ, List.getElem?_cons_zero] <;> rfl) (by rfl) (by kernel_rfl) (by kernel_rfl) (by kernel_rfl) (fun _ _ _ h => h) (by rfl) ?_ ?_
    rotate_left
    · ((intro u hu); obtain ⟨⟨c0, c1, c2, c3, _⟩, ⟨d0, d1, d2, _⟩⟩ := HF.out u (gb_trans hB hu); go_simp; try with_reducible rfl)
    try simp only [Act.put, List.setIfInBounds_toArray, List.set_cons_zero, List.set_cons_succ]
    refine ways_take (i := 3) (d := some 8) (v := ?_) (by simp only [List.getElem?_toArray, List.getElem?_cons_succ, List.getElem?_cons_zero] <;> rfl) (by rfl) (by kernel_rfl) (by kernel_rfl) (by kernel_rfl) (fun _ _ _ h => h) (by rfl) ?_ ?_
    rotate_left
    · ((intro u hu); go_simp; try with_reducible rfl)
    try simp only [Act.put, List.setIfInBounds_toArray, List.set_cons_zero, List.set_cons_succ]
    refine ways_take (i := 4) (d := some 9) (v := ?_) (by simp only [List.getElem?_toArray, List.getElem?_cons_succ, List.getElem?_cons_zero] <;> rfl) (by rfl) (by kernel_rfl) (by kernel_rfl) (by kernel_rfl) (fun _ _ _ h => h) (by rfl) ?_ ?_
    rotate_left
    · ((intro u hu); obtain ⟨⟨c0, c1, c2, c3, _⟩, ⟨d0, d1, d2, _⟩⟩ := HF.out u (gb_trans hB hu); go_simp; try with_reducible rfl)
    try simp only [Act.put, List.setIfInBounds_toArray, List.set_cons_zero, List.set_cons_succ]
    refine ways_take (i := 5) (d := some 10) (v := ?_) (by simp only [List.getElem?_toArray, List.getElem?_cons_succ, List.getElem?_cons_zero] <;> rfl) (by rfl) (by kernel_rfl) (by kernel_rfl) (by kernel_rfl) (fun _ _ _ h => h) (by rfl) ?_ ?_
    rotate_left
    · ((intro u hu); go_simp; try with_reducible rfl)
    try simp only [Act.put, List.setIfInBounds_toArray, List.set_cons_zero, List.set_cons_succ]
    refine ways_take (i := 6) (d := some 11) (v := ?_) (by simp only [List.getElem?_toArray, List.getElem?_cons_succ, List.getElem?_cons_zero] <;> rfl) (by rfl) (by kernel_rfl) (by kernel_rfl) (by kernel_rfl) (fun _ _ _ h => h) (by rfl) ?_ ?_
    rotate_left
    · ((intro u hu); go_simp; try with_reducible rfl)
    try simp only [Act.put, List.setIfInBounds_toArray, List.set_cons_zero, List.set_cons_succ]
    refine ways_take (i := 7) (d := some 12) (v := ?_) (by simp only [List.getElem?_toArray, List.getElem?_cons_succ, List.getElem?_cons_zero] <;> rfl) (by rfl) (by kernel_rfl) (by kernel_rfl) (by kernel_rfl) (fun _ _ _ h => h) (by rfl) ?_ ?_
    rotate_left
    · ((intro u hu); obtain ⟨⟨c0, c1, c2, c3, _⟩, ⟨d0, d1, d2, _⟩⟩ := HF.out u (gb_trans hB hu); go_simp; try with_reducible rfl)
    try simp only [Act.put, List.setIfInBounds_toArray, List.set_cons_zero, List.set_cons_succ]
    refine ways_take (i := 8) (d := some 13) (v := ?_) (by simp only [List.getElem?_toArray, List.getElem?_cons_succ, List.getElem?_cons_zero] <;> rfl) (by rfl) (by kernel_rfl) (by kernel_rfl) (by kernel_rfl) (fun _ _ _ h => h) (by rfl) ?_ ?_
    rotate_left
    · ((intro u hu); go_simp; try with_reducible rfl)
    try simp only [Act.put, List.setIfInBounds_toArray, List.set_cons_zero, List.set_cons_succ]
    refine ways_take (i := 9) (d := some 14) (v := ?_) (by simp only [List.getElem?_toArray, List.getElem?_cons_succ, List.getElem?_cons_zero] <;> rfl) (by rfl) (by kernel_rfl) (by kernel_rfl) (by kernel_rfl) (fun _ _ _ h => h) (by rfl) ?_ ?_
    rotate_left
    · ((intro u hu); obtain ⟨⟨c0, c1, c2, c3, _⟩, ⟨d0, d1, d2, _⟩⟩ := HF.out u (gb_trans hB hu); go_simp; try with_reducible rfl)
    try simp only [Act.put, List.setIfInBounds_toArray, List.set_cons_zero, List.set_cons_succ]
    refine ways_take (i := 11) (d := some 16) (v := ?_) (by simp only [List.getElem?_toArray, List.getElem?_cons_succ, List.getElem?_cons_zero] <;> rfl) (by rfl) (by kernel_rfl) (by kernel_rfl) (by kernel_rfl) (fun _ _ _ h => h) (by rfl) ?_ ?_
    rotate_left
    · ((intro u hu); obtain ⟨⟨c0, c1, c2, c3, _⟩, ⟨d0, d1, d2, _⟩⟩ := HF.out u (gb_trans hB hu); go_simp; try with_reducible rfl)
    try simp only [Act.put, List.setIfInBounds_toArray, List.set_cons_zero, List.set_cons_succ]
    refine ways_one (i := 10) (by simp only [List.getElem?_toArray, List.getElem?_cons_succ, List.getElem?_cons_zero] <;> rfl) (by kernel_rfl) (by rfl) (fun u hu K hK => ?_)
    replace hB := gb_trans hB hu
    go_simp
    refine ((HM _).out).mono ?_
    rintro e w110 ⟨rfl, hb10⟩
    have hg10 := gbB (r := none) hb10
    refine hK.out _ _ hg10 ?_
    replace hB := gb_trans hB hg10
    clear hK K hu
    try simp only [Act.put, List.setIfInBounds_toArray, List.set_cons_zero, List.set_cons_succ]
    refine ways_take (i := 12) (d := some 17) (v := ?_) (by simp only [List.getElem?_toArray, List.getElem?_cons_succ, List.getElem?_cons_zero] <;> rfl) (by rfl) (by kernel_rfl) (by kernel_rfl) (by kernel_rfl) (fun _ _ _ h => h) (by rfl) ?_ ?_
    rotate_left
    · ((intro u hu); go_simp; try with_reducible rfl)
    try simp only [Act.put, List.setIfInBounds_toArray, List.set_cons_zero, List.set_cons_succ]
    refine ways_take (i := 13) (d := some 18) (v := ?_) (by simp only [List.getElem?_toArray, List.getElem?_cons_succ, List.getElem?_cons_zero] <;> rfl) (by rfl) (by kernel_rfl) (by kernel_rfl) (by kernel_rfl) (fun _ _ _ h => h) (by rfl) ?_ ?_
    rotate_left
    · ((intro u hu); go_simp; try with_reducible rfl)
    try simp only [Act.put, List.setIfInBounds_toArray, List.set_cons_zero, List.set_cons_succ]
    refine ways_take (i := 14) (d := some 4) (v := ?_) (by simp only [List.getElem?_toArray, List.getElem?_cons_succ, List.getElem?_cons_zero] <;> rfl) (by rfl) (by kernel_rfl) (by kernel_rfl) (by kernel_rfl) (fun _ _ _ h => h) (by rfl) ?_ ?_
    rotate_left
    · ((intro u hu); go_simp; try with_reducible rfl)
    try simp only [Act.put, List.setIfInBounds_toArray, List.set_cons_zero, List.set_cons_succ]
    refine ways_done (by kernel_rfl) (fun u hu => ?_) _
    replace hB := gb_trans hB hu
    clear hu
    go_wp2_with fail
    go_ret
    exact ⟨ret_bool (HQ.out.trans HR.out.symm), below_gb2 hB⟩
  · have HR := Lib.hid (show ctB s hi lo n t h l = false by simp [ctB, hst])
    have b0 : (s == t) = false := by simp [hst]
    clear hst
    go_enter Tryd.func58, Tryd.ntmps58
    go_wp2_with fail
    refine ways_begin (none) (by kernel_rfl) ?_
    replace hB := gb_drew hB
    refine ways_take (i := 0) (d := some 5) (v := ?_) (by simp only [List.getElem?_toArray, List.getElem?_cons_succ, List.getElem?_cons_zero] <;> rfl) (by rfl) (by kernel_rfl) (by kernel_rfl) (by kernel_rfl) (fun _ _ _ h => h) (by rfl) ?_ ?_
    rotate_left
    · ((intro u hu); go_simp; try with_reducible rfl)
    try simp only [Act.put, List.setIfInBounds_toArray, List.set_cons_zero, List.set_cons_succ]
    refine ways_take (i := 1) (d := some 6) (v := ?_) (by simp only [List.getElem?_toArray, List.getElem?_cons_succ, List.getElem?_cons_zero] <;> rfl) (by rfl) (by kernel_rfl) (by kernel_rfl) (by kernel_rfl) (fun _ _ _ h => h) (by rfl) ?_ ?_
    rotate_left
    · ((intro u hu); go_simp; try with_reducible rfl)
    try simp only [Act.put, List.setIfInBounds_toArray, List.set_cons_zero, List.set_cons_succ]
    refine ways_take (i := 2) (d := some 7) (v := ?_) (by simp only [List.getElem?_toArray, List.getElem?_cons_succ, List.getElem?_cons_zero] <;> rfl) (by rfl) (by kernel_rfl) (by kernel_rfl) (by kernel_rfl) (fun _ _ _ h => h) (by rfl) ?_ ?_
    rotate_left
    · ((intro u hu); obtain ⟨⟨c0, c1, c2, c3, _⟩, ⟨d0, d1, d2, _⟩⟩ := HF.out u (gb_trans hB hu); go_simp; try with_reducible rfl)
    try simp only [Act.put, List.setIfInBounds_toArray, List.set_cons_zero, List.set_cons_succ]
    refine ways_take (i := 3) (d := some 8) (v := ?_) (by simp only [List.getElem?_toArray, List.getElem?_cons_succ, List.getElem?_cons_zero] <;> rfl) (by rfl) (by kernel_rfl) (by kernel_rfl) (by kernel_rfl) (fun _ _ _ h => h) (by rfl) ?_ ?_
    rotate_left
    · ((intro u hu); go_simp; try with_reducible rfl)
    try simp only [Act.put, List.setIfInBounds_toArray, List.set_cons_zero, List.set_cons_succ]
    refine ways_take (i := 4) (d := some 9) (v := ?_) (by simp only [List.getElem?_toArray, List.getElem?_cons_succ, List.getElem?_cons_zero] <;> rfl) (by rfl) (by kernel_rfl) (by kernel_rfl) (by kernel_rfl) (fun _ _ _ h => h) (by rfl) ?_ ?_
    rotate_left
    · ((intro u hu); obtain ⟨⟨c0, c1, c2, c3, _⟩, ⟨d0, d1, d2, _⟩⟩ := HF.out u (gb_trans hB hu); go_simp; try with_reducible rfl)
    try simp only [Act.put, List.setIfInBounds_toArray, List.set_cons_zero, List.set_cons_succ]
    refine ways_take (i := 5) (d := some 10) (v := ?_) (by simp only [List.getElem?_toArray, List.getElem?_cons_succ, List.getElem?_cons_zero] <;> rfl) (by rfl) (by kernel_rfl) (by kernel_rfl) (by kernel_rfl) (fun _ _ _ h => h) (by rfl) ?_ ?_
    rotate_left
    · ((intro u hu); go_simp; try with_reducible rfl)
    try simp only [Act.put, List.setIfInBounds_toArray, List.set_cons_zero, List.set_cons_succ]
    refine ways_take (i := 6) (d := some 11) (v := ?_) (by simp only [List.getElem?_toArray, List.getElem?_cons_succ, List.getElem?_cons_zero] <;> rfl) (by rfl) (by kernel_rfl) (by kernel_rfl) (by kernel_rfl) (fun _ _ _ h => h) (by rfl) ?_ ?_
    rotate_left
    · ((intro u hu); go_simp; try with_reducible rfl)
    try simp only [Act.put, List.setIfInBounds_toArray, List.set_cons_zero, List.set_cons_succ]
    refine ways_skip (i := 7) (d := some 12) (by simp only [List.getElem?_toArray, List.getElem?_cons_succ, List.getElem?_cons_zero] <;> rfl) (by rfl) (by kernel_rfl) (by kernel_rfl) (by kernel_rfl) (fun _ _ _ h => h) (by rfl) ?_
    try simp only [Act.put, List.setIfInBounds_toArray, List.set_cons_zero, List.set_cons_succ]
    refine ways_skip (i := 8) (d := some 13) (by simp only [List.getElem?_toArray, List.getElem?_cons_succ, List.getElem?_cons_zero] <;> rfl) (by rfl) (by kernel_rfl) (by kernel_rfl) (by kernel_rfl) (fun _ _ _ h => h) (by rfl) ?_
    try simp only [Act.put, List.setIfInBounds_toArray, List.set_cons_zero, List.set_cons_succ]
    refine ways_skip (i := 9) (d := some 14) (by simp only [List.getElem?_toArray, List.getElem?_cons_succ, List.getElem?_cons_zero] <;> rfl) (by rfl) (by kernel_rfl) (by kernel_rfl) (by kernel_rfl) (fun _ _ _ h => h) (by rfl) ?_
    try simp only [Act.put, List.setIfInBounds_toArray, List.set_cons_zero, List.set_cons_succ]
    refine ways_skip (i := 10) (d := some 15) (by simp only [List.getElem?_toArray, List.getElem?_cons_succ, List.getElem?_cons_zero] <;> rfl) (by rfl) (by kernel_rfl) (by kernel_rfl) (by kernel_rfl) (fun _ _ _ h => h) (by rfl) ?_
    try simp only [Act.put, List.setIfInBounds_toArray, List.set_cons_zero, List.set_cons_succ]
    refine ways_skip (i := 11) (d := some 16) (by simp only [List.getElem?_toArray, List.getElem?_cons_succ, List.getElem?_cons_zero] <;> rfl) (by rfl) (by kernel_rfl) (by kernel_rfl) (by kernel_rfl) (fun _ _ _ h => h) (by rfl) ?_
    try simp only [Act.put, List.setIfInBounds_toArray, List.set_cons_zero, List.set_cons_succ]
    refine ways_skip (i := 12) (d := some 17) (by simp only [List.getElem?_toArray, List.getElem?_cons_succ, List.getElem?_cons_zero] <;> rfl) (by rfl) (by kernel_rfl) (by kernel_rfl) (by kernel_rfl) (fun _ _ _ h => h) (by rfl) ?_
    try simp only [Act.put, List.setIfInBounds_toArray, List.set_cons_zero, List.set_cons_succ]
    refine ways_take (i := 13) (d := some 18) (v := ?_) (by simp only [List.getElem?_toArray, List.getElem?_cons_succ, List.getElem?_cons_zero] <;> rfl) (by rfl) (by kernel_rfl) (by kernel_rfl) (by kernel_rfl) (fun _ _ _ h => h) (by rfl) ?_ ?_
    rotate_left
    · ((intro u hu); go_simp; try with_reducible rfl)
    try simp only [Act.put, List.setIfInBounds_toArray, List.set_cons_zero, List.set_cons_succ]
    refine ways_take (i := 14) (d := some 4) (v := ?_) (by simp only [List.getElem?_toArray, List.getElem?_cons_succ, List.getElem?_cons_zero] <;> rfl) (by rfl) (by kernel_rfl) (by kernel_rfl) (by kernel_rfl) (fun _ _ _ h => h) (by rfl) ?_ ?_
    rotate_left
    · ((intro u hu); go_simp; try with_reducible rfl)
    try simp only [Act.put, List.setIfInBounds_toArray, List.set_cons_zero, List.set_cons_succ]
    refine ways_done (by kernel_rfl) (fun u hu => ?_) _
    replace hB := gb_trans hB hu
    clear hu
    go_wp2_with fail
    go_ret
    exact ⟨ret_bool HR.out.symm, below_gb2 hB⟩

/-- Contains' error. -/
def coE (s : Bool) (hi lo n : Int) (t : Bool) (h l : Int) : Int := firstZ [pfF s hi lo n, adF t h l]
/-- What Contains and its like say: false where there is an error. -/
def okB (e : Int) (b : Bool) : Bool := e == 0 && b

theorem ok_zero (b : Bool) : okB 0 b = b := by simp [okB]
theorem firstZ_two (a b : Int) : firstZ [a, b] = if a = 0 then b else a := by
  simp only [firstZ]
  split
  · split <;> simp_all
  · rfl

set_option linter.unusedSimpArgs false in
set_option maxHeartbeats 1000000 in
theorem addrContains_any (s : Bool) (hi lo n : Int) (t : Bool) (h l : Int) (w : World) (h1 : 0 ≤ hi) (h2 : hi < 18446744073709551616) (h3 : 0 ≤ lo) (h4 : lo < 18446744073709551616)
    (k1 : 0 ≤ h) (k2 : h < 18446744073709551616) (k3 : 0 ≤ l) (k4 : l < 18446744073709551616) :
    Calls Tryd.prog 22 #[.agg #[.bool s, .int .u64 hi, .int .u64 lo, .int .i64 n], .agg #[.bool t, .int .u64 h, .int .u64 l]] w (GivesV (.tuple #[.bool (okB (coE s hi lo n t h l) (ctB s hi lo n t h l)), .int .i64 (coE s hi lo n t h l)]) w) := by
  have HF : Hid (∀ u, ((w.alloc (.cells #[.bool s, .int .u64 hi, .int .u64 lo, .int .i64 n] 42)).alloc (.cells #[.bool t, .int .u64 h, .int .u64 l] 28)).grownBy u none → _) :=
    Lib.hid fun u hu => And.intro ((blk2 w [.bool s, .int .u64 hi, .int .u64 lo, .int .i64 n] [.bool t, .int .u64 h, .int .u64 l] _ _).1.gn hu).four ((blk2 w [.bool s, .int .u64 hi, .int .u64 lo, .int .i64 n] [.bool t, .int .u64 h, .int .u64 l] _ _).2.gn hu).three
  have hB := gb_refl ((w.alloc (.cells #[.bool s, .int .u64 hi, .int .u64 lo, .int .i64 n] 42)).alloc (.cells #[.bool t, .int .u64 h, .int .u64 l] 28)) none
  have HC := fun w' => Lib.hid (checkPrefix_any s hi lo n w' h1 h2 h3 h4)
  by_cases he : coE s hi lo n t h l = 0
  · have hp : pfF s hi lo n = 0 := by
      unfold coE at he; rw [firstZ_two] at he; split at he <;> simp_all
    have HM := fun w' => Lib.hid (contains_any s hi lo n t h l w' h1 h2 h3 h4 k1 k2 k3 k4 (pfF_zero hp).2.1 (pfF_zero hp).2.2.1)
    have HE := Lib.hid he
    have HE' := Lib.hid (show firstZ [pfF s hi lo n, adF t h l] = 0 from he)
    clear he hp
    go_enter Tryd.func22, Tryd.ntmps22
    go_wp2_with fail
    refine ways_begin (none) (by kernel_rfl) ?_
    replace hB := gb_drew hB
    refine ways_take (i := 0) (d := some 7) (v := ?_) (by simp only [List.getElem?_toArray, List.getElem?_cons_succ, List.getElem?_cons_zero] <;> rfl) (by rfl) (by kernel_rfl) (by kernel_rfl) (by kernel_rfl) (fun _ _ _ h => h) (by rfl) ?_ ?_
    rotate_left
    · ((intro u hu); obtain ⟨⟨c0, c1, c2, c3, _⟩, ⟨d0, d1, d2, _⟩⟩ := HF.out u (gb_trans hB hu); go_simp; try with_reducible rfl)
    try simp only [Act.put, List.setIfInBounds_toArray, List.set_cons_zero, List.set_cons_succ]
    refine ways_take (i := 2) (d := some 9) (v := ?_) (by simp only [List.getElem?_toArray, List.getElem?_cons_succ, List.getElem?_cons_zero] <;> rfl) (by rfl) (by kernel_rfl) (by kernel_rfl) (by kernel_rfl) (fun _ _ _ h => h) (by rfl) ?_ ?_
    rotate_left
    · ((intro u hu); obtain ⟨⟨c0, c1, c2, c3, _⟩, ⟨d0, d1, d2, _⟩⟩ := HF.out u (gb_trans hB hu); go_simp; try with_reducible rfl)
    try simp only [Act.put, List.setIfInBounds_toArray, List.set_cons_zero, List.set_cons_succ]
    refine ways_one (i := 1) (by simp only [List.getElem?_toArray, List.getElem?_cons_succ, List.getElem?_cons_zero] <;> rfl) (by kernel_rfl) (by rfl) (fun u hu K hK => ?_)
    replace hB := gb_trans hB hu
    go_simp
    refine ((HC _).out).mono ?_
    rintro e w101 ⟨rfl, hb1⟩
    have hg1 := gbB (r := none) hb1
    refine hK.out _ _ hg1 ?_
    replace hB := gb_trans hB hg1
    clear hK K hu
    try simp only [Act.put, List.setIfInBounds_toArray, List.set_cons_zero, List.set_cons_succ]
    refine ways_one (i := 3) (by simp only [List.getElem?_toArray, List.getElem?_cons_succ, List.getElem?_cons_zero] <;> rfl) (by kernel_rfl) (by rfl) (fun u hu K hK => ?_)
    replace hB := gb_trans hB hu
    go_simp
    refine (checkAddr_any _ _ _ _).mono ?_
    rintro e w103 ⟨rfl, hb3⟩
    have hg3 := gbB (r := none) hb3
    refine hK.out _ _ hg3 ?_
    replace hB := gb_trans hB hg3
    clear hK K hu
    try simp only [Act.put, List.setIfInBounds_toArray, List.set_cons_zero, List.set_cons_succ]
    refine ways_one (i := 4) (by simp only [List.getElem?_toArray, List.getElem?_cons_succ, List.getElem?_cons_zero] <;> rfl) (by kernel_rfl) (by rfl) (fun u hu K hK => ?_)
    replace hB := gb_trans hB hu
    go_simp
    refine hK.out _ _ (World.grownBy_alloc _ _ _) ?_
    clear hK K hu
    try simp only [Act.put, List.setIfInBounds_toArray, List.set_cons_zero, List.set_cons_succ]
    refine ways_one (i := 5) (by simp only [List.getElem?_toArray, List.getElem?_cons_succ, List.getElem?_cons_zero] <;> rfl) (by kernel_rfl) (by rfl) (fun u hu K hK => ?_)
    replace hB := gb_trans hB (gb_trans (World.grownBy_alloc _ _ _) hu)
    go_simp
    refine (or_after [pfF s hi lo n, adF t h l] _ (by simp) (by simp) hu).mono ?_
    rintro e w105 ⟨rfl, rfl⟩
    have hg5 := gb_refl u (none)
    refine hK.out _ _ hg5 ?_
    replace hB := gb_trans hB hg5
    clear hK K hu
    try simp only [Act.put, List.setIfInBounds_toArray, List.set_cons_zero, List.set_cons_succ]
    refine ways_take (i := 6) (d := some 6) (v := ?_) (by simp only [List.getElem?_toArray, List.getElem?_cons_succ, List.getElem?_cons_zero] <;> rfl) (by rfl) (by kernel_rfl) (by kernel_rfl) (by kernel_rfl) (fun _ _ _ h => h) (by rfl) ?_ ?_
    rotate_left
    · ((intro u hu); go_simp; try with_reducible rfl)
    try simp only [Act.put, List.setIfInBounds_toArray, List.set_cons_zero, List.set_cons_succ]
    refine ways_done (by kernel_rfl) (fun u hu => ?_) _
    replace hB := gb_trans hB hu
    clear hu
    obtain ⟨⟨c0, c1, c2, c3, _⟩, ⟨d0, d1, d2, _⟩⟩ := HF.out _ hB
    rw [HE'.out]
    go_wp2_with fail
    refine (HM _).out.mono ?_
    rintro e w2 ⟨rfl, hb2⟩
    go_wp2_with fail
    go_ret2
    exact ⟨ret_be (by rw [HE.out]; exact (ok_zero _).symm) HE.out.symm, (below_gb2 hB).trans (hb2.mono (below_gb2 hB).size)⟩
  · have HR := Lib.hid (show okB (coE s hi lo n t h l) (ctB s hi lo n t h l) = false by simp [okB, he])
    have b0 : (coE s hi lo n t h l != 0) = true := by simp [he]
    have HE := Lib.hid (show firstZ [pfF s hi lo n, adF t h l] = coE s hi lo n t h l from rfl)
    clear he
    go_enter Tryd.func22, Tryd.ntmps22
    go_wp2_with fail
    refine ways_begin (none) (by kernel_rfl) ?_
    replace hB := gb_drew hB
    refine ways_take (i := 0) (d := some 7) (v := ?_) (by simp only [List.getElem?_toArray, List.getElem?_cons_succ, List.getElem?_cons_zero] <;> rfl) (by rfl) (by kernel_rfl) (by kernel_rfl) (by kernel_rfl) (fun _ _ _ h => h) (by rfl) ?_ ?_
    rotate_left
    · ((intro u hu); obtain ⟨⟨c0, c1, c2, c3, _⟩, ⟨d0, d1, d2, _⟩⟩ := HF.out u (gb_trans hB hu); go_simp; try with_reducible rfl)
    try simp only [Act.put, List.setIfInBounds_toArray, List.set_cons_zero, List.set_cons_succ]
    refine ways_take (i := 2) (d := some 9) (v := ?_) (by simp only [List.getElem?_toArray, List.getElem?_cons_succ, List.getElem?_cons_zero] <;> rfl) (by rfl) (by kernel_rfl) (by kernel_rfl) (by kernel_rfl) (fun _ _ _ h => h) (by rfl) ?_ ?_
    rotate_left
    · ((intro u hu); obtain ⟨⟨c0, c1, c2, c3, _⟩, ⟨d0, d1, d2, _⟩⟩ := HF.out u (gb_trans hB hu); go_simp; try with_reducible rfl)
    try simp only [Act.put, List.setIfInBounds_toArray, List.set_cons_zero, List.set_cons_succ]
    refine ways_one (i := 1) (by simp only [List.getElem?_toArray, List.getElem?_cons_succ, List.getElem?_cons_zero] <;> rfl) (by kernel_rfl) (by rfl) (fun u hu K hK => ?_)
    replace hB := gb_trans hB hu
    go_simp
    refine ((HC _).out).mono ?_
    rintro e w101 ⟨rfl, hb1⟩
    have hg1 := gbB (r := none) hb1
    refine hK.out _ _ hg1 ?_
    replace hB := gb_trans hB hg1
    clear hK K hu
    try simp only [Act.put, List.setIfInBounds_toArray, List.set_cons_zero, List.set_cons_succ]
    refine ways_one (i := 3) (by simp only [List.getElem?_toArray, List.getElem?_cons_succ, List.getElem?_cons_zero] <;> rfl) (by kernel_rfl) (by rfl) (fun u hu K hK => ?_)
    replace hB := gb_trans hB hu
    go_simp
    refine (checkAddr_any _ _ _ _).mono ?_
    rintro e w103 ⟨rfl, hb3⟩
    have hg3 := gbB (r := none) hb3
    refine hK.out _ _ hg3 ?_
    replace hB := gb_trans hB hg3
    clear hK K hu
    try simp only [Act.put, List.setIfInBounds_toArray, List.set_cons_zero, List.set_cons_succ]
    refine ways_one (i := 4) (by simp only [List.getElem?_toArray, List.getElem?_cons_succ, List.getElem?_cons_zero] <;> rfl) (by kernel_rfl) (by rfl) (fun u hu K hK => ?_)
    replace hB := gb_trans hB hu
    go_simp
    refine hK.out _ _ (World.grownBy_alloc _ _ _) ?_
    clear hK K hu
    try simp only [Act.put, List.setIfInBounds_toArray, List.set_cons_zero, List.set_cons_succ]
    refine ways_one (i := 5) (by simp only [List.getElem?_toArray, List.getElem?_cons_succ, List.getElem?_cons_zero] <;> rfl) (by kernel_rfl) (by rfl) (fun u hu K hK => ?_)
    replace hB := gb_trans hB (gb_trans (World.grownBy_alloc _ _ _) hu)
    go_simp
    refine (or_after [pfF s hi lo n, adF t h l] _ (by simp) (by simp) hu).mono ?_
    rintro e w105 ⟨rfl, rfl⟩
    have hg5 := gb_refl u (none)
    refine hK.out _ _ hg5 ?_
    replace hB := gb_trans hB hg5
    clear hK K hu
    try simp only [Act.put, List.setIfInBounds_toArray, List.set_cons_zero, List.set_cons_succ]
    refine ways_take (i := 6) (d := some 6) (v := ?_) (by simp only [List.getElem?_toArray, List.getElem?_cons_succ, List.getElem?_cons_zero] <;> rfl) (by rfl) (by kernel_rfl) (by kernel_rfl) (by kernel_rfl) (fun _ _ _ h => h) (by rfl) ?_ ?_
    rotate_left
    · ((intro u hu); go_simp; try with_reducible rfl)
    try simp only [Act.put, List.setIfInBounds_toArray, List.set_cons_zero, List.set_cons_succ]
    refine ways_done (by kernel_rfl) (fun u hu => ?_) _
    replace hB := gb_trans hB hu
    clear hu
    rw [HE.out]
    go_wp2_with fail
    go_ret2
    exact ⟨ret_be HR.out.symm rfl, below_gb2 hB⟩
end Go.Proofs.YtlnflihnmdpilaaDoor
