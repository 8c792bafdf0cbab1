/- Prefixes: CommonOf, Common. -/
import Derived.Test.YtlnflihnmdpilaaDoorPfxF
namespace Go.Proofs.YtlnflihnmdpilaaDoor
open Go.RowKit
set_option linter.unusedVariables false
set_option linter.unusedSimpArgs false

theorem blk3 (w : World) (xs ys zs : List Value) (t t' t'' : TypeId) : Blk (((w.alloc (.cells xs.toArray t)).alloc (.cells ys.toArray t')).alloc (.cells zs.toArray t'')) w.heap.size xs t ∧
    Blk (((w.alloc (.cells xs.toArray t)).alloc (.cells ys.toArray t')).alloc (.cells zs.toArray t'')) (w.heap.size + 1) ys t' ∧ Blk (((w.alloc (.cells xs.toArray t)).alloc (.cells ys.toArray t')).alloc (.cells zs.toArray t'')) (w.heap.size + 2) zs t'' := by
  refine ⟨(blk2 w xs ys t t').1.alloc _, (blk2 w xs ys t t').2.alloc _, ?_⟩
  have := Blk.new ((w.alloc (.cells xs.toArray t)).alloc (.cells ys.toArray t')) zs t''
  simpa using this
theorem below_3 (w : World) (o o' o'' : Obj) : Below w.heap.size w (((w.alloc o).alloc o').alloc o'') := (below_two w o o').alloc (by simp; omega) _
theorem below_gb3 {w u : World} {o o' o'' : Obj} (h : (((w.alloc o).alloc o').alloc o'').grownBy u none) : Below w.heap.size w u := (below_3 w o o' o'').trans ((gb2B h).mono (by simp; omega))

/-- The least of three numbers, as the walk writes it. -/
def cbZ (n m z : Int) : Int := if z < (if m < n then m else n) then z else (if m < n then m else n)
theorem cbZ_le (n m z : Int) : cbZ n m z ≤ n ∧ cbZ n m z ≤ m ∧ cbZ n m z ≤ z ∧ (cbZ n m z = n ∨ cbZ n m z = m ∨ cbZ n m z = z) := by
  unfold cbZ; split <;> split <;> omega

theorem num_lt_len {s : Bool} {hi lo n : Int} (h2 : hi < 18446744073709551616) (h4 : lo < 18446744073709551616) (h3 : 0 ≤ lo) (hf : pfF s hi lo n = 0) : num hi lo < 2 ^ (lenZ s).toNat := by
  have hz := (pfF_zero hf).1
  cases s
  · obtain ⟨rfl, hlo⟩ := adF_four hz
    have e : (lenZ false).toNat = 32 := rfl
    rw [e]; unfold num; omega
  · exact num_lt h2 h4

/-- Two right prefixes of one kind: how many bits they have in common. -/
theorem eqZ_ok {s : Bool} {hi lo n h l m : Int} (h2 : hi < 18446744073709551616) (h3 : 0 ≤ lo) (h4 : lo < 18446744073709551616) (k2 : h < 18446744073709551616) (k3 : 0 ≤ l) (k4 : l < 18446744073709551616)
    (hf : pfF s hi lo n = 0) (hg : pfF s h l m = 0) :
    0 ≤ eqZ s hi lo h l ∧ ∀ b : Int, 0 ≤ b → b ≤ m → wtB (num h l) (lenZ s - m).toNat s (clr (num hi lo) (lenZ s - b).toNat) (lenZ s - b).toNat s = decide (b ≤ eqZ s hi lo h l) := by
  have hl : lenZ s = 32 ∨ lenZ s = 128 := by cases s <;> simp [lenZ]
  have a1 := num_lt_len h2 h4 h3 hf
  have a2 := num_lt_len k2 k4 k3 hg
  have hx : num hi lo ^^^ num h l < 2 ^ (lenZ s).toNat := Nat.xor_lt_two_pow a1 a2
  have hX : num hi lo ^^^ num h l < 2 ^ 128 := Nat.xor_lt_two_pow (num_lt h2 h4) (num_lt k2 k4)
  have hb := (bl_iff _ hX _).1 hx
  have hq := (pfF_zero hg).2.2.2
  have hm2 := (pfF_zero hg).2.2.1
  refine ⟨by unfold eqZ; omega, fun b hb0 hbm => ?_⟩
  rw [wtB_eq hq (clr_idem _ _)]
  have e := bl_iff _ hX (lenZ s - b).toNat
  have c := clr_same (num hi lo) (num h l) (lenZ s - b).toNat
  rw [beq_self_eq_true, Bool.true_and]
  apply decide_eq_decide.2
  unfold eqZ
  constructor
  · rintro ⟨g1, g2⟩
    have := e.1 (c.1 g2.symm)
    omega
  · intro g
    exact ⟨by omega, (c.2 (e.2 (by omega))).symm⟩

set_option linter.unusedSimpArgs false in
set_option maxRecDepth 100000 in
set_option maxHeartbeats 2000000 in
theorem commonOf_any (s : Bool) (hi lo n : Int) (h l m : Int) (w : World) (h1 : 0 ≤ hi) (h2 : hi < 18446744073709551616) (h3 : 0 ≤ lo) (h4 : lo < 18446744073709551616)
    (k1 : 0 ≤ h) (k2 : h < 18446744073709551616) (k3 : 0 ≤ l) (k4 : l < 18446744073709551616) (hf : pfF s hi lo n = 0) (hg : pfF s h l m = 0) :
    Calls Tryd.prog 32 #[.agg #[.bool s, .int .u64 hi, .int .u64 lo, .int .i64 n], .agg #[.bool s, .int .u64 h, .int .u64 l, .int .i64 m]] w (GivesV (maskV s hi lo (cbZ n m (eqZ s hi lo h l))) w) := by
  obtain ⟨hZ0, hW⟩ := eqZ_ok h2 h3 h4 k2 k3 k4 hf hg
  have hp := pfF_zero hf
  have hq := pfF_zero hg
  have hn1 := hp.2.1
  have hn2 := hp.2.2.1
  have hm1 := hq.2.1
  have hm2 := hq.2.2.1
  have hl : lenZ s = 32 ∨ lenZ s = 128 := by cases s <;> simp [lenZ]
  have HMk := fun b w' (hb1 : 0 ≤ b) (hb2 : b ≤ lenZ s) => maskOf_any s hi lo b w' h1 h2 h3 h4 hb1 hb2
  have hcl := fun b => clr_lt (k := (lenZ s - b).toNat) (num_lt h2 h4)
  have HWi := fun b w' (hb1 : 0 ≤ b) (hb2 : b ≤ lenZ s) => within_any s h l m s _ _ b w' k1 k2 k3 k4 (halves_lt _ (hcl b)).1.1 (halves_lt _ (hcl b)).1.2 (halves_lt _ (hcl b)).2.1 (halves_lt _ (hcl b)).2.2 hm1 hm2 hb1 hb2
  simp only [num_halves _ (hcl _)] at HWi
  have hc := cbZ_le n m (eqZ s hi lo h l)
  generalize eqZ s hi lo h l = Z at hZ0 hW hc ⊢
  generalize hC : cbZ n m Z = C at hc ⊢
  have hC0 : 0 ≤ C := by omega
  have HWi2 : ∀ b w', 0 ≤ b → b ≤ m → b ≤ lenZ s → Hid (Calls Tryd.prog 31 #[.agg #[.bool s, .int .u64 h, .int .u64 l, .int .i64 m], maskV s hi lo b] w' (GivesV (.bool (decide (b ≤ Z))) w')) := fun b w' a1 a2 a3 => by
    have := HWi b w' a1 a3
    rw [hW b a1 a2] at this
    exact this
  have HMk2 := fun b w' (hb1 : 0 ≤ b) (hb2 : b ≤ lenZ s) => Lib.hid (HMk b w' hb1 hb2)
  clear HWi hcl HMk hp hq hf hg hW
  have hX := (blk3 w [.bool s, .int .u64 hi, .int .u64 lo, .int .i64 n] [.bool s, .int .u64 h, .int .u64 l, .int .i64 m] [.bool false, .int .u64 0, .int .u64 0, .int .i64 0] 42 42 42)
  have hB0 := below_3 w (.cells #[.bool s, .int .u64 hi, .int .u64 lo, .int .i64 n] 42) (.cells #[.bool s, .int .u64 h, .int .u64 l, .int .i64 m] 42) (.cells #[.bool false, .int .u64 0, .int .u64 0, .int .i64 0] 42)
  obtain ⟨hX1, hX2, hX3⟩ := hX
  have hmn : ∃ mn : Int, min n m = mn ∧ mn ≤ n ∧ mn ≤ m ∧ C ≤ mn ∧ (C = mn ∨ C = Z) := ⟨_, rfl, by omega, by omega, by omega, by omega⟩
  obtain ⟨mn, hmn, g1, g2, g3, g4⟩ := hmn
  clear hC
  go_enter Tryd.func32, Tryd.ntmps32
  go_wp2_with fail
  go_loopw [5] (fun c wr => ∃ b : Int, C ≤ b ∧ b ≤ mn ∧ c = .int .i64 b ∧ Blk wr w.heap.size [.bool s, .int .u64 hi, .int .u64 lo, .int .i64 n] 42 ∧ Blk wr (w.heap.size + 1) [.bool s, .int .u64 h, .int .u64 l, .int .i64 m] 42 ∧ Blk wr (w.heap.size + 2) [.bool false, .int .u64 0, .int .u64 0, .int .i64 0] 42 ∧ Below w.heap.size w wr) (fun c _ => (intOf c - C).toNat)
  case atStart => exact ⟨mn, g3, Int.le_refl _, rfl, hX1, hX2, hX3, hB0⟩
  case round =>
    clear hX1 hX2 hX3 hB0
    obtain ⟨b, hb1, hb2, rfl, hY1, hY2, hY3, hY4⟩ := hrel
    obtain ⟨MH, hMH⟩ : ∃ x : Int, x = ((clr (num hi lo) (lenZ s - b).toNat / 2 ^ 64 : Nat) : Int) := ⟨_, rfl⟩
    obtain ⟨ML, hML⟩ : ∃ x : Int, x = ((clr (num hi lo) (lenZ s - b).toNat % 2 ^ 64 : Nat) : Int) := ⟨_, rfl⟩
    have HM : ∀ w', Hid (Calls Tryd.prog 18 #[.agg #[.bool s, .int .u64 hi, .int .u64 lo], .int .i64 b] w' (GivesV (.agg #[.bool s, .int .u64 MH, .int .u64 ML, .int .i64 b]) w')) := fun w' => by
      rw [hMH, hML]; exact HMk2 b w' (by omega) (by omega)
    have HN : ∀ w', Hid (Calls Tryd.prog 31 #[.agg #[.bool s, .int .u64 h, .int .u64 l, .int .i64 m], .agg #[.bool s, .int .u64 MH, .int .u64 ML, .int .i64 b]] w' (GivesV (.bool (decide (b ≤ Z))) w')) := fun w' => by
      rw [hMH, hML]; exact HWi2 b w' (by omega) (by omega) (by omega)
    have HV := Lib.hid (show (Value.agg #[.bool s, .int .u64 MH, .int .u64 ML, .int .i64 b]) = maskV s hi lo b by rw [hMH, hML])
    clear HMk2 HWi2 hMH hML hmn
    have hz := hY4.size
    by_cases hz : b ≤ Z
    · obtain rfl : b = C := by omega
      rw [show decide (b ≤ Z) = true from decide_eq_true hz] at HN
      obtain ⟨c0, c1, c2, c3, _⟩ := hY1.four
      go_wp2_with fail
      refine (HM _).out.mono ?_
      rintro e w1 ⟨rfl, hb1'⟩
      have hY1' := hY1.below hb1'
      have hY2' := (hY2.below hb1').alloc (.cells #[.bool s, .int .u64 MH, .int .u64 ML, .int .i64 b] 42)
      have hY3' := (hY3.below hb1').alloc (.cells #[.bool s, .int .u64 MH, .int .u64 ML, .int .i64 b] 42)
      have hXX := Blk.new w1 [.bool s, .int .u64 MH, .int .u64 ML, .int .i64 b] 42
      have hY5 := hY4.trans (hb1'.mono hY4.size)
      have hY6 := hY5.alloc hY5.size (.cells #[.bool s, .int .u64 MH, .int .u64 ML, .int .i64 b] 42)
      obtain ⟨d0, d1, d2, d3, _⟩ := hY2'.four
      clear c0 c1 c2 c3 hb1' hY1 hY2 hY3
      go_wp2_with fail
      refine (HN _).out.mono ?_
      rintro e w2 ⟨rfl, hb2'⟩
      obtain ⟨x0, x1, x2, x3, _⟩ := (hXX.below hb2').four
      obtain ⟨z0, z1, z2, z3, f0, f1, f2, f3⟩ := (hY3'.below hb2').four
      have hY7 := hY6.trans (hb2'.mono hY6.size)
      clear d0 d1 d2 d3 hb2' hXX hY3'
      go_wp2_with fail
      refine bodyPost_ret ?_ rfl ⟨congrArg Ending.returned HV.out, ?_⟩
      · simp [results, Tryd.results32, go_sem, z0, z1, z2, z3]
      · exact below_four hY7 (by omega) _ _ _ _
    · rw [show decide (b ≤ Z) = false from decide_eq_false hz] at HN
      obtain ⟨c0, c1, c2, c3, _⟩ := hY1.four
      go_wp2_with fail
      refine (HM _).out.mono ?_
      rintro e w1 ⟨rfl, hb1'⟩
      have hY1' := (hY1.below hb1').alloc (.cells #[.bool s, .int .u64 MH, .int .u64 ML, .int .i64 b] 42)
      have hY2' := (hY2.below hb1').alloc (.cells #[.bool s, .int .u64 MH, .int .u64 ML, .int .i64 b] 42)
      have hY3' := (hY3.below hb1').alloc (.cells #[.bool s, .int .u64 MH, .int .u64 ML, .int .i64 b] 42)
      have hY5 := hY4.trans (hb1'.mono hY4.size)
      have hY6 := hY5.alloc hY5.size (.cells #[.bool s, .int .u64 MH, .int .u64 ML, .int .i64 b] 42)
      obtain ⟨d0, d1, d2, d3, _⟩ := hY2'.four
      clear c0 c1 c2 c3 hb1' hY1 hY2 hY3
      go_wp2_with fail
      refine (HN _).out.mono ?_
      rintro e w2 ⟨rfl, hb2'⟩
      have hY1'' := hY1'.below hb2'
      have hY2'' := hY2'.below hb2'
      have hY3'' := hY3'.below hb2'
      have hY7 := hY6.trans (hb2'.mono hY6.size)
      clear d0 d1 d2 d3 hb2' hY1' hY2' hY3'
      go_wp2_with fail
      exact ⟨⟨b - 1, by omega, by omega, rfl, hY1'', hY2'', hY3'', hY7⟩, by simp [intOf]; omega⟩

set_option linter.unusedSimpArgs false in
set_option maxRecDepth 100000 in
set_option maxHeartbeats 2000000 in
theorem common_bad (s : Bool) (hi lo n : Int) (t : Bool) (h l m : Int) (w : World) (h1 : 0 ≤ hi) (h2 : hi < 18446744073709551616) (h3 : 0 ≤ lo) (h4 : lo < 18446744073709551616)
    (k1 : 0 ≤ h) (k2 : h < 18446744073709551616) (k3 : 0 ≤ l) (k4 : l < 18446744073709551616) (he : twE s hi lo n t h l m ≠ 0) :
    Calls Tryd.prog 24 #[.agg #[.bool s, .int .u64 hi, .int .u64 lo, .int .i64 n], .agg #[.bool t, .int .u64 h, .int .u64 l, .int .i64 m]] w (GivesV (pfR zeroP (twE s hi lo n t h l m)) w) := by
  have HF : Hid (∀ u, (((w.alloc (.cells #[.bool s, .int .u64 hi, .int .u64 lo, .int .i64 n] 42)).alloc (.cells #[.bool t, .int .u64 h, .int .u64 l, .int .i64 m] 42)).alloc (.cells #[.bool false, .int .u64 0, .int .u64 0, .int .i64 0] 42)).grownBy u none → _) :=
    Lib.hid fun u hu => And.intro ((blk3 w [.bool s, .int .u64 hi, .int .u64 lo, .int .i64 n] [.bool t, .int .u64 h, .int .u64 l, .int .i64 m] [.bool false, .int .u64 0, .int .u64 0, .int .i64 0] _ _ _).1.gn hu).four (And.intro ((blk3 w [.bool s, .int .u64 hi, .int .u64 lo, .int .i64 n] [.bool t, .int .u64 h, .int .u64 l, .int .i64 m] [.bool false, .int .u64 0, .int .u64 0, .int .i64 0] _ _ _).2.1.gn hu).four ((blk3 w [.bool s, .int .u64 hi, .int .u64 lo, .int .i64 n] [.bool t, .int .u64 h, .int .u64 l, .int .i64 m] [.bool false, .int .u64 0, .int .u64 0, .int .i64 0] _ _ _).2.2.gn hu).four)
  have hB := gb_refl (((w.alloc (.cells #[.bool s, .int .u64 hi, .int .u64 lo, .int .i64 n] 42)).alloc (.cells #[.bool t, .int .u64 h, .int .u64 l, .int .i64 m] 42)).alloc (.cells #[.bool false, .int .u64 0, .int .u64 0, .int .i64 0] 42)) none
  have HC := fun s hi lo n w' h1 h2 h3 h4 => Lib.hid (checkPrefix_any s hi lo n w' h1 h2 h3 h4)
  have b0 : (twE s hi lo n t h l m != 0) = true := by simp [he]
  have HE := Lib.hid (show firstZ [pfF s hi lo n, pfF t h l m] = twE s hi lo n t h l m from rfl)
  clear he
  go_enter Tryd.func24, Tryd.ntmps24
  go_wp2_with fail
  refine ways_begin (none) (by kernel_rfl) ?_
  replace hB := gb_drew hB
  refine ways_take (i := 0) (d := some 7) (v := ?_) (by simp only [List.getElem?_toArray, List.getElem?_cons_succ, List.getElem?_cons_zero] <;> rfl) (by rfl) (by kernel_rfl) (by kernel_rfl) (by kernel_rfl) (fun _ _ _ h => h) (by rfl) ?_ ?_
  rotate_left
  · ((intro u hu); obtain ⟨⟨c0, c1, c2, c3, _⟩, ⟨d0, d1, d2, d3, _⟩, _⟩ := HF.out u (gb_trans hB hu); go_simp; try with_reducible rfl)
  try simp only [Act.put, List.setIfInBounds_toArray, List.set_cons_zero, List.set_cons_succ]
  refine ways_take (i := 2) (d := some 9) (v := ?_) (by simp only [List.getElem?_toArray, List.getElem?_cons_succ, List.getElem?_cons_zero] <;> rfl) (by rfl) (by kernel_rfl) (by kernel_rfl) (by kernel_rfl) (fun _ _ _ h => h) (by rfl) ?_ ?_
  rotate_left
  · ((intro u hu); obtain ⟨⟨c0, c1, c2, c3, _⟩, ⟨d0, d1, d2, d3, _⟩, _⟩ := HF.out u (gb_trans hB hu); go_simp; try with_reducible rfl)
  try simp only [Act.put, List.setIfInBounds_toArray, List.set_cons_zero, List.set_cons_succ]
  refine ways_one (i := 1) (by simp only [List.getElem?_toArray, List.getElem?_cons_succ, List.getElem?_cons_zero] <;> rfl) (by kernel_rfl) (by rfl) (fun u hu K hK => ?_)
  replace hB := gb_trans hB hu
  go_simp
  refine ((HC _ _ _ _ _ h1 h2 h3 h4).out).mono ?_
  rintro e w101 ⟨rfl, hb1⟩
  have hg1 := gbB (r := none) hb1
  refine hK.out _ _ hg1 ?_
  replace hB := gb_trans hB hg1
  clear hK K hu
  try simp only [Act.put, List.setIfInBounds_toArray, List.set_cons_zero, List.set_cons_succ]
  refine ways_one (i := 3) (by simp only [List.getElem?_toArray, List.getElem?_cons_succ, List.getElem?_cons_zero] <;> rfl) (by kernel_rfl) (by rfl) (fun u hu K hK => ?_)
  replace hB := gb_trans hB hu
  go_simp
  refine ((HC _ _ _ _ _ k1 k2 k3 k4).out).mono ?_
  rintro e w103 ⟨rfl, hb3⟩
  have hg3 := gbB (r := none) hb3
  refine hK.out _ _ hg3 ?_
  replace hB := gb_trans hB hg3
  clear hK K hu
  try simp only [Act.put, List.setIfInBounds_toArray, List.set_cons_zero, List.set_cons_succ]
  refine ways_one (i := 4) (by simp only [List.getElem?_toArray, List.getElem?_cons_succ, List.getElem?_cons_zero] <;> rfl) (by kernel_rfl) (by rfl) (fun u hu K hK => ?_)
  replace hB := gb_trans hB hu
  go_simp
  refine hK.out _ _ (World.grownBy_alloc _ _ _) ?_
  clear hK K hu
  try simp only [Act.put, List.setIfInBounds_toArray, List.set_cons_zero, List.set_cons_succ]
  refine ways_one (i := 5) (by simp only [List.getElem?_toArray, List.getElem?_cons_succ, List.getElem?_cons_zero] <;> rfl) (by kernel_rfl) (by rfl) (fun u hu K hK => ?_)
  replace hB := gb_trans hB (gb_trans (World.grownBy_alloc _ _ _) hu)
  go_simp
  refine (or_after [pfF s hi lo n, pfF t h l m] _ (by simp) (by simp) hu).mono ?_
  rintro e w105 ⟨rfl, rfl⟩
  have hg5 := gb_refl u (none)
  refine hK.out _ _ hg5 ?_
  replace hB := gb_trans hB hg5
  clear hK K hu
  try simp only [Act.put, List.setIfInBounds_toArray, List.set_cons_zero, List.set_cons_succ]
  refine ways_take (i := 6) (d := some 6) (v := ?_) (by simp only [List.getElem?_toArray, List.getElem?_cons_succ, List.getElem?_cons_zero] <;> rfl) (by rfl) (by kernel_rfl) (by kernel_rfl) (by kernel_rfl) (fun _ _ _ h => h) (by rfl) ?_ ?_
  rotate_left
  · ((intro u hu); go_simp; try with_reducible rfl)
  try simp only [Act.put, List.setIfInBounds_toArray, List.set_cons_zero, List.set_cons_succ]
  refine ways_done (by kernel_rfl) (fun u hu => ?_) _
  replace hB := gb_trans hB hu
  clear hu
  obtain ⟨⟨c0, c1, c2, c3, _⟩, ⟨d0, d1, d2, d3, _⟩, ⟨z0, z1, z2, z3, f0, f1, f2, f3⟩⟩ := HF.out _ hB
  have hX := below_gb3 hB
  clear hB
  rw [HE.out]
  go_wp2_with fail
  refine bodyPost_ret (v := pfR zeroP (twE s hi lo n t h l m)) ?_ rfl ⟨rfl, ?_⟩
  · simp [results, Tryd.results24, go_sem, z0, z1, z2, z3]
  · exact below_four hX (by omega) _ _ _ _

set_option linter.unusedSimpArgs false in
set_option maxRecDepth 100000 in
set_option maxHeartbeats 2000000 in
theorem common_type (s : Bool) (hi lo n : Int) (t : Bool) (h l m : Int) (w : World) (h1 : 0 ≤ hi) (h2 : hi < 18446744073709551616) (h3 : 0 ≤ lo) (h4 : lo < 18446744073709551616)
    (k1 : 0 ≤ h) (k2 : h < 18446744073709551616) (k3 : 0 ≤ l) (k4 : l < 18446744073709551616) (he : twE s hi lo n t h l m = 0) (hst : s ≠ t) :
    Calls Tryd.prog 24 #[.agg #[.bool s, .int .u64 hi, .int .u64 lo, .int .i64 n], .agg #[.bool t, .int .u64 h, .int .u64 l, .int .i64 m]] w (GivesV (pfR zeroP 10) w) := by
  obtain rfl : t = !s := by cases s <;> cases t <;> simp_all
  clear hst
  have HF : Hid (∀ u, (((w.alloc (.cells #[.bool s, .int .u64 hi, .int .u64 lo, .int .i64 n] 42)).alloc (.cells #[.bool (!s), .int .u64 h, .int .u64 l, .int .i64 m] 42)).alloc (.cells #[.bool false, .int .u64 0, .int .u64 0, .int .i64 0] 42)).grownBy u none → _) :=
    Lib.hid fun u hu => And.intro ((blk3 w [.bool s, .int .u64 hi, .int .u64 lo, .int .i64 n] [.bool (!s), .int .u64 h, .int .u64 l, .int .i64 m] [.bool false, .int .u64 0, .int .u64 0, .int .i64 0] _ _ _).1.gn hu).four (And.intro ((blk3 w [.bool s, .int .u64 hi, .int .u64 lo, .int .i64 n] [.bool (!s), .int .u64 h, .int .u64 l, .int .i64 m] [.bool false, .int .u64 0, .int .u64 0, .int .i64 0] _ _ _).2.1.gn hu).four ((blk3 w [.bool s, .int .u64 hi, .int .u64 lo, .int .i64 n] [.bool (!s), .int .u64 h, .int .u64 l, .int .i64 m] [.bool false, .int .u64 0, .int .u64 0, .int .i64 0] _ _ _).2.2.gn hu).four)
  have hB := gb_refl (((w.alloc (.cells #[.bool s, .int .u64 hi, .int .u64 lo, .int .i64 n] 42)).alloc (.cells #[.bool (!s), .int .u64 h, .int .u64 l, .int .i64 m] 42)).alloc (.cells #[.bool false, .int .u64 0, .int .u64 0, .int .i64 0] 42)) none
  have HC := fun s hi lo n w' h1 h2 h3 h4 => Lib.hid (checkPrefix_any s hi lo n w' h1 h2 h3 h4)
  have b0 : (s == !s) = false := by cases s <;> rfl
  have b1 : (s != !s) = true := by cases s <;> rfl
  have HE := Lib.hid (show firstZ [pfF s hi lo n, pfF (!s) h l m] = 0 from he)
  clear he
  go_enter Tryd.func24, Tryd.ntmps24
  go_wp2_with fail
  refine ways_begin (none) (by kernel_rfl) ?_
  replace hB := gb_drew hB
  refine ways_take (i := 0) (d := some 7) (v := ?_) (by simp only [List.getElem?_toArray, List.getElem?_cons_succ, List.getElem?_cons_zero] <;> rfl) (by rfl) (by kernel_rfl) (by kernel_rfl) (by kernel_rfl) (fun _ _ _ h => h) (by rfl) ?_ ?_
  rotate_left
  · ((intro u hu); obtain ⟨⟨c0, c1, c2, c3, _⟩, ⟨d0, d1, d2, d3, _⟩, _⟩ := HF.out u (gb_trans hB hu); go_simp; try with_reducible rfl)
  try simp only [Act.put, List.setIfInBounds_toArray, List.set_cons_zero, List.set_cons_succ]
  refine ways_take (i := 2) (d := some 9) (v := ?_) (by simp only [List.getElem?_toArray, List.getElem?_cons_succ, List.getElem?_cons_zero] <;> rfl) (by rfl) (by kernel_rfl) (by kernel_rfl) (by kernel_rfl) (fun _ _ _ h => h) (by rfl) ?_ ?_
  rotate_left
  · ((intro u hu); obtain ⟨⟨c0, c1, c2, c3, _⟩, ⟨d0, d1, d2, d3, _⟩, _⟩ := HF.out u (gb_trans hB hu); go_simp; try with_reducible rfl)
  try simp only [Act.put, List.setIfInBounds_toArray, List.set_cons_zero, List.set_cons_succ]
  refine ways_one (i := 1) (by simp only [List.getElem?_toArray, List.getElem?_cons_succ, List.getElem?_cons_zero] <;> rfl) (by kernel_rfl) (by rfl) (fun u hu K hK => ?_)
  replace hB := gb_trans hB hu
  go_simp
  refine ((HC _ _ _ _ _ h1 h2 h3 h4).out).mono ?_
  rintro e w101 ⟨rfl, hb1⟩
  have hg1 := gbB (r := none) hb1
  refine hK.out _ _ hg1 ?_
  replace hB := gb_trans hB hg1
  clear hK K hu
  try simp only [Act.put, List.setIfInBounds_toArray, List.set_cons_zero, List.set_cons_succ]
  refine ways_one (i := 3) (by simp only [List.getElem?_toArray, List.getElem?_cons_succ, List.getElem?_cons_zero] <;> rfl) (by kernel_rfl) (by rfl) (fun u hu K hK => ?_)
  replace hB := gb_trans hB hu
  go_simp
  refine ((HC _ _ _ _ _ k1 k2 k3 k4).out).mono ?_
  rintro e w103 ⟨rfl, hb3⟩
  have hg3 := gbB (r := none) hb3
  refine hK.out _ _ hg3 ?_
  replace hB := gb_trans hB hg3
  clear hK K hu
  try simp only [Act.put, List.setIfInBounds_toArray, List.set_cons_zero, List.set_cons_succ]
  refine ways_one (i := 4) (by simp only [List.getElem?_toArray, List.getElem?_cons_succ, List.getElem?_cons_zero] <;> rfl) (by kernel_rfl) (by rfl) (fun u hu K hK => ?_)
  replace hB := gb_trans hB hu
  go_simp
  refine hK.out _ _ (World.grownBy_alloc _ _ _) ?_
  clear hK K hu
  try simp only [Act.put, List.setIfInBounds_toArray, List.set_cons_zero, List.set_cons_succ]
  refine ways_one (i := 5) (by simp only [List.getElem?_toArray, List.getElem?_cons_succ, List.getElem?_cons_zero] <;> rfl) (by kernel_rfl) (by rfl) (fun u hu K hK => ?_)
  replace hB := gb_trans hB (gb_trans (World.grownBy_alloc _ _ _) hu)
  go_simp
  refine (or_after [pfF s hi lo n, pfF (!s) h l m] _ (by simp) (by simp) hu).mono ?_
  rintro e w105 ⟨rfl, rfl⟩
  have hg5 := gb_refl u (none)
  refine hK.out _ _ hg5 ?_
  replace hB := gb_trans hB hg5
  clear hK K hu
  try simp only [Act.put, List.setIfInBounds_toArray, List.set_cons_zero, List.set_cons_succ]
  refine ways_take (i := 6) (d := some 6) (v := ?_) (by simp only [List.getElem?_toArray, List.getElem?_cons_succ, List.getElem?_cons_zero] <;> rfl) (by rfl) (by kernel_rfl) (by kernel_rfl) (by kernel_rfl) (fun _ _ _ h => h) (by rfl) ?_ ?_
  rotate_left
  · ((intro u hu); go_simp; try with_reducible rfl)
  try simp only [Act.put, List.setIfInBounds_toArray, List.set_cons_zero, List.set_cons_succ]
  refine ways_done (by kernel_rfl) (fun u hu => ?_) _
  replace hB := gb_trans hB hu
  clear hu
  obtain ⟨⟨c0, c1, c2, c3, _⟩, ⟨d0, d1, d2, d3, _⟩, ⟨z0, z1, z2, z3, f0, f1, f2, f3⟩⟩ := HF.out _ hB
  have hX := below_gb3 hB
  clear hB
  rw [HE.out]
  go_wp2_with fail
  refine bodyPost_ret (v := pfR zeroP 10) ?_ rfl ⟨rfl, ?_⟩
  · simp [results, Tryd.results24, go_sem, z0, z1, z2, z3]
  · exact below_four hX (by omega) _ _ _ _

set_option linter.unusedSimpArgs false in
set_option maxRecDepth 100000 in
set_option maxHeartbeats 2000000 in
theorem common_ok (s : Bool) (hi lo n : Int) (t : Bool) (h l m : Int) (w : World) (h1 : 0 ≤ hi) (h2 : hi < 18446744073709551616) (h3 : 0 ≤ lo) (h4 : lo < 18446744073709551616)
    (k1 : 0 ≤ h) (k2 : h < 18446744073709551616) (k3 : 0 ≤ l) (k4 : l < 18446744073709551616) (he : twE s hi lo n t h l m = 0) (hst : s = t) :
    Calls Tryd.prog 24 #[.agg #[.bool s, .int .u64 hi, .int .u64 lo, .int .i64 n], .agg #[.bool t, .int .u64 h, .int .u64 l, .int .i64 m]] w (GivesV (pfR (maskV s hi lo (cbZ n m (eqZ s hi lo h l))) 0) w) := by
  subst hst
  have HF : Hid (∀ u, (((w.alloc (.cells #[.bool s, .int .u64 hi, .int .u64 lo, .int .i64 n] 42)).alloc (.cells #[.bool s, .int .u64 h, .int .u64 l, .int .i64 m] 42)).alloc (.cells #[.bool false, .int .u64 0, .int .u64 0, .int .i64 0] 42)).grownBy u none → _) :=
    Lib.hid fun u hu => And.intro ((blk3 w [.bool s, .int .u64 hi, .int .u64 lo, .int .i64 n] [.bool s, .int .u64 h, .int .u64 l, .int .i64 m] [.bool false, .int .u64 0, .int .u64 0, .int .i64 0] _ _ _).1.gn hu).four (And.intro ((blk3 w [.bool s, .int .u64 hi, .int .u64 lo, .int .i64 n] [.bool s, .int .u64 h, .int .u64 l, .int .i64 m] [.bool false, .int .u64 0, .int .u64 0, .int .i64 0] _ _ _).2.1.gn hu).four ((blk3 w [.bool s, .int .u64 hi, .int .u64 lo, .int .i64 n] [.bool s, .int .u64 h, .int .u64 l, .int .i64 m] [.bool false, .int .u64 0, .int .u64 0, .int .i64 0] _ _ _).2.2.gn hu).four)
  have hB := gb_refl (((w.alloc (.cells #[.bool s, .int .u64 hi, .int .u64 lo, .int .i64 n] 42)).alloc (.cells #[.bool s, .int .u64 h, .int .u64 l, .int .i64 m] 42)).alloc (.cells #[.bool false, .int .u64 0, .int .u64 0, .int .i64 0] 42)) none
  have HC := fun s hi lo n w' h1 h2 h3 h4 => Lib.hid (checkPrefix_any s hi lo n w' h1 h2 h3 h4)
  have hf := (twE_zero he).1
  have hg := (twE_zero he).2
  have hZ0 := (eqZ_ok h2 h3 h4 k2 k3 k4 hf hg).1
  have HQ := fun w' => Lib.hid (equalBits_any s hi lo s h l w' h1 h2 h3 h4 k1 k2 k3 k4)
  have hc := cbZ_le n m (eqZ s hi lo h l)
  have hn1 := (pfF_zero hf).2.1
  have hn2 := (pfF_zero hf).2.2.1
  have hm1 := (pfF_zero hg).2.1
  have hm2 := (pfF_zero hg).2.2.1
  have hC := show (if eqZ s hi lo h l < (if m < n then m else n) then eqZ s hi lo h l else (if m < n then m else n)) = cbZ n m (eqZ s hi lo h l) from rfl
  have HM := fun w' => spanMask_any s hi lo (cbZ n m (eqZ s hi lo h l)) w' h1 h2 h3 h4 (by omega) (by omega)
  generalize eqZ s hi lo h l = Z at HQ hC HM ⊢
  generalize cbZ n m Z = C at hC HM ⊢
  obtain ⟨MH, hMH⟩ : ∃ x : Int, x = ((clr (num hi lo) (lenZ s - C).toNat / 2 ^ 64 : Nat) : Int) := ⟨_, rfl⟩
  obtain ⟨ML, hML⟩ : ∃ x : Int, x = ((clr (num hi lo) (lenZ s - C).toNat % 2 ^ 64 : Nat) : Int) := ⟨_, rfl⟩
  unfold maskV at HM
  rw [← hMH, ← hML] at HM
  have HM' := fun w' => Lib.hid (HM w')
  have HV := Lib.hid (show (pfR (.agg #[.bool s, .int .u64 MH, .int .u64 ML, .int .i64 C]) 0) = pfR (maskV s hi lo C) 0 by rw [hMH, hML])
  have HE := Lib.hid (show firstZ [pfF s hi lo n, pfF s h l m] = 0 from he)
  clear he hc hf hg hZ0 hn1 hn2 hm1 hm2 HM hMH hML
  go_enter Tryd.func24, Tryd.ntmps24
  go_wp2_with fail
  refine ways_begin (none) (by kernel_rfl) ?_
  replace hB := gb_drew hB
  refine ways_take (i := 0) (d := some 7) (v := ?_) (by simp only [List.getElem?_toArray, List.getElem?_cons_succ, List.getElem?_cons_zero] <;> rfl) (by rfl) (by kernel_rfl) (by kernel_rfl) (by kernel_rfl) (fun _ _ _ h => h) (by rfl) ?_ ?_
  rotate_left
  · ((intro u hu); obtain ⟨⟨c0, c1, c2, c3, _⟩, ⟨d0, d1, d2, d3, _⟩, _⟩ := HF.out u (gb_trans hB hu); go_simp; try with_reducible rfl)
  try simp only [Act.put, List.setIfInBounds_toArray, List.set_cons_zero, List.set_cons_succ]
  refine ways_take (i := 2) (d := some 9) (v := ?_) (by simp only [List.getElem?_toArray, List.getElem?_cons_succ, List.getElem?_cons_zero] <;> rfl) (by rfl) (by kernel_rfl) (by kernel_rfl) (by kernel_rfl) (fun _ _ _ h => h) (by rfl) ?_ ?_
  rotate_left
  · ((intro u hu); obtain ⟨⟨c0, c1, c2, c3, _⟩, ⟨d0, d1, d2, d3, _⟩, _⟩ := HF.out u (gb_trans hB hu); go_simp; try with_reducible rfl)
  try simp only [Act.put, List.setIfInBounds_toArray, List.set_cons_zero, List.set_cons_succ]
  refine ways_one (i := 1) (by simp only [List.getElem?_toArray, List.getElem?_cons_succ, List.getElem?_cons_zero] <;> rfl) (by kernel_rfl) (by rfl) (fun u hu K hK => ?_)
  replace hB := gb_trans hB hu
  go_simp
  refine ((HC _ _ _ _ _ h1 h2 h3 h4).out).mono ?_
  rintro e w101 ⟨rfl, hb1⟩
  have hg1 := gbB (r := none) hb1
  refine hK.out _ _ hg1 ?_
  replace hB := gb_trans hB hg1
  clear hK K hu
  try simp only [Act.put, List.setIfInBounds_toArray, List.set_cons_zero, List.set_cons_succ]
  refine ways_one (i := 3) (by simp only [List.getElem?_toArray, List.getElem?_cons_succ, List.getElem?_cons_zero] <;> rfl) (by kernel_rfl) (by rfl) (fun u hu K hK => ?_)
  replace hB := gb_trans hB hu
  go_simp
  refine ((HC _ _ _ _ _ k1 k2 k3 k4).out).mono ?_
  rintro e w103 ⟨rfl, hb3⟩
  have hg3 := gbB (r := none) hb3
  refine hK.out _ _ hg3 ?_
  replace hB := gb_trans hB hg3
  clear hK K hu
  try simp only [Act.put, List.setIfInBounds_toArray, List.set_cons_zero, List.set_cons_succ]
  refine ways_one (i := 4) (by simp only [List.getElem?_toArray, List.getElem?_cons_succ, List.getElem?_cons_zero] <;> rfl) (by kernel_rfl) (by rfl) (fun u hu K hK => ?_)
  replace hB := gb_trans hB hu
  go_simp
  refine hK.out _ _ (World.grownBy_alloc _ _ _) ?_
  clear hK K hu
  try simp only [Act.put, List.setIfInBounds_toArray, List.set_cons_zero, List.set_cons_succ]
  refine ways_one (i := 5) (by simp only [List.getElem?_toArray, List.getElem?_cons_succ, List.getElem?_cons_zero] <;> rfl) (by kernel_rfl) (by rfl) (fun u hu K hK => ?_)
  replace hB := gb_trans hB (gb_trans (World.grownBy_alloc _ _ _) hu)
  go_simp
  refine (or_after [pfF s hi lo n, pfF s h l m] _ (by simp) (by simp) hu).mono ?_
  rintro e w105 ⟨rfl, rfl⟩
  have hg5 := gb_refl u (none)
  refine hK.out _ _ hg5 ?_
  replace hB := gb_trans hB hg5
  clear hK K hu
  try simp only [Act.put, List.setIfInBounds_toArray, List.set_cons_zero, List.set_cons_succ]
  refine ways_take (i := 6) (d := some 6) (v := ?_) (by simp only [List.getElem?_toArray, List.getElem?_cons_succ, List.getElem?_cons_zero] <;> rfl) (by rfl) (by kernel_rfl) (by kernel_rfl) (by kernel_rfl) (fun _ _ _ h => h) (by rfl) ?_ ?_
  rotate_left
  · ((intro u hu); go_simp; try with_reducible rfl)
  try simp only [Act.put, List.setIfInBounds_toArray, List.set_cons_zero, List.set_cons_succ]
  refine ways_done (by kernel_rfl) (fun u hu => ?_) _
  replace hB := gb_trans hB hu
  clear hu
  obtain ⟨⟨c0, c1, c2, c3, _⟩, ⟨d0, d1, d2, d3, _⟩, ⟨z0, z1, z2, z3, f0, f1, f2, f3⟩⟩ := HF.out _ hB
  rw [HE.out]
  go_wp2_with fail
  clear c0 c1 c2 c3 d0 d1 d2 d3 z0 z1 z2 z3 f0 f1 f2 f3
  refine ways_begin (none) (by kernel_rfl) ?_
  replace hB := gb_drew hB
  refine ways_take (i := 0) (d := some 25) (v := ?_) (by simp only [List.getElem?_toArray, List.getElem?_cons_succ, List.getElem?_cons_zero] <;> rfl) (by rfl) (by kernel_rfl) (by kernel_rfl) (by kernel_rfl) (fun _ _ _ h => h) (by rfl) ?_ ?_
  rotate_left
  · ((intro u hu); go_simp; try with_reducible rfl)
  try simp only [Act.put, List.setIfInBounds_toArray, List.set_cons_zero, List.set_cons_succ]
  refine ways_take (i := 1) (d := some 26) (v := ?_) (by simp only [List.getElem?_toArray, List.getElem?_cons_succ, List.getElem?_cons_zero] <;> rfl) (by rfl) (by kernel_rfl) (by kernel_rfl) (by kernel_rfl) (fun _ _ _ h => h) (by rfl) ?_ ?_
  rotate_left
  · ((intro u hu); obtain ⟨⟨c0, c1, c2, c3, _⟩, ⟨d0, d1, d2, d3, _⟩, _⟩ := HF.out u (gb_trans hB hu); go_simp; try with_reducible rfl)
  try simp only [Act.put, List.setIfInBounds_toArray, List.set_cons_zero, List.set_cons_succ]
  refine ways_take (i := 2) (d := some 27) (v := ?_) (by simp only [List.getElem?_toArray, List.getElem?_cons_succ, List.getElem?_cons_zero] <;> rfl) (by rfl) (by kernel_rfl) (by kernel_rfl) (by kernel_rfl) (fun _ _ _ h => h) (by rfl) ?_ ?_
  rotate_left
  · ((intro u hu); go_simp; try with_reducible rfl)
  try simp only [Act.put, List.setIfInBounds_toArray, List.set_cons_zero, List.set_cons_succ]
  refine ways_take (i := 3) (d := some 28) (v := ?_) (by simp only [List.getElem?_toArray, List.getElem?_cons_succ, List.getElem?_cons_zero] <;> rfl) (by rfl) (by kernel_rfl) (by kernel_rfl) (by kernel_rfl) (fun _ _ _ h => h) (by rfl) ?_ ?_
  rotate_left
  · ((intro u hu); obtain ⟨⟨c0, c1, c2, c3, _⟩, ⟨d0, d1, d2, d3, _⟩, _⟩ := HF.out u (gb_trans hB hu); go_simp; try with_reducible rfl)
  try simp only [Act.put, List.setIfInBounds_toArray, List.set_cons_zero, List.set_cons_succ]
  refine ways_take (i := 4) (d := some 29) (v := ?_) (by simp only [List.getElem?_toArray, List.getElem?_cons_succ, List.getElem?_cons_zero] <;> rfl) (by rfl) (by kernel_rfl) (by kernel_rfl) (by kernel_rfl) (fun _ _ _ h => h) (by rfl) ?_ ?_
  rotate_left
  · ((intro u hu); go_simp; try with_reducible rfl)
  try simp only [Act.put, List.setIfInBounds_toArray, List.set_cons_zero, List.set_cons_succ]
  refine ways_take (i := 5) (d := some 30) (v := ?_) (by simp only [List.getElem?_toArray, List.getElem?_cons_succ, List.getElem?_cons_zero] <;> rfl) (by rfl) (by kernel_rfl) (by kernel_rfl) (by kernel_rfl) (fun _ _ _ h => h) (by rfl) ?_ ?_
  rotate_left
  · ((intro u hu); obtain ⟨⟨c0, c1, c2, c3, _⟩, ⟨d0, d1, d2, d3, _⟩, _⟩ := HF.out u (gb_trans hB hu); go_simp; try with_reducible rfl)
  try simp only [Act.put, List.setIfInBounds_toArray, List.set_cons_zero, List.set_cons_succ]
  refine ways_take (i := 6) (d := some 31) (v := ?_) (by simp only [List.getElem?_toArray, List.getElem?_cons_succ, List.getElem?_cons_zero] <;> rfl) (by rfl) (by kernel_rfl) (by kernel_rfl) (by kernel_rfl) (fun _ _ _ h => h) (by rfl) ?_ ?_
  rotate_left
  · ((intro u hu); go_simp; try with_reducible rfl)
  try simp only [Act.put, List.setIfInBounds_toArray, List.set_cons_zero, List.set_cons_succ]
  refine ways_take (i := 7) (d := some 32) (v := ?_) (by simp only [List.getElem?_toArray, List.getElem?_cons_succ, List.getElem?_cons_zero] <;> rfl) (by rfl) (by kernel_rfl) (by kernel_rfl) (by kernel_rfl) (fun _ _ _ h => h) (by rfl) ?_ ?_
  rotate_left
  · ((intro u hu); obtain ⟨⟨c0, c1, c2, c3, _⟩, ⟨d0, d1, d2, d3, _⟩, _⟩ := HF.out u (gb_trans hB hu); go_simp; try with_reducible rfl)
  try simp only [Act.put, List.setIfInBounds_toArray, List.set_cons_zero, List.set_cons_succ]
  refine ways_take (i := 8) (d := some 33) (v := ?_) (by simp only [List.getElem?_toArray, List.getElem?_cons_succ, List.getElem?_cons_zero] <;> rfl) (by rfl) (by kernel_rfl) (by kernel_rfl) (by kernel_rfl) (fun _ _ _ h => h) (by rfl) ?_ ?_
  rotate_left
  · ((intro u hu); go_simp; try with_reducible rfl)
  try simp only [Act.put, List.setIfInBounds_toArray, List.set_cons_zero, List.set_cons_succ]
  refine ways_take (i := 9) (d := some 34) (v := ?_) (by simp only [List.getElem?_toArray, List.getElem?_cons_succ, List.getElem?_cons_zero] <;> rfl) (by rfl) (by kernel_rfl) (by kernel_rfl) (by kernel_rfl) (fun _ _ _ h => h) (by rfl) ?_ ?_
  rotate_left
  · ((intro u hu); obtain ⟨⟨c0, c1, c2, c3, _⟩, ⟨d0, d1, d2, d3, _⟩, _⟩ := HF.out u (gb_trans hB hu); go_simp; try with_reducible rfl)
  try simp only [Act.put, List.setIfInBounds_toArray, List.set_cons_zero, List.set_cons_succ]
  refine ways_one (i := 10) (by simp only [List.getElem?_toArray, List.getElem?_cons_succ, List.getElem?_cons_zero] <;> rfl) (by kernel_rfl) (by rfl) (fun u hu K hK => ?_)
  replace hB := gb_trans hB hu
  go_simp
  refine ((HQ _).out).mono ?_
  rintro e w110 ⟨rfl, hb10⟩
  have hg10 := gbB (r := none) hb10
  refine hK.out _ _ hg10 ?_
  replace hB := gb_trans hB hg10
  clear hK K hu
  try simp only [Act.put, List.setIfInBounds_toArray, List.set_cons_zero, List.set_cons_succ]
  refine ways_take (i := 11) (d := some 36) (v := ?_) (by simp only [List.getElem?_toArray, List.getElem?_cons_succ, List.getElem?_cons_zero] <;> rfl) (by rfl) (by kernel_rfl) (by kernel_rfl) (by kernel_rfl) (fun _ _ _ h => h) (by rfl) ?_ ?_
  rotate_left
  · ((intro u hu); go_simp; try with_reducible rfl)
  try simp only [Act.put, List.setIfInBounds_toArray, List.set_cons_zero, List.set_cons_succ]
  refine ways_one (i := 12) (by simp only [List.getElem?_toArray, List.getElem?_cons_succ, List.getElem?_cons_zero] <;> rfl) (by kernel_rfl) (by rfl) (fun u hu K hK => ?_)
  replace hB := gb_trans hB hu
  go_simp
  refine ((HM' _).out).mono ?_
  rintro e w112 ⟨rfl, hb12⟩
  have hg12 := gbB (r := none) hb12
  refine hK.out _ _ hg12 ?_
  replace hB := gb_trans hB hg12
  clear hK K hu
  try simp only [Act.put, List.setIfInBounds_toArray, List.set_cons_zero, List.set_cons_succ]
  refine ways_leave (by kernel_rfl) (fun u hu => ?_)
  replace hB := gb_trans hB hu
  clear hu
  obtain ⟨_, _, ⟨z0, z1, z2, z3, f0, f1, f2, f3⟩⟩ := HF.out _ hB
  have hX := below_gb3 hB
  clear hB
  refine any_one (i := 13) (by simp only [List.getElem?_toArray, List.getElem?_cons_succ, List.getElem?_cons_zero] <;> rfl) (by kernel_rfl) (by rfl) (fun K hK => ?_)
  go_simp
  refine hK.out _ _ ?_
  clear hK K
  try simp only [Act.put, List.setIfInBounds_toArray, List.set_cons_zero, List.set_cons_succ]
  refine any_one (i := 14) (by simp only [List.getElem?_toArray, List.getElem?_cons_succ, List.getElem?_cons_zero] <;> rfl) (by kernel_rfl) (by rfl) (fun K hK => ?_)
  go_simp
  refine hK.out _ _ ?_
  clear hK K
  try simp only [Act.put, List.setIfInBounds_toArray, List.set_cons_zero, List.set_cons_succ]
  refine wpAny_done (by kernel_rfl) ?_ _
  go_wp2_with fail
  refine bodyPost_ret ?_ rfl ⟨congrArg Ending.returned HV.out, ?_⟩
  · simp [results, Tryd.results24, go_sem, z0, z1, z2, z3]
  · exact below_four hX (by omega) _ _ _ _
end Go.Proofs.YtlnflihnmdpilaaDoor
