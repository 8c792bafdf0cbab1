/- Sets: the address behind another one; ranges that touch. -/
import Derived.Test.YtfpcalgkfagjkaaGreatDoorKrGzA
import Derived.Test.YtfpcalgkfagjkaaGreatDoorKrStG
import Derived.Test.YtfpcalgkfagjkaaGreatDoorKrPfxC
set_option linter.unusedVariables false
set_option linter.unusedSimpArgs false
namespace Go.Proofs.YtfpcalgkfagjkaaGreatDoor
open Go.RowKit

theorem last_ad {p : Pf} (h : p.R) : (⟨p.1.s, ((fil p.1.v (freeB p) / 2 ^ 64 : Nat) : Int), ((fil p.1.v (freeB p) % 2 ^ 64 : Nat) : Int)⟩ : Ad) = adOf (p.1.n + 2 ^ freeB p - 1) := by
  have hv : fil p.1.v (freeB p) < 2 ^ 128 := fil_lt h.free_le.1 h.1.1.v_lt
  have hpos := Nat.two_pow_pos (freeB p)
  have hok := h.blk_ok.2
  unfold OkB OkX blk at hok
  simp only at hok
  refine Ad.ext' (u64_halves _ hv) (adOf_U _) ?_
  rw [adOf_n (by omega)]
  show s2n p.1.s + num _ _ = _
  rw [num_of_halves _ hv, fil_blk h]
  unfold Ad.n
  omega
def rgP (p : Pf) : Ad × Ad := (p.1, adOf (p.1.n + 2 ^ freeB p - 1))
theorem rangeOf_R (p : Pf) (w : World) (h : p.R) : Calls Tryz.prog 66 #[pfA p] w (GivesV (rgA (rgP p)) w) := by
  obtain ⟨⟨h1, h2⟩, ⟨h3, h4⟩⟩ := h.1.1
  have := rangeOf_any p.1.s p.1.hi p.1.lo p.2 w h1 h2 h3 h4 h.2.1 h.2.2.1
  have e : rangeV p.1.s p.1.hi p.1.lo p.2 = rgA (rgP p) := by
    unfold rgP
    rw [← last_ad h]
    rfl
  rwa [e] at this

def topN (s : Bool) : Nat := s2n s + (2 ^ (lenZ s).toNat - 1)
theorem topN_true : topN true = 2 ^ 129 - 1 := by show 2 ^ 128 + (2 ^ 128 - 1) = _; omega
theorem topN_false : topN false = 2 ^ 32 - 1 := by show 0 + (2 ^ 32 - 1) = _; omega
def allP (s : Bool) : Pf := (⟨s, 0, 0⟩, 0)
theorem allP_R (s : Bool) : (allP s).R := by
  cases s
  · exact ⟨⟨⟨⟨by decide, by decide⟩, ⟨by decide, by decide⟩⟩, fun _ => by decide⟩, by decide, by decide, by decide⟩
  · refine ⟨⟨⟨⟨by decide, by decide⟩, ⟨by decide, by decide⟩⟩, fun h => by cases h⟩, by decide, by decide, ?_⟩
    apply dvd_clr
    exact Nat.dvd_zero _
theorem allP_n (s : Bool) : (allP s).1.n = s2n s ∧ freeB (allP s) = (lenZ s).toNat := by
  constructor
  · unfold Ad.n; show s2n s + num 0 0 = _; rw [show num 0 0 = 0 from rfl]; omega
  · unfold freeB; show (lenZ s - 0).toNat = _; rw [Int.sub_zero]
theorem rgP_all (s : Bool) : rgP (allP s) = (⟨s, 0, 0⟩, adOf (topN s)) := by
  obtain ⟨e1, e2⟩ := allP_n s
  have := Nat.two_pow_pos (lenZ s).toNat
  unfold rgP topN
  rw [e1, e2, show s2n s + 2 ^ (lenZ s).toNat - 1 = s2n s + (2 ^ (lenZ s).toNat - 1) by omega]
  rfl

@[go_sem] theorem run_field_rg0 (x : Ad × Ad) (w : World) : (Instr.field 95 (.agg (rgC x).toArray) 0).run Tryz.prog w = .ok (.agg (adC x.1).toArray) w := by
  obtain ⟨⟨a, b, c⟩, ⟨d, e, f⟩⟩ := x
  kernel_rfl
@[go_sem] theorem run_field_rg1 (x : Ad × Ad) (w : World) : (Instr.field 95 (.agg (rgC x).toArray) 1).run Tryz.prog w = .ok (.agg (adC x.2).toArray) w := by
  obtain ⟨⟨a, b, c⟩, ⟨d, e, f⟩⟩ := x
  kernel_rfl

set_option maxHeartbeats 1000000 in
theorem whole_any (s : Bool) (w : World) : Calls Tryz.prog 88 #[.bool s] w (GivesV (rgA (⟨s, 0, 0⟩, adOf (topN s))) w) := by
  have HR := fun w' => Lib.hid (rangeOf_R (allP s) w' (allP_R s))
  rw [rgP_all] at HR
  have hR := Blk.new w [.bool false, .int .u64 0, .int .u64 0, .bool false, .int .u64 0, .int .u64 0] 95
  have hG : Below w.heap.size w (w.alloc (.cells #[.bool false, .int .u64 0, .int .u64 0, .bool false, .int .u64 0, .int .u64 0] 95)) := (Below.refl _ _).alloc (Nat.le_refl _) _
  have B1 := fun w' => run_build (P := Tryz.prog) w' 30 #[(0, .bool s)] (adC ⟨s, 0, 0⟩).toArray (by kernel_rfl)
  have B2 := fun w' => run_build (P := Tryz.prog) w' 35 #[(0, .agg (adC ⟨s, 0, 0⟩).toArray)] (pfC (allP s)).toArray (by kernel_rfl)
  generalize adOf (topN s) = T at *
  obtain ⟨x, hx⟩ : ∃ x : Ad × Ad, x = (⟨s, 0, 0⟩, T) := ⟨_, rfl⟩
  rw [← hx] at HR ⊢
  clear hx
  go_enter Tryz.func88, Tryz.ntmps88
  go_wp2_with fail
  refine (HR _).out.mono ?_
  rintro e w1 ⟨rfl, hb1⟩
  have hR1 := hR.below hb1
  have S1 := stT_row rowRg hR1 rfl (rgC_len x) (rgC_one x)
  have hG1 := hG.trans (hb1.mono hG.size)
  go_wp2_with fail
  have hx : w1.heap[w.heap.size]? = _ := hR1
  refine bodyPost_ret (v := rgA x) (results_cell_row rfl _ _ w.heap.size _ _ (0, 0) _ rfl (setRow_heap w1 w.heap.size _ _ _ _ hR1) Tryz.underlying95 rfl (by rw [rowRg.size]; rfl)) rfl ⟨rfl, ?_⟩
  exact hG1.trans ⟨rfl, rfl, rfl, by simp, fun k hk => setRow_other _ _ _ _ (by omega)⟩

theorem results_cell_tmp_row {fn : Func} {p u : Tmp} {ty : TypeId} {k : Nat} (T : RowT ty k) (h : fn.results = #[.cell p ty, .tmp u]) (tmps : Array Value) (w : World) (g : Nat) (t : TypeId) (cs : List Value) (x : Value)
    (hp : tmps.getD p undef = .pointer (some ⟨g, 0, none⟩)) (hx : tmps.getD u undef = x) (hg : Blk w g cs t) (hl : cs.length = k) :
    (results fn tmps).run Tryz.prog w = .ok (.tuple #[.agg cs.toArray, x]) w := by
  obtain ⟨d, hu, hd⟩ := T.row
  rw [results_cell_tmp h, hp, hx]
  have := run_loadVar_mid (P := Tryz.prog) w g 0 ty cs d (hg.range 0 cs [] (by simp)) hu hd (by rw [T.size, hl])
  simp [asAddr, this, Result.andThen]
theorem Blk.row {w : World} {p : Nat} {old : List Value} {t : TypeId} (h : Blk w p old t) (cs : List Value) : Blk (w.setRow p cs.toArray) p cs t := setRow_heap w p _ _ _ _ h
theorem below_row {w w' : World} {B p : Nat} (h : Below B w w') (hp : B ≤ p) (cs : Array Value) : Below B w (w'.setRow p cs) :=
  h.trans ⟨rfl, rfl, rfl, by simp, fun k hk => setRow_other _ _ _ _ (by omega)⟩

def adE (a b : Ad) : Bool := adQ a.s b.s a.hi a.lo b.hi b.lo
@[go_sem] theorem run_eqAdA (x y : Operand) (a b : Ad) (w : World) : (eqAd x y (.agg (adC a).toArray) (.agg (adC b).toArray)).run Tryz.prog w = .ok (.value (.bool (adE a b))) w :=
  run_eqAd x y a.s b.s a.hi a.lo b.hi b.lo w
theorem adE_iff {a b : Ad} (ha : a.U) (hb : b.U) : adE a b = decide (a.n = b.n) := by
  unfold adE adQ
  rw [Bool.eq_iff_iff]
  simp only [Bool.and_eq_true, beq_iff_eq, decide_eq_true_eq]
  constructor
  · rintro ⟨h1, h2, h3⟩
    obtain ⟨s, hi, lo⟩ := a
    obtain ⟨t, h, l⟩ := b
    simp only at h1 h2 h3
    subst h1; subst h2; subst h3; rfl
  · intro h
    have := Ad.ext' ha hb h
    subst this
    exact ⟨rfl, rfl, rfl⟩
theorem Ad.R.le_top {a : Ad} (h : a.R) : a.n ≤ topN a.s := by
  rcases h.six with ⟨h1, h2, h3⟩ | ⟨h1, h2, h3⟩
  · rw [h1, topN_false]; omega
  · rw [h1, topN_true]; omega
theorem topN_lt (s : Bool) : topN s < 2 ^ 129 := by
  cases s
  · rw [topN_false]; omega
  · rw [topN_true]; omega
theorem adOf_top (s : Bool) : (adOf (topN s)).n = topN s := adOf_n (topN_lt s)
def nextV (a : Ad) : Value := if a.n = topN a.s then .tuple #[.agg #[.bool false, .int .u64 0, .int .u64 0], .bool false] else .tuple #[.agg (adC (adOf (a.n + 1))).toArray, .bool true]
theorem next_step {a : Ad} (h : a.R) (hne : a.n ≠ topN a.s) : (a.lo < 18446744073709551615 → adOf (a.n + 1) = ⟨a.s, a.hi, a.lo + 1⟩) ∧ (¬ a.lo < 18446744073709551615 → a.lo = 18446744073709551615 ∧ a.hi < 18446744073709551615 ∧ adOf (a.n + 1) = ⟨a.s, a.hi + 1, 0⟩) := by
  have hlt := h.1.n_lt
  have hle := h.le_top
  have htop : topN a.s < 2 ^ 129 := topN_lt _
  obtain ⟨⟨h1, h2⟩, ⟨h3, h4⟩⟩ := h.1
  constructor
  · intro hl
    refine Ad.ext' (adOf_U _) ⟨⟨h1, h2⟩, ⟨by show 0 ≤ a.lo + 1; omega, by show a.lo + 1 < _; omega⟩⟩ ?_
    rw [adOf_n (by omega)]
    unfold Ad.n Ad.v num
    simp only
    omega
  · intro hl
    have hlo : a.lo = 18446744073709551615 := by omega
    have hhi : a.hi < 18446744073709551615 := by
      rcases Int.lt_or_le a.hi 18446744073709551615 with g | g
      · exact g
      · exfalso
        have hh : a.hi = 18446744073709551615 := by omega
        apply hne
        rcases h.six with ⟨k1, k2, k3⟩ | ⟨k1, k2, k3⟩
        · unfold Ad.v num at k2; rw [hh, hlo] at k2; omega
        · rw [k1, topN_true, k2]; unfold Ad.v num; rw [hh, hlo]; decide
    refine ⟨hlo, hhi, Ad.ext' (adOf_U _) ⟨⟨by show 0 ≤ a.hi + 1; omega, by show a.hi + 1 < _; omega⟩, ⟨by show (0 : Int) ≤ 0; omega, by show (0 : Int) < _; omega⟩⟩ ?_⟩
    rw [adOf_n (by omega)]
    unfold Ad.n Ad.v num
    simp only
    rw [hlo]
    omega

set_option maxHeartbeats 4000000 in
theorem nextA_any (a : Ad) (w : World) (h : a.R) : Calls Tryz.prog 62 #[adA a] w (GivesV (nextV a) w) := by
  have HW := fun w' => Lib.hid (whole_any a.s w')
  have hE : adE a (adOf (topN a.s)) = decide (a.n = topN a.s) := by rw [adE_iff h.1 (adOf_U _), adOf_top]
  obtain ⟨h1, h2⟩ := two_new w (adC a) [.bool false, .int .u64 0, .int .u64 0] 30 30
  have hG := below_two w (.cells (adC a).toArray 30) (.cells #[.bool false, .int .u64 0, .int .u64 0] 30)
  have hB := gb_refl ((w.alloc (.cells (adC a).toArray 30)).alloc (.cells #[.bool false, .int .u64 0, .int .u64 0] 30)) none
  have hst := next_step h
  obtain ⟨⟨g1, g2⟩, ⟨g3, g4⟩⟩ := h.1
  generalize adOf (topN a.s) = T at *
  by_cases ht : a.n = topN a.s
  · have HV := Lib.hid (show nextV a = _ from if_pos ht)
    have b9 : adE a T = true := by rw [hE]; exact decide_eq_true ht
    clear hE hst ht
    have B1 := fun w' => run_build (P := Tryz.prog) w' 30 #[] #[.bool false, .int .u64 0, .int .u64 0] (by kernel_rfl)
    go_enter Tryz.func62, Tryz.ntmps62
    go_wp2_with fail
    refine wx_begin (none) [] (by kernel_rfl) (fun u0 hb0' hz0' => ?_)
    replace hB := gb_trans hB (gbB hb0')
    clear hb0' hz0'
    refine wx_takeZ 0 (some 4) (v := ?_) ?_ ?_; rotate_left; · (intro u hu; have k1 := h1.gn (gb_trans hB hu); have l1 := k1.ld rowAd rfl; have q0 := k1.cell (i := 0) (v := .bool a.s) rfl; clear k1; go_simp; try with_reducible rfl)
    try simp only [Act.put, gzD, gzE, gzF]
    refine wx_pureZ 1 (some 5) (v := ?_) ?_ ?_; rotate_left; · (intro u; go_simp; try with_reducible rfl)
    try simp only [Act.put, gzD, gzE, gzF]
    refine wx_takeZ 2 (some 6) (v := ?_) ?_ ?_; rotate_left; · (intro u hu; have k1 := h1.gn (gb_trans hB hu); have l1 := k1.ld rowAd rfl; have q0 := k1.cell (i := 0) (v := .bool a.s) rfl; clear k1; go_simp; try with_reducible rfl)
    try simp only [Act.put, gzD, gzE, gzF]
    refine wx_oneZ 3 (fun K hK => ?_)
    go_simp
    refine (HW _).out.mono ?_
    rintro e u1 ⟨rfl, hv1⟩
    refine hK _ _ (gbB hv1) ?_
    replace hB := gb_trans hB (gbB hv1)
    clear hK K hv1
    try simp only [Act.put, gzD, gzE, gzF]
    refine wx_pureZ 4 (some 8) (v := ?_) ?_ ?_; rotate_left; · (intro u; go_simp; try with_reducible rfl)
    try simp only [Act.put, gzD, gzE, gzF]
    refine wx_pureZ 5 (some 9) (v := ?_) ?_ ?_; rotate_left; · (intro u; go_simp; try with_reducible rfl)
    try simp only [Act.put, gzD, gzE, gzF]
    refine wx_done (by kernel_rfl) ?_ _
    have hW := (hG.trans ((gb2B hB).mono hG.size))
    have k2 := h2.gn hB
    have S1 := stT_row rowAd k2 rfl (show [Value.bool false, .int .u64 0, .int .u64 0].length = 3 from rfl) (by intro v hv; simp at hv; rcases hv with rfl | rfl | rfl <;> rfl)
    go_wp2_with fail
    have hz : w.heap.size ≤ w.heap.size + 1 := by omega
    refine bodyPost_ret (v := .tuple #[.agg #[.bool false, .int .u64 0, .int .u64 0], .bool false]) ?_ rfl ⟨by rw [HV.out], hW.trans ⟨rfl, rfl, rfl, by simp, fun k hk => setRow_other _ _ _ _ (by omega)⟩⟩
    exact results_cell_tmp_row rowAd rfl _ _ _ _ _ _ rfl rfl (k2.row _) rfl
  · have HV := Lib.hid (show nextV a = _ from if_neg ht)
    have b9 : adE a T = false := by rw [hE]; exact decide_eq_false ht
    obtain ⟨st1, st2⟩ := hst ht
    clear hE hst ht
    by_cases hl : a.lo < 18446744073709551615
    · replace st1 := Lib.hid (st1 hl)
      have b17 : (a.lo + 1 == 0) = false := by simp; omega
      clear st2
      go_enter Tryz.func62, Tryz.ntmps62
      go_wp2_with fail
      refine wx_begin (none) [] (by kernel_rfl) (fun u0 hb0' hz0' => ?_)
      replace hB := gb_trans hB (gbB hb0')
      clear hb0' hz0'
      refine wx_takeZ 0 (some 4) (v := ?_) ?_ ?_; rotate_left; · (intro u hu; have k1 := h1.gn (gb_trans hB hu); have l1 := k1.ld rowAd rfl; have q0 := k1.cell (i := 0) (v := .bool a.s) rfl; clear k1; go_simp; try with_reducible rfl)
      try simp only [Act.put, gzD, gzE, gzF]
      refine wx_pureZ 1 (some 5) (v := ?_) ?_ ?_; rotate_left; · (intro u; go_simp; try with_reducible rfl)
      try simp only [Act.put, gzD, gzE, gzF]
      refine wx_takeZ 2 (some 6) (v := ?_) ?_ ?_; rotate_left; · (intro u hu; have k1 := h1.gn (gb_trans hB hu); have l1 := k1.ld rowAd rfl; have q0 := k1.cell (i := 0) (v := .bool a.s) rfl; clear k1; go_simp; try with_reducible rfl)
      try simp only [Act.put, gzD, gzE, gzF]
      refine wx_oneZ 3 (fun K hK => ?_)
      go_simp
      refine (HW _).out.mono ?_
      rintro e u1 ⟨rfl, hv1⟩
      refine hK _ _ (gbB hv1) ?_
      replace hB := gb_trans hB (gbB hv1)
      clear hK K hv1
      try simp only [Act.put, gzD, gzE, gzF]
      refine wx_pureZ 4 (some 8) (v := ?_) ?_ ?_; rotate_left; · (intro u; go_simp; try with_reducible rfl)
      try simp only [Act.put, gzD, gzE, gzF]
      refine wx_pureZ 5 (some 9) (v := ?_) ?_ ?_; rotate_left; · (intro u; go_simp; try with_reducible rfl)
      try simp only [Act.put, gzD, gzE, gzF]
      refine wx_done (by kernel_rfl) ?_ _
      have hW := (hG.trans ((gb2B hB).mono hG.size))
      have k1 := h1.gn hB
      have k2 := h2.gn hB
      have c2 := k1.cell (i := 2) (v := .int .u64 a.lo) rfl
      have f2 := k1.free 2
      have k1' := k1.set 2 (.int .u64 (a.lo + 1))
      have k2' := k2.other (a := ⟨w.heap.size, 2, none⟩) (by simp) (.int .u64 (a.lo + 1))
      have e1 : (adC a).set 2 (.int .u64 (a.lo + 1)) = adC (adOf (a.n + 1)) := by rw [st1.out]; rfl
      rw [e1] at k1'
      have L1 := k1'.ld rowAd rfl
      have S1 := stT_row rowAd k2' rfl (adC_len (adOf (a.n + 1))) (adC_one _)
      go_wp2_with fail
      refine bodyPost_ret (v := .tuple #[.agg (adC (adOf (a.n + 1))).toArray, .bool true]) ?_ rfl ⟨by rw [HV.out], (hW.setCell (p := ⟨w.heap.size, 2, none⟩) (Nat.le_refl _) _).trans ⟨rfl, rfl, rfl, by simp, fun k hk => setRow_other _ _ _ _ (by omega)⟩⟩
      exact results_cell_tmp_row rowAd rfl _ _ _ _ _ _ rfl rfl (k2'.row _) rfl
    · obtain ⟨st3, st4, st5⟩ := st2 hl
      replace st5 := Lib.hid st5
      have w1 : IntKind.u64.wrap (a.lo + 1) = 0 := by rw [IntKind.wrap_u64, st3]; decide
      have w2 : IntKind.u64.wrap (a.hi + 1) = a.hi + 1 := by rw [IntKind.wrap_u64]; omega
      clear st1 st2 st3 st4 hl g1 g2 g3 g4
      go_enter Tryz.func62, Tryz.ntmps62
      go_wp2_with fail
      refine wx_begin (none) [] (by kernel_rfl) (fun u0 hb0' hz0' => ?_)
      replace hB := gb_trans hB (gbB hb0')
      clear hb0' hz0'
      refine wx_takeZ 0 (some 4) (v := ?_) ?_ ?_; rotate_left; · (intro u hu; have k1 := h1.gn (gb_trans hB hu); have l1 := k1.ld rowAd rfl; have q0 := k1.cell (i := 0) (v := .bool a.s) rfl; clear k1; go_simp; try with_reducible rfl)
      try simp only [Act.put, gzD, gzE, gzF]
      refine wx_pureZ 1 (some 5) (v := ?_) ?_ ?_; rotate_left; · (intro u; go_simp; try with_reducible rfl)
      try simp only [Act.put, gzD, gzE, gzF]
      refine wx_takeZ 2 (some 6) (v := ?_) ?_ ?_; rotate_left; · (intro u hu; have k1 := h1.gn (gb_trans hB hu); have l1 := k1.ld rowAd rfl; have q0 := k1.cell (i := 0) (v := .bool a.s) rfl; clear k1; go_simp; try with_reducible rfl)
      try simp only [Act.put, gzD, gzE, gzF]
      refine wx_oneZ 3 (fun K hK => ?_)
      go_simp
      refine (HW _).out.mono ?_
      rintro e u1 ⟨rfl, hv1⟩
      refine hK _ _ (gbB hv1) ?_
      replace hB := gb_trans hB (gbB hv1)
      clear hK K hv1
      try simp only [Act.put, gzD, gzE, gzF]
      refine wx_pureZ 4 (some 8) (v := ?_) ?_ ?_; rotate_left; · (intro u; go_simp; try with_reducible rfl)
      try simp only [Act.put, gzD, gzE, gzF]
      refine wx_pureZ 5 (some 9) (v := ?_) ?_ ?_; rotate_left; · (intro u; go_simp; try with_reducible rfl)
      try simp only [Act.put, gzD, gzE, gzF]
      refine wx_done (by kernel_rfl) ?_ _
      have hW := (hG.trans ((gb2B hB).mono hG.size))
      have k1 := h1.gn hB
      have k2 := h2.gn hB
      have c2 := k1.cell (i := 2) (v := .int .u64 a.lo) rfl
      have c1 := k1.cell (i := 1) (v := .int .u64 a.hi) rfl
      have f1 := k1.free 1
      have f2 := k1.free 2
      have k1' := (k1.set 2 (.int .u64 0)).set 1 (.int .u64 (a.hi + 1))
      have k2' := (k2.other (a := ⟨w.heap.size, 2, none⟩) (by simp) (.int .u64 0)).other (a := ⟨w.heap.size, 1, none⟩) (by simp) (.int .u64 (a.hi + 1))
      have e1 : ((adC a).set 2 (.int .u64 0)).set 1 (.int .u64 (a.hi + 1)) = adC (adOf (a.n + 1)) := by rw [st5.out]; rfl
      rw [e1] at k1'
      have L1 := k1'.ld rowAd rfl
      have S1 := stT_row rowAd k2' rfl (adC_len (adOf (a.n + 1))) (adC_one _)
      go_wp2_with fail
      refine bodyPost_ret (v := .tuple #[.agg (adC (adOf (a.n + 1))).toArray, .bool true]) ?_ rfl ⟨by rw [HV.out], ((hW.setCell (p := ⟨w.heap.size, 2, none⟩) (Nat.le_refl _) _).setCell (p := ⟨w.heap.size, 1, none⟩) (Nat.le_refl _) _).trans ⟨rfl, rfl, rfl, by simp, fun k hk => setRow_other _ _ _ _ (by omega)⟩⟩
      exact results_cell_tmp_row rowAd rfl _ _ _ _ _ _ rfl rfl (k2'.row _) rfl
end Go.Proofs.YtfpcalgkfagjkaaGreatDoor
