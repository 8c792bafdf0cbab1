/- Sets: the reference joins spans. -/
import Derived.Test.YtfbggfpihiegpaaGreatDoorKpGzA
import Derived.Test.YtfbggfpihiegpaaGreatDoorKpTbQ
import Derived.Test.YtfbggfpihiegpaaGreatDoorKpTxtJ
import Derived.Test.YtfbggfpihiegpaaGreatDoorKpSiteA
set_option linter.unusedVariables false
set_option linter.unusedSimpArgs false
namespace Go.Proofs.YtfbggfpihiegpaaGreatDoor
open Go.RowKit

theorem last_ad {p : Pf} (h : p.R) : (⟨p.1.s, ((fil p.1.v (freeB p) / 2 ^ 64 : Nat) : Int), ((fil p.1.v (freeB p) % 2 ^ 64 : Nat) : Int)⟩ : Ad) = adOf (p.1.n + 2 ^ freeB p - 1) := by
  have hv : fil p.1.v (freeB p) < 2 ^ 128 := fil_lt h.free_le.1 h.1.1.v_lt
  have hpos := Nat.two_pow_pos (freeB p)
  have hok := h.blk_ok.2
  unfold OkB OkX blk at hok
  simp only at hok
  refine Ad.ext' (u64_halves _ hv) (adOf_U _) ?_
  rw [adOf_n (by omega)]
  show s2n p.1.s + num _ _ = _
  rw [num_of_halves _ hv, fil_blk h]
  unfold Ad.n
  omega
def rgP (p : Pf) : Ad × Ad := (p.1, adOf (p.1.n + 2 ^ freeB p - 1))
theorem rangeOf_R (p : Pf) (w : World) (h : p.R) : Calls Tryz.prog 48 #[pfA p] w (GivesV (rgA (rgP p)) w) := by
  obtain ⟨⟨h1, h2⟩, ⟨h3, h4⟩⟩ := h.1.1
  have := rangeOf_any p.1.s p.1.hi p.1.lo p.2 w h1 h2 h3 h4 h.2.1 h.2.2.1
  have e : rangeV p.1.s p.1.hi p.1.lo p.2 = rgA (rgP p) := by
    unfold rgP
    rw [← last_ad h]
    rfl
  rwa [e] at this

def topN (s : Bool) : Nat := s2n s + (2 ^ (lenZ s).toNat - 1)
theorem topN_true : topN true = 2 ^ 129 - 1 := by show 2 ^ 128 + (2 ^ 128 - 1) = _; omega
theorem topN_false : topN false = 2 ^ 32 - 1 := by show 0 + (2 ^ 32 - 1) = _; omega
def allP (s : Bool) : Pf := (⟨s, 0, 0⟩, 0)
theorem allP_R (s : Bool) : (allP s).R := by
  cases s
  · exact ⟨⟨⟨⟨by decide, by decide⟩, ⟨by decide, by decide⟩⟩, fun _ => by decide⟩, by decide, by decide, by decide⟩
  · refine ⟨⟨⟨⟨by decide, by decide⟩, ⟨by decide, by decide⟩⟩, fun h => by cases h⟩, by decide, by decide, ?_⟩
    apply dvd_clr
    exact Nat.dvd_zero _
theorem allP_n (s : Bool) : (allP s).1.n = s2n s ∧ freeB (allP s) = (lenZ s).toNat := by
  constructor
  · unfold Ad.n; show s2n s + num 0 0 = _; rw [show num 0 0 = 0 from rfl]; omega
  · unfold freeB; show (lenZ s - 0).toNat = _; rw [Int.sub_zero]
theorem rgP_all (s : Bool) : rgP (allP s) = (⟨s, 0, 0⟩, adOf (topN s)) := by
  obtain ⟨e1, e2⟩ := allP_n s
  have := Nat.two_pow_pos (lenZ s).toNat
  unfold rgP topN
  rw [e1, e2, show s2n s + 2 ^ (lenZ s).toNat - 1 = s2n s + (2 ^ (lenZ s).toNat - 1) by omega]
  rfl

@[go_sem] theorem run_field_rg0 (x : Ad × Ad) (w : World) : (Instr.field 107 (.agg (rgC x).toArray) 0).run Tryz.prog w = .ok (.agg (adC x.1).toArray) w := by
  obtain ⟨⟨a, b, c⟩, ⟨d, e, f⟩⟩ := x
  kernel_rfl
@[go_sem] theorem run_field_rg1 (x : Ad × Ad) (w : World) : (Instr.field 107 (.agg (rgC x).toArray) 1).run Tryz.prog w = .ok (.agg (adC x.2).toArray) w := by
  obtain ⟨⟨a, b, c⟩, ⟨d, e, f⟩⟩ := x
  kernel_rfl

set_option maxHeartbeats 1000000 in
theorem whole_any (s : Bool) (w : World) : Calls Tryz.prog 72 #[.bool s] w (GivesV (rgA (⟨s, 0, 0⟩, adOf (topN s))) w) := by
  have HR := fun w' => Lib.hid (rangeOf_R (allP s) w' (allP_R s))
  rw [rgP_all] at HR
  have hR := Blk.new w [.bool false, .int .u64 0, .int .u64 0, .bool false, .int .u64 0, .int .u64 0] 107
  have hG : Below w.heap.size w (w.alloc (.cells #[.bool false, .int .u64 0, .int .u64 0, .bool false, .int .u64 0, .int .u64 0] 107)) := (Below.refl _ _).alloc (Nat.le_refl _) _
  have B1 := fun w' => run_build (P := Tryz.prog) w' 30 #[(0, .bool s)] (adC ⟨s, 0, 0⟩).toArray (by kernel_rfl)
  have B2 := fun w' => run_build (P := Tryz.prog) w' 41 #[(0, .agg (adC ⟨s, 0, 0⟩).toArray)] (pfC (allP s)).toArray (by kernel_rfl)
  generalize adOf (topN s) = T at *
  obtain ⟨x, hx⟩ : ∃ x : Ad × Ad, x = (⟨s, 0, 0⟩, T) := ⟨_, rfl⟩
  rw [← hx] at HR ⊢
  clear hx
  go_enter Tryz.func72, Tryz.ntmps72
  go_wp2_with fail
  refine (HR _).out.mono ?_
  rintro e w1 ⟨rfl, hb1⟩
  have hR1 := hR.below hb1
  have S1 := stT_row rowRg hR1 rfl (rgC_len x) (rgC_one x)
  have hG1 := hG.trans (hb1.mono hG.size)
  go_wp2_with fail
  have hx : w1.heap[w.heap.size]? = _ := hR1
  refine bodyPost_ret (v := rgA x) (results_cell_row rfl _ _ w.heap.size _ _ (0, 0) _ rfl (setRow_heap w1 w.heap.size _ _ _ _ hR1) Tryz.underlying107 rfl (by rw [rowRg.size]; rfl)) rfl ⟨rfl, ?_⟩
  exact hG1.trans ⟨rfl, rfl, rfl, by simp, fun k hk => setRow_other _ _ _ _ (by omega)⟩

theorem results_cell_tmp_row {fn : Func} {p u : Tmp} {ty : TypeId} {k : Nat} (T : RowT ty k) (h : fn.results = #[.cell p ty, .tmp u]) (tmps : Array Value) (w : World) (g : Nat) (t : TypeId) (cs : List Value) (x : Value)
    (hp : tmps.getD p undef = .pointer (some ⟨g, 0, none⟩)) (hx : tmps.getD u undef = x) (hg : Blk w g cs t) (hl : cs.length = k) :
    (results fn tmps).run Tryz.prog w = .ok (.tuple #[.agg cs.toArray, x]) w := by
  obtain ⟨d, hu, hd⟩ := T.row
  rw [results_cell_tmp h, hp, hx]
  have := run_loadVar_mid (P := Tryz.prog) w g 0 ty cs d (hg.range 0 cs [] (by simp)) hu hd (by rw [T.size, hl])
  simp [asAddr, this, Result.andThen]
theorem Blk.row {w : World} {p : Nat} {old : List Value} {t : TypeId} (h : Blk w p old t) (cs : List Value) : Blk (w.setRow p cs.toArray) p cs t := setRow_heap w p _ _ _ _ h
theorem below_row {w w' : World} {B p : Nat} (h : Below B w w') (hp : B ≤ p) (cs : Array Value) : Below B w (w'.setRow p cs) :=
  h.trans ⟨rfl, rfl, rfl, by simp, fun k hk => setRow_other _ _ _ _ (by omega)⟩

def adE (a b : Ad) : Bool := adQ a.s b.s a.hi a.lo b.hi b.lo
@[go_sem] theorem run_eqAdA (x y : Operand) (a b : Ad) (w : World) : (eqAd x y (.agg (adC a).toArray) (.agg (adC b).toArray)).run Tryz.prog w = .ok (.value (.bool (adE a b))) w :=
  run_eqAd x y a.s b.s a.hi a.lo b.hi b.lo w
theorem adE_iff {a b : Ad} (ha : a.U) (hb : b.U) : adE a b = decide (a.n = b.n) := by
  unfold adE adQ
  rw [Bool.eq_iff_iff]
  simp only [Bool.and_eq_true, beq_iff_eq, decide_eq_true_eq]
  constructor
  · rintro ⟨h1, h2, h3⟩
    obtain ⟨s, hi, lo⟩ := a
    obtain ⟨t, h, l⟩ := b
    simp only at h1 h2 h3
    subst h1; subst h2; subst h3; rfl
  · intro h
    have := Ad.ext' ha hb h
    subst this
    exact ⟨rfl, rfl, rfl⟩
theorem Ad.R.le_top {a : Ad} (h : a.R) : a.n ≤ topN a.s := by
  rcases h.six with ⟨h1, h2, h3⟩ | ⟨h1, h2, h3⟩
  · rw [h1, topN_false]; omega
  · rw [h1, topN_true]; omega
theorem topN_lt (s : Bool) : topN s < 2 ^ 129 := by
  cases s
  · rw [topN_false]; omega
  · rw [topN_true]; omega
theorem adOf_top (s : Bool) : (adOf (topN s)).n = topN s := adOf_n (topN_lt s)
def nextV (a : Ad) : Value := if a.n = topN a.s then .tuple #[.agg #[.bool false, .int .u64 0, .int .u64 0], .bool false] else .tuple #[.agg (adC (adOf (a.n + 1))).toArray, .bool true]
theorem next_step {a : Ad} (h : a.R) (hne : a.n ≠ topN a.s) : (a.lo < 18446744073709551615 → adOf (a.n + 1) = ⟨a.s, a.hi, a.lo + 1⟩) ∧ (¬ a.lo < 18446744073709551615 → a.lo = 18446744073709551615 ∧ a.hi < 18446744073709551615 ∧ adOf (a.n + 1) = ⟨a.s, a.hi + 1, 0⟩) := by
  have hlt := h.1.n_lt
  have hle := h.le_top
  have htop : topN a.s < 2 ^ 129 := topN_lt _
  obtain ⟨⟨h1, h2⟩, ⟨h3, h4⟩⟩ := h.1
  constructor
  · intro hl
    refine Ad.ext' (adOf_U _) ⟨⟨h1, h2⟩, ⟨by show 0 ≤ a.lo + 1; omega, by show a.lo + 1 < _; omega⟩⟩ ?_
    rw [adOf_n (by omega)]
    unfold Ad.n Ad.v num
    simp only
    omega
  · intro hl
    have hlo : a.lo = 18446744073709551615 := by omega
    have hhi : a.hi < 18446744073709551615 := by
      rcases Int.lt_or_le a.hi 18446744073709551615 with g | g
      · exact g
      · exfalso
        have hh : a.hi = 18446744073709551615 := by omega
        apply hne
        rcases h.six with ⟨k1, k2, k3⟩ | ⟨k1, k2, k3⟩
        · unfold Ad.v num at k2; rw [hh, hlo] at k2; omega
        · rw [k1, topN_true, k2]; unfold Ad.v num; rw [hh, hlo]; decide
    refine ⟨hlo, hhi, Ad.ext' (adOf_U _) ⟨⟨by show 0 ≤ a.hi + 1; omega, by show a.hi + 1 < _; omega⟩, ⟨by show (0 : Int) ≤ 0; omega, by show (0 : Int) < _; omega⟩⟩ ?_⟩
    rw [adOf_n (by omega)]
    unfold Ad.n Ad.v num
    simp only
    rw [hlo]
    omega

set_option maxHeartbeats 4000000 in
theorem nextA_any (a : Ad) (w : World) (h : a.R) : Calls Tryz.prog 44 #[adA a] w (GivesV (nextV a) w) := by
  have HW := fun w' => Lib.hid (whole_any a.s w')
  have hE : adE a (adOf (topN a.s)) = decide (a.n = topN a.s) := by rw [adE_iff h.1 (adOf_U _), adOf_top]
  obtain ⟨h1, h2⟩ := two_new w (adC a) [.bool false, .int .u64 0, .int .u64 0] 30 30
  have hG := below_two w (.cells (adC a).toArray 30) (.cells #[.bool false, .int .u64 0, .int .u64 0] 30)
  have hB := gb_refl ((w.alloc (.cells (adC a).toArray 30)).alloc (.cells #[.bool false, .int .u64 0, .int .u64 0] 30)) none
  have hst := next_step h
  obtain ⟨⟨g1, g2⟩, ⟨g3, g4⟩⟩ := h.1
  generalize adOf (topN a.s) = T at *
  by_cases ht : a.n = topN a.s
  · have HV := Lib.hid (show nextV a = _ from if_pos ht)
    have b9 : adE a T = true := by rw [hE]; exact decide_eq_true ht
    clear hE hst ht
    have B1 := fun w' => run_build (P := Tryz.prog) w' 30 #[] #[.bool false, .int .u64 0, .int .u64 0] (by kernel_rfl)
    go_enter Tryz.func44, Tryz.ntmps44
    go_wp2_with fail
    refine wx_begin (none) [] (by kernel_rfl) (fun u0 hb0' hz0' => ?_)
    replace hB := gb_trans hB (gbB hb0')
    clear hb0' hz0'
    refine wx_takeZ 0 (some 4) (v := ?_) ?_ ?_; rotate_left; · (intro u hu; have k1 := h1.gn (gb_trans hB hu); have l1 := k1.ld rowAd rfl; have q0 := k1.cell (i := 0) (v := .bool a.s) rfl; clear k1; go_simp; try with_reducible rfl)
    try simp only [Act.put, gzD, gzE, gzF]
    refine wx_pureZ 1 (some 5) (v := ?_) ?_ ?_; rotate_left; · (intro u; go_simp; try with_reducible rfl)
    try simp only [Act.put, gzD, gzE, gzF]
    refine wx_takeZ 2 (some 6) (v := ?_) ?_ ?_; rotate_left; · (intro u hu; have k1 := h1.gn (gb_trans hB hu); have l1 := k1.ld rowAd rfl; have q0 := k1.cell (i := 0) (v := .bool a.s) rfl; clear k1; go_simp; try with_reducible rfl)
    try simp only [Act.put, gzD, gzE, gzF]
    refine wx_oneZ 3 (fun K hK => ?_)
    go_simp
    refine (HW _).out.mono ?_
    rintro e u1 ⟨rfl, hv1⟩
    refine hK _ _ (gbB hv1) ?_
    replace hB := gb_trans hB (gbB hv1)
    clear hK K hv1
    try simp only [Act.put, gzD, gzE, gzF]
    refine wx_pureZ 4 (some 8) (v := ?_) ?_ ?_; rotate_left; · (intro u; go_simp; try with_reducible rfl)
    try simp only [Act.put, gzD, gzE, gzF]
    refine wx_pureZ 5 (some 9) (v := ?_) ?_ ?_; rotate_left; · (intro u; go_simp; try with_reducible rfl)
    try simp only [Act.put, gzD, gzE, gzF]
    refine wx_done (by kernel_rfl) ?_ _
    have hW := (hG.trans ((gb2B hB).mono hG.size))
    have k2 := h2.gn hB
    have S1 := stT_row rowAd k2 rfl (show [Value.bool false, .int .u64 0, .int .u64 0].length = 3 from rfl) (by intro v hv; simp at hv; rcases hv with rfl | rfl | rfl <;> rfl)
    go_wp2_with fail
    have hz : w.heap.size ≤ w.heap.size + 1 := by omega
    refine bodyPost_ret (v := .tuple #[.agg #[.bool false, .int .u64 0, .int .u64 0], .bool false]) ?_ rfl ⟨by rw [HV.out], hW.trans ⟨rfl, rfl, rfl, by simp, fun k hk => setRow_other _ _ _ _ (by omega)⟩⟩
    exact results_cell_tmp_row rowAd rfl _ _ _ _ _ _ rfl rfl (k2.row _) rfl
  · have HV := Lib.hid (show nextV a = _ from if_neg ht)
    have b9 : adE a T = false := by rw [hE]; exact decide_eq_false ht
    obtain ⟨st1, st2⟩ := hst ht
    clear hE hst ht
    by_cases hl : a.lo < 18446744073709551615
    · replace st1 := Lib.hid (st1 hl)
      have b17 : (a.lo + 1 == 0) = false := by simp; omega
      clear st2
      go_enter Tryz.func44, Tryz.ntmps44
      go_wp2_with fail
      refine wx_begin (none) [] (by kernel_rfl) (fun u0 hb0' hz0' => ?_)
      replace hB := gb_trans hB (gbB hb0')
      clear hb0' hz0'
      refine wx_takeZ 0 (some 4) (v := ?_) ?_ ?_; rotate_left; · (intro u hu; have k1 := h1.gn (gb_trans hB hu); have l1 := k1.ld rowAd rfl; have q0 := k1.cell (i := 0) (v := .bool a.s) rfl; clear k1; go_simp; try with_reducible rfl)
      try simp only [Act.put, gzD, gzE, gzF]
      refine wx_pureZ 1 (some 5) (v := ?_) ?_ ?_; rotate_left; · (intro u; go_simp; try with_reducible rfl)
      try simp only [Act.put, gzD, gzE, gzF]
      refine wx_takeZ 2 (some 6) (v := ?_) ?_ ?_; rotate_left; · (intro u hu; have k1 := h1.gn (gb_trans hB hu); have l1 := k1.ld rowAd rfl; have q0 := k1.cell (i := 0) (v := .bool a.s) rfl; clear k1; go_simp; try with_reducible rfl)
      try simp only [Act.put, gzD, gzE, gzF]
      refine wx_oneZ 3 (fun K hK => ?_)
      go_simp
      refine (HW _).out.mono ?_
      rintro e u1 ⟨rfl, hv1⟩
      refine hK _ _ (gbB hv1) ?_
      replace hB := gb_trans hB (gbB hv1)
      clear hK K hv1
      try simp only [Act.put, gzD, gzE, gzF]
      refine wx_pureZ 4 (some 8) (v := ?_) ?_ ?_; rotate_left; · (intro u; go_simp; try with_reducible rfl)
      try simp only [Act.put, gzD, gzE, gzF]
      refine wx_pureZ 5 (some 9) (v := ?_) ?_ ?_; rotate_left; · (intro u; go_simp; try with_reducible rfl)
      try simp only [Act.put, gzD, gzE, gzF]
      refine wx_done (by kernel_rfl) ?_ _
      have hW := (hG.trans ((gb2B hB).mono hG.size))
      have k1 := h1.gn hB
      have k2 := h2.gn hB
      have c2 := k1.cell (i := 2) (v := .int .u64 a.lo) rfl
      have f2 := k1.free 2
      have k1' := k1.set 2 (.int .u64 (a.lo + 1))
      have k2' := k2.other (a := ⟨w.heap.size, 2, none⟩) (by simp) (.int .u64 (a.lo + 1))
      have e1 : (adC a).set 2 (.int .u64 (a.lo + 1)) = adC (adOf (a.n + 1)) := by rw [st1.out]; rfl
      rw [e1] at k1'
      have L1 := k1'.ld rowAd rfl
      have S1 := stT_row rowAd k2' rfl (adC_len (adOf (a.n + 1))) (adC_one _)
      go_wp2_with fail
      refine bodyPost_ret (v := .tuple #[.agg (adC (adOf (a.n + 1))).toArray, .bool true]) ?_ rfl ⟨by rw [HV.out], (hW.setCell (p := ⟨w.heap.size, 2, none⟩) (Nat.le_refl _) _).trans ⟨rfl, rfl, rfl, by simp, fun k hk => setRow_other _ _ _ _ (by omega)⟩⟩
      exact results_cell_tmp_row rowAd rfl _ _ _ _ _ _ rfl rfl (k2'.row _) rfl
    · obtain ⟨st3, st4, st5⟩ := st2 hl
      replace st5 := Lib.hid st5
      have w1 : IntKind.u64.wrap (a.lo + 1) = 0 := by rw [IntKind.wrap_u64, st3]; decide
      have w2 : IntKind.u64.wrap (a.hi + 1) = a.hi + 1 := by rw [IntKind.wrap_u64]; omega
      clear st1 st2 st3 st4 hl g1 g2 g3 g4
      go_enter Tryz.func44, Tryz.ntmps44
      go_wp2_with fail
      refine wx_begin (none) [] (by kernel_rfl) (fun u0 hb0' hz0' => ?_)
      replace hB := gb_trans hB (gbB hb0')
      clear hb0' hz0'
      refine wx_takeZ 0 (some 4) (v := ?_) ?_ ?_; rotate_left; · (intro u hu; have k1 := h1.gn (gb_trans hB hu); have l1 := k1.ld rowAd rfl; have q0 := k1.cell (i := 0) (v := .bool a.s) rfl; clear k1; go_simp; try with_reducible rfl)
      try simp only [Act.put, gzD, gzE, gzF]
      refine wx_pureZ 1 (some 5) (v := ?_) ?_ ?_; rotate_left; · (intro u; go_simp; try with_reducible rfl)
      try simp only [Act.put, gzD, gzE, gzF]
      refine wx_takeZ 2 (some 6) (v := ?_) ?_ ?_; rotate_left; · (intro u hu; have k1 := h1.gn (gb_trans hB hu); have l1 := k1.ld rowAd rfl; have q0 := k1.cell (i := 0) (v := .bool a.s) rfl; clear k1; go_simp; try with_reducible rfl)
      try simp only [Act.put, gzD, gzE, gzF]
      refine wx_oneZ 3 (fun K hK => ?_)
      go_simp
      refine (HW _).out.mono ?_
      rintro e u1 ⟨rfl, hv1⟩
      refine hK _ _ (gbB hv1) ?_
      replace hB := gb_trans hB (gbB hv1)
      clear hK K hv1
      try simp only [Act.put, gzD, gzE, gzF]
      refine wx_pureZ 4 (some 8) (v := ?_) ?_ ?_; rotate_left; · (intro u; go_simp; try with_reducible rfl)
      try simp only [Act.put, gzD, gzE, gzF]
      refine wx_pureZ 5 (some 9) (v := ?_) ?_ ?_; rotate_left; · (intro u; go_simp; try with_reducible rfl)
      try simp only [Act.put, gzD, gzE, gzF]
      refine wx_done (by kernel_rfl) ?_ _
      have hW := (hG.trans ((gb2B hB).mono hG.size))
      have k1 := h1.gn hB
      have k2 := h2.gn hB
      have c2 := k1.cell (i := 2) (v := .int .u64 a.lo) rfl
      have c1 := k1.cell (i := 1) (v := .int .u64 a.hi) rfl
      have f1 := k1.free 1
      have f2 := k1.free 2
      have k1' := (k1.set 2 (.int .u64 0)).set 1 (.int .u64 (a.hi + 1))
      have k2' := (k2.other (a := ⟨w.heap.size, 2, none⟩) (by simp) (.int .u64 0)).other (a := ⟨w.heap.size, 1, none⟩) (by simp) (.int .u64 (a.hi + 1))
      have e1 : ((adC a).set 2 (.int .u64 0)).set 1 (.int .u64 (a.hi + 1)) = adC (adOf (a.n + 1)) := by rw [st5.out]; rfl
      rw [e1] at k1'
      have L1 := k1'.ld rowAd rfl
      have S1 := stT_row rowAd k2' rfl (adC_len (adOf (a.n + 1))) (adC_one _)
      go_wp2_with fail
      refine bodyPost_ret (v := .tuple #[.agg (adC (adOf (a.n + 1))).toArray, .bool true]) ?_ rfl ⟨by rw [HV.out], ((hW.setCell (p := ⟨w.heap.size, 2, none⟩) (Nat.le_refl _) _).setCell (p := ⟨w.heap.size, 1, none⟩) (Nat.le_refl _) _).trans ⟨rfl, rfl, rfl, by simp, fun k hk => setRow_other _ _ _ _ (by omega)⟩⟩
      exact results_cell_tmp_row rowAd rfl _ _ _ _ _ _ rfl rfl (k2'.row _) rfl


def RgR (x : Ad × Ad) : Prop := x.1.R ∧ x.2.R ∧ x.1.s = x.2.s ∧ x.1.n ≤ x.2.n
def iv (x : Ad × Ad) : Pt := ((x.1.n : Int), (x.2.n : Int))
theorem RgR.n_lt {x : Ad × Ad} (h : RgR x) : x.1.n < 2 ^ 129 ∧ x.2.n < 2 ^ 129 := ⟨h.1.1.n_lt, h.2.1.1.n_lt⟩
theorem RgR.s_touch {x y : Ad × Ad} (hx : RgR x) (hy : RgR y) (hs : x.1.n ≤ y.1.n) (ht : y.1.n ≤ x.2.n + 1) : x.1.s = y.1.s := by
  obtain ⟨h1, h2, h3, h4⟩ := hx
  obtain ⟨k1, k2, k3, k4⟩ := hy
  rcases h1.six with ⟨a1, a2, a3⟩ | ⟨a1, a2, a3⟩ <;> rcases k1.six with ⟨b1, b2, b3⟩ | ⟨b1, b2, b3⟩
  · rw [a1, b1]
  · exfalso
    rcases h2.six with ⟨c1, c2, c3⟩ | ⟨c1, c2, c3⟩
    · omega
    · rw [h3, c1] at a1; cases a1
  · omega
  · rw [a1, b1]

def joinA (J : List (Ad × Ad)) (x : Ad × Ad) : List (Ad × Ad) := match J with
  | [] => [x]
  | y :: r => if y.2.n + 1 < x.1.n then x :: y :: r else (y.1, if y.2.n < x.2.n then x.2 else y.2) :: r
theorem map_joinA (J : List (Ad × Ad)) (x : Ad × Ad) : (joinA J x).map iv = joinS (J.map iv) (iv x) := by
  cases J with
  | nil => rfl
  | cons y r =>
    unfold joinA joinS
    simp only [List.map_cons]
    by_cases h : y.2.n + 1 < x.1.n
    · rw [if_pos h, if_pos (show (iv y).2 + 1 < (iv x).1 by show (y.2.n : Int) + 1 < (x.1.n : Int); omega)]
      rfl
    · rw [if_neg h, if_neg (show ¬ (iv y).2 + 1 < (iv x).1 by show ¬ (y.2.n : Int) + 1 < (x.1.n : Int); omega)]
      rw [List.map_cons]
      congr 1
      apply Prod.ext
      · rfl
      · show (((if y.2.n < x.2.n then x.2 else y.2).n : Nat) : Int) = max (y.2.n : Int) (x.2.n : Int)
        by_cases g : y.2.n < x.2.n
        · rw [if_pos g]; omega
        · rw [if_neg g]; omega
def JA (J P : List (Ad × Ad)) : Prop := JoinI (J.map iv) (P.map iv) (2 ^ 129) ∧ ∀ y ∈ J, RgR y
theorem JA.nil : JA [] [] := ⟨⟨trivial, fun k => Iff.rfl, fun q r e => by cases e⟩, fun y hy => by cases hy⟩
theorem JA.first {P : List (Ad × Ad)} {y x : Ad × Ad} {r : List (Ad × Ad)} (h : JA (y :: r) P) (hs : ∀ z ∈ P, z.1.n ≤ x.1.n) : y.1.n ≤ x.1.n := by
  obtain ⟨z, hz, hyz⟩ := h.1.2.2 (iv y) (r.map iv) rfl
  obtain ⟨z, hz', rfl⟩ := List.mem_map.1 hz
  have := hs z hz'
  have h1 : (y.1.n : Int) ≤ (z.1.n : Int) := hyz
  omega
theorem JA.step {J P : List (Ad × Ad)} {x : Ad × Ad} (h : JA J P) (hx : RgR x) (hs : ∀ z ∈ P, z.1.n ≤ x.1.n) : JA (joinA J x) (P ++ [x]) := by
  have hlt := hx.n_lt
  refine ⟨?_, ?_⟩
  · rw [map_joinA, List.map_append, List.map_cons, List.map_nil]
    refine joinS_keeps h.1 ⟨?_, ?_⟩ (fun z hz => ?_)
    · show (x.1.n : Int) ≤ (x.2.n : Int)
      have := hx.2.2.2
      omega
    · show (x.2.n : Int) < 2 ^ 129
      omega
    · obtain ⟨z, hz', rfl⟩ := List.mem_map.1 hz
      have := hs z hz'
      show (z.1.n : Int) ≤ (x.1.n : Int)
      omega
  · intro y hy
    cases hJ : J with
    | nil =>
      subst hJ
      rcases List.mem_singleton.1 hy with rfl
      exact hx
    | cons q r =>
      subst hJ
      have hq := h.2 q List.mem_cons_self
      have hqx : q.1.n ≤ x.1.n := JA.first h hs
      unfold joinA at hy
      by_cases hlt : q.2.n + 1 < x.1.n
      · simp only [if_pos hlt] at hy
        rcases List.mem_cons.1 hy with rfl | hy
        · exact hx
        · exact h.2 y hy
      · simp only [if_neg hlt] at hy
        rcases List.mem_cons.1 hy with rfl | hy
        · by_cases g : q.2.n < x.2.n
          · simp only [if_pos g]
            refine ⟨hq.1, hx.2.1, ?_, by have := hq.2.2.2; show q.1.n ≤ x.2.n; omega⟩
            show q.1.s = x.2.s
            rw [hq.s_touch hx hqx (by omega), hx.2.2.1]
          · simp only [if_neg g]; exact hq
        · exact h.2 y (List.mem_cons_of_mem _ hy)

def Joined (ys xs : List (Ad × Ad)) : Prop := CanR (2 ^ 129) (ys.reverse.map iv) ∧ (∀ k, InP (ys.map iv) k ↔ InP (xs.map iv) k) ∧ ∀ y ∈ ys, RgR y
theorem inP_perm {l m : List Pt} (h : l.Perm m) (k : Int) : InP l k ↔ InP m k := by
  unfold InP
  constructor
  · rintro ⟨p, hp, x⟩; exact ⟨p, h.mem_iff.1 hp, x⟩
  · rintro ⟨p, hp, x⟩; exact ⟨p, h.mem_iff.2 hp, x⟩
theorem JA.done {J P xs : List (Ad × Ad)} (h : JA J P) (hp : P.Perm xs) : Joined J.reverse xs := by
  refine ⟨by rw [List.reverse_reverse]; exact h.1.1, fun k => ?_, fun y hy => h.2 y (List.mem_reverse.1 hy)⟩
  rw [List.map_reverse, inP_reverse, h.1.2.1 k]
  exact inP_perm (hp.map iv) k
def setL : List Value → Nat → List Value → List Value
  | l, _, [] => l
  | l, o, v :: r => setL (l.set o v) (o + 1) r
theorem setL_mid : ∀ (cs old a b : List Value), old.length = cs.length → setL (a ++ (old ++ b)) a.length cs = a ++ (cs ++ b)
  | [], [], a, b, _ => rfl
  | [], _ :: _, _, _, h => by simp at h
  | _ :: _, [], _, _, h => by simp at h
  | c :: cs, o :: old, a, b, h => by
    unfold setL
    rw [List.set_append_right _ _ (Nat.le_refl _), Nat.sub_self, List.cons_append, List.set_cons_zero]
    have := setL_mid cs old (a ++ [c]) b (by simpa using h)
    simpa using this
theorem own_setL {B : Nat} {e : TypeId} {size n cap g : Nat} : ∀ (vs : List Value) (o : Nat) (w : World) (xs : List Value), w.ownsRow B e size (.slice (some ⟨g, 0, none⟩) n cap) n xs → (w.setCells g o vs).ownsRow B e size (.slice (some ⟨g, 0, none⟩) n cap) n (setL xs o vs)
  | [], _, _, _, h => h
  | v :: r, o, w, xs, h => by
    unfold World.setCells setL
    exact own_setL r (o + 1) _ _ (own_setV h o v)
section
variable {α : Type} {E : Enc α} {t : TypeId}
theorem OwnE.ld {k : Nat} (T : RowT t k) (hk : E.k = k) {w : World} {B g n cap : Nat} {xs : List α} (h : OwnE E t B w (.slice (some ⟨g, 0, none⟩) n cap) xs) {j : Nat} {x : α} (hx : xs[j]? = some x) :
    (ldT t (.pointer (some ⟨g, j * k, none⟩))).run Tryz.prog w = .ok (.value (.agg (E.enc x).toArray)) w := by
  have h0 := h
  subst hk
  refine ldT_run T (E.len x) (fun i v hv => ?_)
  have := World.ownsRow.cells h0 (g := g) rfl _ _ (E.cells_get xs j x hx i v hv)
  rwa [Addr.add_lit, Nat.zero_add] at this
theorem OwnE.ldAt {t' : TypeId} {k m : Nat} (T : RowT t' m) (hk : E.k = k) {w : World} {B g n cap : Nat} {xs : List α} (h : OwnE E t B w (.slice (some ⟨g, 0, none⟩) n cap) xs) {j : Nat} {x : α} (hx : xs[j]? = some x) (o : Nat) (ds rest : List Value) (hl : ds.length = m) (hd : (E.enc x).drop o = ds ++ rest) :
    (ldT t' (.pointer (some ⟨g, j * k + o, none⟩))).run Tryz.prog w = .ok (.value (.agg ds.toArray)) w := by
  have h0 := h
  subst hk
  refine ldT_run T hl (fun i v hv => ?_)
  have hi := (List.getElem?_eq_some_iff.1 hv).1
  have h1 : ((E.enc x).drop o)[i]? = some v := by rw [hd, List.getElem?_append_left hi]; exact hv
  rw [List.getElem?_drop] at h1
  have := World.ownsRow.cells h0 (g := g) rfl _ _ (E.cells_get xs j x hx (o + i) v h1)
  rw [Addr.add_lit, Nat.zero_add, ← Nat.add_assoc] at this
  exact this
theorem OwnE.cell {w : World} {B g n cap : Nat} {xs : List α} (h : OwnE E t B w (.slice (some ⟨g, 0, none⟩) n cap) xs) {j : Nat} {x : α} (hx : xs[j]? = some x) {i : Nat} {v : Value} (hv : (E.enc x)[i]? = some v) : w.cell? ⟨g, j * E.k + i, none⟩ = some v := by
  have := World.ownsRow.cells h (g := g) rfl _ _ (E.cells_get xs j x hx i v hv)
  rwa [Addr.add_lit, Nat.zero_add] at this
theorem stT_own {t' : TypeId} {m : Nat} (T : RowT t' m) {w : World} {B g n cap : Nat} {xs : List α} {x : α} (h : OwnE E t B w (.slice (some ⟨g, 0, none⟩) n cap) xs) {j : Nat} (hx : xs[j]? = some x) (o : Nat) (cs : List Value) (ho : o + m ≤ E.k) (hl : cs.length = m) (h1 : ∀ v ∈ cs, v.oneCell' = true) :
    (stT t' (.pointer (some ⟨g, j * E.k + o, none⟩)) (.agg cs.toArray)).run Tryz.prog w = .ok .skip (w.setCells g (j * E.k + o) cs) := by
  unfold stT
  have hf : ∀ q, w.frozen? ⟨g, q, none⟩ = false := by
    have h0 := h
    rcases h0.2 with ⟨hv, _⟩ | ⟨g', cap', cur, hv, hg, hh, _⟩
    · cases hv
    · cases hv; exact fun q => frozen_of_row w g q _ _ hh
  have ht : w.there g (j * E.k + o) cs.toArray.size := by
    intro i hi
    have hi' : i < m := by rw [← hl]; simpa using hi
    have hb : o + i < (E.enc x).length := by rw [E.len]; omega
    refine ⟨?_, hf _⟩
    rw [show j * E.k + o + i = j * E.k + (o + i) by omega, h.cell hx (List.getElem?_eq_getElem hb)]
    rfl
  have hs := run_storeAt_mid (P := Tryz.prog) w g (j * E.k + o) t' cs.toArray ht (by rw [T.size]; simp [hl]) (all_oneCell_toArray h1)
  simp only [Sem.run_bind, hs, Result.andThen_ok, Sem.run_pure]
theorem below_setC {B b : Nat} {a : World} (hb : B ≤ b) : ∀ (vs : List Value) (o : Nat) (w : World), Below B a w → Below B a (w.setCells b o vs)
  | [], _, _, h => h
  | v :: r, o, w, h => by
    unfold World.setCells
    exact below_setC hb r (o + 1) _ (h.setCell (p := ⟨b, o, none⟩) hb v)
end

theorem OwnE.alloc' {α : Type} {E : Enc α} {t : TypeId} {B : Nat} {w : World} {v : Value} {xs : List α} (h : OwnE E t B w v xs) (o : Obj) : OwnE E t B (w.alloc o) v xs := h.below ((Below.refl _ _).alloc (Nat.le_refl _) _)

theorem clr_le (V k : Nat) : clr V k ≤ V := Nat.div_mul_le_self _ _
def eqN (A B : Nat) : Bool := dig A 0 == dig B 0 && (dig A 1 == dig B 1 && (dig A 2 == dig B 2 && (dig A 3 == dig B 3 && (dig A 4 == dig B 4 && (dig A 5 == dig B 5 && (dig A 6 == dig B 6 && (dig A 7 == dig B 7 && dig A 8 == dig B 8)))))))
set_option maxHeartbeats 1000000 in
theorem wide_equalN (A B : Nat) (w : World) : (Op.equalIn 10000 97 (.agg (digN A).toArray) (.agg (digN B).toArray)).run Tryz.prog w = .ok (eqN A B) w := by
  have u3 := Tryz.underlying3
  have a3 := Tryz.isAgg3
  have z3 := Tryz.sizeOf3
  have ei : ∀ a b : Nat, ((a : Int) = (b : Int)) = (a = b) := fun a b => propext Int.ofNat_inj
  unfold digN
  rw [show (10000 : Nat) = 9999 + 1 from rfl, Op.equalIn]
  simp only [Sem.run_bind, run_underlying Tryz.underlying97, Result.andThen_ok]
  simp only [Std.Legacy.Range.forIn_eq_forIn_range', Std.Legacy.Range.size, Nat.sub_zero, Nat.add_sub_cancel, Nat.div_one, List.range'_succ, List.range'_zero, List.forIn_cons, List.forIn_nil]
  go_simp
  unfold eqN
  (repeat' split) <;> simp_all
@[go_sem] theorem run_neqN (x y : Operand) (A B : Nat) (w : World) : (neqW x y (.agg (digN A).toArray) (.agg (digN B).toArray)).run Tryz.prog w = .ok (.value (.bool (!eqN A B))) w := by
  have := wide_equalN A B w
  unfold neqW
  go_simp
def eqlW (x y : Operand) (a b : Value) : Sem Next := do
  let v ← (do eqGuard .eql 97 x y a b; binOp .eql 97 a b)
  pure (.value v)
@[go_sem ↓ high] theorem execOp_eqlW (ρ : Operand → Value) (dst : Option Tmp) (x y : Operand) (r ty : TypeId) (pos : String) (after : Array Edge) (guard : Option (Nat × Bool)) :
    execOp ρ ⟨dst, .binOp .eql 97 x y r, ty, pos, after, guard⟩ = eqlW x y (ρ x) (ρ y) := rfl
@[go_sem high] theorem execOp_eqlW' (ρ : Operand → Value) (dst : Option Tmp) (x y : Operand) (r ty : TypeId) (pos : String) (after : Array Edge) (guard : Option (Nat × Bool)) :
    execOp ρ ⟨dst, .binOp .eql 97 x y r, ty, pos, after, guard⟩ = eqlW x y (ρ x) (ρ y) := rfl
@[go_sem] theorem run_eqlN (x y : Operand) (A B : Nat) (w : World) : (eqlW x y (.agg (digN A).toArray) (.agg (digN B).toArray)).run Tryz.prog w = .ok (.value (.bool (eqN A B))) w := by
  have := wide_equalN A B w
  unfold eqlW
  go_simp

theorem stT_own' {α : Type} {E : Enc α} {t t' : TypeId} {m k : Nat} (T : RowT t' m) (hk : E.k = k) {w : World} {B g n cap : Nat} {xs : List α} {x : α} (h : OwnE E t B w (.slice (some ⟨g, 0, none⟩) n cap) xs) {j : Nat} (hx : xs[j]? = some x) (o : Nat) (cs : List Value) (ho : o + m ≤ k) (hl : cs.length = m) (h1 : ∀ v ∈ cs, v.oneCell' = true) :
    (stT t' (.pointer (some ⟨g, j * k + o, none⟩)) (.agg cs.toArray)).run Tryz.prog w = .ok .skip (w.setCells g (j * k + o) cs) := by
  subst hk; exact stT_own T h hx o cs ho hl h1
end Go.Proofs.YtfbggfpihiegpaaGreatDoor
