/- Sets: lists of ranges joined (pure); parts of own rows that are stored. -/
import Derived.Test.YtmgdkefoehlamaaGreatDoorKoGzA
import Derived.Test.YtmgdkefoehlamaaGreatDoorKoStG
import Derived.Test.YtmgdkefoehlamaaGreatDoorKoTxtJ
set_option linter.unusedVariables false
set_option linter.unusedSimpArgs false
set_option maxRecDepth 100000
namespace Go.Proofs.YtmgdkefoehlamaaGreatDoor
open Go.RowKit

theorem last_ad {p : Pf} (h : p.R) : (⟨p.1.s, ((fil p.1.v (freeB p) / 2 ^ 64 : Nat) : Int), ((fil p.1.v (freeB p) % 2 ^ 64 : Nat) : Int)⟩ : Ad) = adOf (p.1.n + 2 ^ freeB p - 1) := by
  have hv : fil p.1.v (freeB p) < 2 ^ 128 := fil_lt h.free_le.1 h.1.1.v_lt
  have hpos := Nat.two_pow_pos (freeB p)
  have hok := h.blk_ok.2
  unfold OkB OkX blk at hok
  simp only at hok
  refine Ad.ext' (u64_halves _ hv) (adOf_U _) ?_
  rw [adOf_n (by omega)]
  show s2n p.1.s + num _ _ = _
  rw [num_of_halves _ hv, fil_blk h]
  unfold Ad.n
  omega
def rgP (p : Pf) : Ad × Ad := (p.1, adOf (p.1.n + 2 ^ freeB p - 1))
theorem rangeOf_R (p : Pf) (w : World) (h : p.R) : Calls Tryz.prog 81 #[pfA p] w (GivesV (rgA (rgP p)) w) := by
  obtain ⟨⟨h1, h2⟩, ⟨h3, h4⟩⟩ := h.1.1
  have := rangeOf_any p.1.s p.1.hi p.1.lo p.2 w h1 h2 h3 h4 h.2.1 h.2.2.1
  have e : rangeV p.1.s p.1.hi p.1.lo p.2 = rgA (rgP p) := by
    unfold rgP
    rw [← last_ad h]
    rfl
  rwa [e] at this

def topN (s : Bool) : Nat := s2n s + (2 ^ (lenZ s).toNat - 1)
theorem topN_true : topN true = 2 ^ 129 - 1 := by show 2 ^ 128 + (2 ^ 128 - 1) = _; omega
theorem topN_false : topN false = 2 ^ 32 - 1 := by show 0 + (2 ^ 32 - 1) = _; omega
def allP (s : Bool) : Pf := (⟨s, 0, 0⟩, 0)
theorem allP_R (s : Bool) : (allP s).R := by
  cases s
  · exact ⟨⟨⟨⟨by decide, by decide⟩, ⟨by decide, by decide⟩⟩, fun _ => by decide⟩, by decide, by decide, by decide⟩
  · refine ⟨⟨⟨⟨by decide, by decide⟩, ⟨by decide, by decide⟩⟩, fun h => by cases h⟩, by decide, by decide, ?_⟩
    apply dvd_clr
    exact Nat.dvd_zero _
theorem allP_n (s : Bool) : (allP s).1.n = s2n s ∧ freeB (allP s) = (lenZ s).toNat := by
  constructor
  · unfold Ad.n; show s2n s + num 0 0 = _; rw [show num 0 0 = 0 from rfl]; omega
  · unfold freeB; show (lenZ s - 0).toNat = _; rw [Int.sub_zero]
theorem rgP_all (s : Bool) : rgP (allP s) = (⟨s, 0, 0⟩, adOf (topN s)) := by
  obtain ⟨e1, e2⟩ := allP_n s
  have := Nat.two_pow_pos (lenZ s).toNat
  unfold rgP topN
  rw [e1, e2, show s2n s + 2 ^ (lenZ s).toNat - 1 = s2n s + (2 ^ (lenZ s).toNat - 1) by omega]
  rfl

@[go_sem] theorem run_field_rg0 (x : Ad × Ad) (w : World) : (Instr.field 53 (.agg (rgC x).toArray) 0).run Tryz.prog w = .ok (.agg (adC x.1).toArray) w := by
  obtain ⟨⟨a, b, c⟩, ⟨d, e, f⟩⟩ := x
  kernel_rfl
@[go_sem] theorem run_field_rg1 (x : Ad × Ad) (w : World) : (Instr.field 53 (.agg (rgC x).toArray) 1).run Tryz.prog w = .ok (.agg (adC x.2).toArray) w := by
  obtain ⟨⟨a, b, c⟩, ⟨d, e, f⟩⟩ := x
  kernel_rfl

set_option maxHeartbeats 1000000 in
theorem whole_any (s : Bool) (w : World) : Calls Tryz.prog 240 #[.bool s] w (GivesV (rgA (⟨s, 0, 0⟩, adOf (topN s))) w) := by
  have HR := fun w' => Lib.hid (rangeOf_R (allP s) w' (allP_R s))
  rw [rgP_all] at HR
  have hR := Blk.new w [.bool false, .int .u64 0, .int .u64 0, .bool false, .int .u64 0, .int .u64 0] 53
  have hG : Below w.heap.size w (w.alloc (.cells #[.bool false, .int .u64 0, .int .u64 0, .bool false, .int .u64 0, .int .u64 0] 53)) := (Below.refl _ _).alloc (Nat.le_refl _) _
  have B1 := fun w' => run_build (P := Tryz.prog) w' 38 #[(0, .bool s)] (adC ⟨s, 0, 0⟩).toArray (by kernel_rfl)
  have B2 := fun w' => run_build (P := Tryz.prog) w' 40 #[(0, .agg (adC ⟨s, 0, 0⟩).toArray)] (pfC (allP s)).toArray (by kernel_rfl)
  generalize adOf (topN s) = T at *
  obtain ⟨x, hx⟩ : ∃ x : Ad × Ad, x = (⟨s, 0, 0⟩, T) := ⟨_, rfl⟩
  rw [← hx] at HR ⊢
  clear hx
  go_enter Tryz.func240, Tryz.ntmps240
  go_wp2_with fail
  refine (HR _).out.mono ?_
  rintro e w1 ⟨rfl, hb1⟩
  have hR1 := hR.below hb1
  have S1 := stT_row rowRg hR1 rfl (rgC_len x) (rgC_one x)
  have hG1 := hG.trans (hb1.mono hG.size)
  go_wp2_with fail
  have hx : w1.heap[w.heap.size]? = _ := hR1
  refine bodyPost_ret (v := rgA x) (results_cell_row rfl _ _ w.heap.size _ _ (0, 0) _ rfl (setRow_heap w1 w.heap.size _ _ _ _ hR1) Tryz.underlying53 rfl (by rw [rowRg.size]; rfl)) rfl ⟨rfl, ?_⟩
  exact hG1.trans ⟨rfl, rfl, rfl, by simp, fun k hk => setRow_other _ _ _ _ (by omega)⟩

theorem results_cell_tmp_row {fn : Func} {p u : Tmp} {ty : TypeId} {k : Nat} (T : RowT ty k) (h : fn.results = #[.cell p ty, .tmp u]) (tmps : Array Value) (w : World) (g : Nat) (t : TypeId) (cs : List Value) (x : Value)
    (hp : tmps.getD p undef = .pointer (some ⟨g, 0, none⟩)) (hx : tmps.getD u undef = x) (hg : Blk w g cs t) (hl : cs.length = k) :
    (results fn tmps).run Tryz.prog w = .ok (.tuple #[.agg cs.toArray, x]) w := by
  obtain ⟨d, hu, hd⟩ := T.row
  rw [results_cell_tmp h, hp, hx]
  have := run_loadVar_mid (P := Tryz.prog) w g 0 ty cs d (hg.range 0 cs [] (by simp)) hu hd (by rw [T.size, hl])
  simp [asAddr, this, Result.andThen]
theorem Blk.row {w : World} {p : Nat} {old : List Value} {t : TypeId} (h : Blk w p old t) (cs : List Value) : Blk (w.setRow p cs.toArray) p cs t := setRow_heap w p _ _ _ _ h
theorem below_row {w w' : World} {B p : Nat} (h : Below B w w') (hp : B ≤ p) (cs : Array Value) : Below B w (w'.setRow p cs) :=
  h.trans ⟨rfl, rfl, rfl, by simp, fun k hk => setRow_other _ _ _ _ (by omega)⟩

def adE (a b : Ad) : Bool := adQ a.s b.s a.hi a.lo b.hi b.lo
@[go_sem] theorem run_eqAdA (x y : Operand) (a b : Ad) (w : World) : (eqAd x y (.agg (adC a).toArray) (.agg (adC b).toArray)).run Tryz.prog w = .ok (.value (.bool (adE a b))) w :=
  run_eqAd x y a.s b.s a.hi a.lo b.hi b.lo w
theorem adE_iff {a b : Ad} (ha : a.U) (hb : b.U) : adE a b = decide (a.n = b.n) := by
  unfold adE adQ
  rw [Bool.eq_iff_iff]
  simp only [Bool.and_eq_true, beq_iff_eq, decide_eq_true_eq]
  constructor
  · rintro ⟨h1, h2, h3⟩
    obtain ⟨s, hi, lo⟩ := a
    obtain ⟨t, h, l⟩ := b
    simp only at h1 h2 h3
    subst h1; subst h2; subst h3; rfl
  · intro h
    have := Ad.ext' ha hb h
    subst this
    exact ⟨rfl, rfl, rfl⟩
theorem Ad.R.le_top {a : Ad} (h : a.R) : a.n ≤ topN a.s := by
  rcases h.six with ⟨h1, h2, h3⟩ | ⟨h1, h2, h3⟩
  · rw [h1, topN_false]; omega
  · rw [h1, topN_true]; omega
theorem topN_lt (s : Bool) : topN s < 2 ^ 129 := by
  cases s
  · rw [topN_false]; omega
  · rw [topN_true]; omega
theorem adOf_top (s : Bool) : (adOf (topN s)).n = topN s := adOf_n (topN_lt s)
def nextV (a : Ad) : Value := if a.n = topN a.s then .tuple #[.agg #[.bool false, .int .u64 0, .int .u64 0], .bool false] else .tuple #[.agg (adC (adOf (a.n + 1))).toArray, .bool true]
theorem next_step {a : Ad} (h : a.R) (hne : a.n ≠ topN a.s) : (a.lo < 18446744073709551615 → adOf (a.n + 1) = ⟨a.s, a.hi, a.lo + 1⟩) ∧ (¬ a.lo < 18446744073709551615 → a.lo = 18446744073709551615 ∧ a.hi < 18446744073709551615 ∧ adOf (a.n + 1) = ⟨a.s, a.hi + 1, 0⟩) := by
  have hlt := h.1.n_lt
  have hle := h.le_top
  have htop : topN a.s < 2 ^ 129 := topN_lt _
  obtain ⟨⟨h1, h2⟩, ⟨h3, h4⟩⟩ := h.1
  constructor
  · intro hl
    refine Ad.ext' (adOf_U _) ⟨⟨h1, h2⟩, ⟨by show 0 ≤ a.lo + 1; omega, by show a.lo + 1 < _; omega⟩⟩ ?_
    rw [adOf_n (by omega)]
    unfold Ad.n Ad.v num
    simp only
    omega
  · intro hl
    have hlo : a.lo = 18446744073709551615 := by omega
    have hhi : a.hi < 18446744073709551615 := by
      rcases Int.lt_or_le a.hi 18446744073709551615 with g | g
      · exact g
      · exfalso
        have hh : a.hi = 18446744073709551615 := by omega
        apply hne
        rcases h.six with ⟨k1, k2, k3⟩ | ⟨k1, k2, k3⟩
        · unfold Ad.v num at k2; rw [hh, hlo] at k2; omega
        · rw [k1, topN_true, k2]; unfold Ad.v num; rw [hh, hlo]; decide
    refine ⟨hlo, hhi, Ad.ext' (adOf_U _) ⟨⟨by show 0 ≤ a.hi + 1; omega, by show a.hi + 1 < _; omega⟩, ⟨by show (0 : Int) ≤ 0; omega, by show (0 : Int) < _; omega⟩⟩ ?_⟩
    rw [adOf_n (by omega)]
    unfold Ad.n Ad.v num
    simp only
    rw [hlo]
    omega

set_option maxHeartbeats 4000000 in
theorem nextA_any (a : Ad) (w : World) (h : a.R) : Calls Tryz.prog 154 #[adA a] w (GivesV (nextV a) w) := by
  have HW := fun w' => Lib.hid (whole_any a.s w')
  have hE : adE a (adOf (topN a.s)) = decide (a.n = topN a.s) := by rw [adE_iff h.1 (adOf_U _), adOf_top]
  obtain ⟨h1, h2⟩ := two_new w (adC a) [.bool false, .int .u64 0, .int .u64 0] 38 38
  have hG := below_two w (.cells (adC a).toArray 38) (.cells #[.bool false, .int .u64 0, .int .u64 0] 38)
  have hB := gb_refl ((w.alloc (.cells (adC a).toArray 38)).alloc (.cells #[.bool false, .int .u64 0, .int .u64 0] 38)) none
  have hst := next_step h
  obtain ⟨⟨g1, g2⟩, ⟨g3, g4⟩⟩ := h.1
  generalize adOf (topN a.s) = T at *
  by_cases ht : a.n = topN a.s
  · have HV := Lib.hid (show nextV a = _ from if_pos ht)
    have b9 : adE a T = true := by rw [hE]; exact decide_eq_true ht
    clear hE hst ht
    have B1 := fun w' => run_build (P := Tryz.prog) w' 38 #[] #[.bool false, .int .u64 0, .int .u64 0] (by kernel_rfl)
    go_enter Tryz.func154, Tryz.ntmps154
    go_wp2_with fail
    refine wx_begin (none) [] (by kernel_rfl) (fun u0 hb0' hz0' => ?_)
    replace hB := gb_trans hB (gbB hb0')
    clear hb0' hz0'
    refine wx_takeZ 0 (some 4) (v := ?_) ?_ ?_; rotate_left; · (intro u hu; have k1 := h1.gn (gb_trans hB hu); have l1 := k1.ld rowAd rfl; have q0 := k1.cell (i := 0) (v := .bool a.s) rfl; clear k1; go_simp; try with_reducible rfl)
    try simp only [Act.put, gzD, gzE, gzF]
    refine wx_pureZ 1 (some 5) (v := ?_) ?_ ?_; rotate_left; · (intro u; go_simp; try with_reducible rfl)
    try simp only [Act.put, gzD, gzE, gzF]
    refine wx_takeZ 2 (some 6) (v := ?_) ?_ ?_; rotate_left; · (intro u hu; have k1 := h1.gn (gb_trans hB hu); have l1 := k1.ld rowAd rfl; have q0 := k1.cell (i := 0) (v := .bool a.s) rfl; clear k1; go_simp; try with_reducible rfl)
    try simp only [Act.put, gzD, gzE, gzF]
    refine wx_oneZ 3 (fun K hK => ?_)
    go_simp
    refine (HW _).out.mono ?_
    rintro e u1 ⟨rfl, hv1⟩
    refine hK _ _ (gbB hv1) ?_
    replace hB := gb_trans hB (gbB hv1)
    clear hK K hv1
    try simp only [Act.put, gzD, gzE, gzF]
    refine wx_pureZ 4 (some 8) (v := ?_) ?_ ?_; rotate_left; · (intro u; go_simp; try with_reducible rfl)
    try simp only [Act.put, gzD, gzE, gzF]
    refine wx_pureZ 5 (some 9) (v := ?_) ?_ ?_; rotate_left; · (intro u; go_simp; try with_reducible rfl)
    try simp only [Act.put, gzD, gzE, gzF]
    refine wx_done (by kernel_rfl) ?_ _
    have hW := (hG.trans ((gb2B hB).mono hG.size))
    have k2 := h2.gn hB
    have S1 := stT_row rowAd k2 rfl (show [Value.bool false, .int .u64 0, .int .u64 0].length = 3 from rfl) (by intro v hv; simp at hv; rcases hv with rfl | rfl | rfl <;> rfl)
    go_wp2_with fail
    have hz : w.heap.size ≤ w.heap.size + 1 := by omega
    refine bodyPost_ret (v := .tuple #[.agg #[.bool false, .int .u64 0, .int .u64 0], .bool false]) ?_ rfl ⟨by rw [HV.out], hW.trans ⟨rfl, rfl, rfl, by simp, fun k hk => setRow_other _ _ _ _ (by omega)⟩⟩
    exact results_cell_tmp_row rowAd rfl _ _ _ _ _ _ rfl rfl (k2.row _) rfl
  · have HV := Lib.hid (show nextV a = _ from if_neg ht)
    have b9 : adE a T = false := by rw [hE]; exact decide_eq_false ht
    obtain ⟨st1, st2⟩ := hst ht
    clear hE hst ht
    by_cases hl : a.lo < 18446744073709551615
    · replace st1 := Lib.hid (st1 hl)
      have b17 : (a.lo + 1 == 0) = false := by simp; omega
      clear st2
      go_enter Tryz.func154, Tryz.ntmps154
      go_wp2_with fail
      refine wx_begin (none) [] (by kernel_rfl) (fun u0 hb0' hz0' => ?_)
      replace hB := gb_trans hB (gbB hb0')
      clear hb0' hz0'
      refine wx_takeZ 0 (some 4) (v := ?_) ?_ ?_; rotate_left; · (intro u hu; have k1 := h1.gn (gb_trans hB hu); have l1 := k1.ld rowAd rfl; have q0 := k1.cell (i := 0) (v := .bool a.s) rfl; clear k1; go_simp; try with_reducible rfl)
      try simp only [Act.put, gzD, gzE, gzF]
      refine wx_pureZ 1 (some 5) (v := ?_) ?_ ?_; rotate_left; · (intro u; go_simp; try with_reducible rfl)
      try simp only [Act.put, gzD, gzE, gzF]
      refine wx_takeZ 2 (some 6) (v := ?_) ?_ ?_; rotate_left; · (intro u hu; have k1 := h1.gn (gb_trans hB hu); have l1 := k1.ld rowAd rfl; have q0 := k1.cell (i := 0) (v := .bool a.s) rfl; clear k1; go_simp; try with_reducible rfl)
      try simp only [Act.put, gzD, gzE, gzF]
      refine wx_oneZ 3 (fun K hK => ?_)
      go_simp
      refine (HW _).out.mono ?_
      rintro e u1 ⟨rfl, hv1⟩
      refine hK _ _ (gbB hv1) ?_
      replace hB := gb_trans hB (gbB hv1)
      clear hK K hv1
      try simp only [Act.put, gzD, gzE, gzF]
      refine wx_pureZ 4 (some 8) (v := ?_) ?_ ?_; rotate_left; · (intro u; go_simp; try with_reducible rfl)
      try simp only [Act.put, gzD, gzE, gzF]
      refine wx_pureZ 5 (some 9) (v := ?_) ?_ ?_; rotate_left; · (intro u; go_simp; try with_reducible rfl)
      try simp only [Act.put, gzD, gzE, gzF]
      refine wx_done (by kernel_rfl) ?_ _
      have hW := (hG.trans ((gb2B hB).mono hG.size))
      have k1 := h1.gn hB
      have k2 := h2.gn hB
      have c2 := k1.cell (i := 2) (v := .int .u64 a.lo) rfl
      have f2 := k1.free 2
      have k1' := k1.set 2 (.int .u64 (a.lo + 1))
      have k2' := k2.other (a := ⟨w.heap.size, 2, none⟩) (by simp) (.int .u64 (a.lo + 1))
      have e1 : (adC a).set 2 (.int .u64 (a.lo + 1)) = adC (adOf (a.n + 1)) := by rw [st1.out]; rfl
      rw [e1] at k1'
      have L1 := k1'.ld rowAd rfl
      have S1 := stT_row rowAd k2' rfl (adC_len (adOf (a.n + 1))) (adC_one _)
      go_wp2_with fail
      refine bodyPost_ret (v := .tuple #[.agg (adC (adOf (a.n + 1))).toArray, .bool true]) ?_ rfl ⟨by rw [HV.out], (hW.setCell (p := ⟨w.heap.size, 2, none⟩) (Nat.le_refl _) _).trans ⟨rfl, rfl, rfl, by simp, fun k hk => setRow_other _ _ _ _ (by omega)⟩⟩
      exact results_cell_tmp_row rowAd rfl _ _ _ _ _ _ rfl rfl (k2'.row _) rfl
    · obtain ⟨st3, st4, st5⟩ := st2 hl
      replace st5 := Lib.hid st5
      have w1 : IntKind.u64.wrap (a.lo + 1) = 0 := by rw [IntKind.wrap_u64, st3]; decide
      have w2 : IntKind.u64.wrap (a.hi + 1) = a.hi + 1 := by rw [IntKind.wrap_u64]; omega
      clear st1 st2 st3 st4 hl g1 g2 g3 g4
      go_enter Tryz.func154, Tryz.ntmps154
      go_wp2_with fail
      refine wx_begin (none) [] (by kernel_rfl) (fun u0 hb0' hz0' => ?_)
      replace hB := gb_trans hB (gbB hb0')
      clear hb0' hz0'
      refine wx_takeZ 0 (some 4) (v := ?_) ?_ ?_; rotate_left; · (intro u hu; have k1 := h1.gn (gb_trans hB hu); have l1 := k1.ld rowAd rfl; have q0 := k1.cell (i := 0) (v := .bool a.s) rfl; clear k1; go_simp; try with_reducible rfl)
      try simp only [Act.put, gzD, gzE, gzF]
      refine wx_pureZ 1 (some 5) (v := ?_) ?_ ?_; rotate_left; · (intro u; go_simp; try with_reducible rfl)
      try simp only [Act.put, gzD, gzE, gzF]
      refine wx_takeZ 2 (some 6) (v := ?_) ?_ ?_; rotate_left; · (intro u hu; have k1 := h1.gn (gb_trans hB hu); have l1 := k1.ld rowAd rfl; have q0 := k1.cell (i := 0) (v := .bool a.s) rfl; clear k1; go_simp; try with_reducible rfl)
      try simp only [Act.put, gzD, gzE, gzF]
      refine wx_oneZ 3 (fun K hK => ?_)
      go_simp
      refine (HW _).out.mono ?_
      rintro e u1 ⟨rfl, hv1⟩
      refine hK _ _ (gbB hv1) ?_
      replace hB := gb_trans hB (gbB hv1)
      clear hK K hv1
      try simp only [Act.put, gzD, gzE, gzF]
      refine wx_pureZ 4 (some 8) (v := ?_) ?_ ?_; rotate_left; · (intro u; go_simp; try with_reducible rfl)
      try simp only [Act.put, gzD, gzE, gzF]
      refine wx_pureZ 5 (some 9) (v := ?_) ?_ ?_; rotate_left; · (intro u; go_simp; try with_reducible rfl)
      try simp only [Act.put, gzD, gzE, gzF]
      refine wx_done (by kernel_rfl) ?_ _
      have hW := (hG.trans ((gb2B hB).mono hG.size))
      have k1 := h1.gn hB
      have k2 := h2.gn hB
      have c2 := k1.cell (i := 2) (v := .int .u64 a.lo) rfl
      have c1 := k1.cell (i := 1) (v := .int .u64 a.hi) rfl
      have f1 := k1.free 1
      have f2 := k1.free 2
      have k1' := (k1.set 2 (.int .u64 0)).set 1 (.int .u64 (a.hi + 1))
      have k2' := (k2.other (a := ⟨w.heap.size, 2, none⟩) (by simp) (.int .u64 0)).other (a := ⟨w.heap.size, 1, none⟩) (by simp) (.int .u64 (a.hi + 1))
      have e1 : ((adC a).set 2 (.int .u64 0)).set 1 (.int .u64 (a.hi + 1)) = adC (adOf (a.n + 1)) := by rw [st5.out]; rfl
      rw [e1] at k1'
      have L1 := k1'.ld rowAd rfl
      have S1 := stT_row rowAd k2' rfl (adC_len (adOf (a.n + 1))) (adC_one _)
      go_wp2_with fail
      refine bodyPost_ret (v := .tuple #[.agg (adC (adOf (a.n + 1))).toArray, .bool true]) ?_ rfl ⟨by rw [HV.out], ((hW.setCell (p := ⟨w.heap.size, 2, none⟩) (Nat.le_refl _) _).setCell (p := ⟨w.heap.size, 1, none⟩) (Nat.le_refl _) _).trans ⟨rfl, rfl, rfl, by simp, fun k hk => setRow_other _ _ _ _ (by omega)⟩⟩
      exact results_cell_tmp_row rowAd rfl _ _ _ _ _ _ rfl rfl (k2'.row _) rfl

theorem results_row {fn : Func} {p : Tmp} {ty : TypeId} {k : Nat} (T : RowT ty k) (h : fn.results = #[.cell p ty]) (tmps : Array Value) (w : World) (g : Nat) (t : TypeId) (cs : List Value)
    (hp : tmps.getD p undef = .pointer (some ⟨g, 0, none⟩)) (hg : Blk w g cs t) (hl : cs.length = k) :
    (results fn tmps).run Tryz.prog w = .ok (.agg cs.toArray) w := by
  obtain ⟨d, hu, hd⟩ := T.row
  have := run_loadVar_mid (P := Tryz.prog) w g 0 ty cs d (hg.range 0 cs [] (by simp)) hu hd (by rw [T.size, hl])
  have hp' : tmps[p]?.getD undef = .pointer (some ⟨g, 0, none⟩) := by simpa using hp
  simp [results, h, hp', asAddr, this, Result.andThen]

theorem widest_math {a b : Ad} {p : Nat} (ha : a.R) (hb : b.R) (hs : a.s = b.s) (hle : a.n ≤ b.n) (hp : IsLog (b.v - a.v + 1) p) : min (zerosA a) p = bigK a.n (b.n + 1) := by
  have hva := ha.1.v_lt
  have hvb := hb.1.v_lt
  have hvs : b.n - a.n = b.v - a.v ∧ a.v ≤ b.v := by unfold Ad.n at *; rw [hs] at *; omega
  have hsz : b.n + 1 - a.n = b.v - a.v + 1 := by omega
  obtain ⟨hp1, hp2⟩ := hp
  have hpl : p ≤ 128 := by
    rcases Nat.lt_or_ge 128 p with h | h
    · have := Nat.pow_lt_pow_right (a := 2) (by decide) h; omega
    · exact h
  have hdv : ∀ k, k ≤ 128 → (2 ^ k ∣ a.n ↔ 2 ^ k ∣ a.v) := fun k hk => by
    unfold Ad.n
    cases a.s
    · rw [s2n_false, Nat.zero_add]
    · rw [s2n_true]; exact (Nat.dvd_add_iff_right (Nat.pow_dvd_pow 2 hk)).symm
  refine isBig_unique ?_ (bigK_is (by omega) (by omega))
  have hz := zerosA_spec ha.1
  have hzd : 2 ^ min (zerosA a) p ∣ a.v := by
    rcases hz with ⟨h1, h2⟩ | ⟨h1, h2, h3⟩
    · rw [h1]; exact Nat.dvd_zero _
    · exact Nat.dvd_trans (Nat.pow_dvd_pow 2 (Nat.min_le_left _ _)) h1
  have hmp := Nat.pow_le_pow_right (show 0 < 2 by decide) (Nat.min_le_right (zerosA a) p)
  refine ⟨(hdv _ (by omega)).2 hzd, by omega, ?_⟩
  rintro ⟨h5, h6⟩
  rcases Nat.lt_or_ge (zerosA a) p with h | h
  · rw [Nat.min_eq_left (Nat.le_of_lt h)] at h5
    rcases hz with ⟨_, h2⟩ | ⟨_, h2, h3⟩
    · omega
    · exact h2 ((hdv _ (by omega)).1 h5)
  · rw [Nat.min_eq_right h] at h6
    omega

set_option maxHeartbeats 4000000 in
theorem widest_any (a b : Ad) (w : World) (ha : a.R) (hb : b.R) (hs : a.s = b.s) (hle : a.n ≤ b.n) (hT : Tz w) :
    Calls Tryz.prog 153 #[adA a, adA b] w (GivesV (pfA (pfOf (a.n, bigK a.n (b.n + 1)))) w) := by
  have HM := fun p => Lib.hid (widest_math (p := p) ha hb hs hle)
  have hl : lenZ a.s ≤ 128 := by rcases lenZ_le a.s with h | h <;> omega
  have hl0 : 0 ≤ lenZ a.s := by rcases lenZ_le a.s with h | h <;> omega
  have ea := Lib.hid (adOf_of ha.1)
  have hle' : a.v ≤ b.v := by unfold Ad.n at hle; rw [hs] at hle; omega
  obtain ⟨h1', h2'⟩ := two_new w (adC a) (adC b) 38 38
  obtain ⟨W0, hW0⟩ : ∃ W0, W0 = ((w.alloc (.cells (adC a).toArray 38)).alloc (.cells (adC b).toArray 38)).alloc (.cells #[.bool false, .int .u64 0, .int .u64 0, .int .i64 0] 40) := ⟨_, rfl⟩
  have h1 : Blk W0 w.heap.size (adC a) 38 := by rw [hW0]; exact h1'.alloc _
  have h2 : Blk W0 (w.heap.size + 1) (adC b) 38 := by rw [hW0]; exact h2'.alloc _
  have h3 : Blk W0 (w.heap.size + 1 + 1) [.bool false, .int .u64 0, .int .u64 0, .int .i64 0] 40 := by
    rw [hW0]
    have := Blk.new ((w.alloc (.cells (adC a).toArray 38)).alloc (.cells (adC b).toArray 38)) [.bool false, .int .u64 0, .int .u64 0, .int .i64 0] 40
    simpa using this
  have hG : Below w.heap.size w W0 := by rw [hW0]; exact (below_two _ _ _).alloc (by simp; omega) _
  have hT0 : Tz W0 := hT.below hG
  have hB := gb_refl W0 none
  replace hT := Lib.hid hT0
  replace ha := Lib.hid ha
  replace hb := Lib.hid hb
  replace hle := Lib.hid hle'
  clear h1' h2' hs hle' hT0
  go_enter Tryz.func153, Tryz.ntmps153
  go_wp2_with fail
  rw [← hW0]
  clear hW0
  refine wx_begin (none) [] (by kernel_rfl) (fun u0 hb0' hz0' => ?_)
  replace hB := gb_trans hB (gbB hb0')
  clear hb0' hz0'
  refine wx_takeZ 0 (some 6) (v := ?_) ?_ ?_; rotate_left; · (intro u hu; have k1 := h1.gn (gb_trans hB hu); have k2 := h2.gn (gb_trans hB hu); have l1 := k1.ld rowAd rfl; have l2 := k2.ld rowAd rfl; have q0 := k1.cell (i := 0) (v := .bool a.s) rfl; clear k1 k2; go_simp; try with_reducible rfl)
  try simp only [Act.put, gzD, gzE, gzF]
  refine wx_takeZ 2 (some 8) (v := ?_) ?_ ?_; rotate_left; · (intro u hu; have k1 := h1.gn (gb_trans hB hu); have k2 := h2.gn (gb_trans hB hu); have l1 := k1.ld rowAd rfl; have l2 := k2.ld rowAd rfl; have q0 := k1.cell (i := 0) (v := .bool a.s) rfl; clear k1 k2; go_simp; try with_reducible rfl)
  try simp only [Act.put, gzD, gzE, gzF]
  refine wx_takeZ 3 (some 9) (v := ?_) ?_ ?_; rotate_left; · (intro u hu; have k1 := h1.gn (gb_trans hB hu); have k2 := h2.gn (gb_trans hB hu); have l1 := k1.ld rowAd rfl; have l2 := k2.ld rowAd rfl; have q0 := k1.cell (i := 0) (v := .bool a.s) rfl; clear k1 k2; go_simp; try with_reducible rfl)
  try simp only [Act.put, gzD, gzE, gzF]
  refine wx_oneZ 1 (fun K hK => ?_)
  go_simp
  refine (zeros_any a _ ha.out.1 (hT.out.below (gb2B hB))).mono ?_
  rintro e u1 ⟨rfl, hv1⟩
  refine hK _ _ hv1.1 ?_
  replace hB := gb_trans hB hv1.1
  clear hK K hv1
  try simp only [Act.put, gzD, gzE, gzF]
  refine wx_oneZ 4 (fun K hK => ?_)
  go_simp
  refine (power_any a b _ ha.out.1 hb.out.1 hle.out).mono ?_
  rintro e u2 ⟨p, hp1, hp2, rfl, hv2⟩
  replace hp2 := Lib.hid hp2
  refine hK _ _ hv2.1 ?_
  replace hB := gb_trans hB hv2.1
  clear hK K hv2
  try simp only [Act.put, gzD, gzE, gzF]
  refine wx_pureZ 5 (some 11) (v := ?_) ?_ ?_; rotate_left; · (intro u; go_simp; try with_reducible rfl)
  try simp only [Act.put, gzD, gzE, gzF]
  refine wx_pureZ 6 (some 5) (v := ?_) ?_ ?_; rotate_left; · (intro u; go_simp; try with_reducible rfl)
  try simp only [Act.put, gzD, gzE, gzF]
  refine wx_done (by kernel_rfl) ?_ _
  skip
  have hHM := (HM p).out hp2.out
  have hz128 : zerosA a ≤ 128 := by
    rcases zerosA_spec ha.out.1 with h | h <;> omega
  go_wp2_with fail
  rw [show min (zerosA a : Int) (p : Int) = ((min (zerosA a) p : Nat) : Int) by omega]
  have hz1 : min (zerosA a) p ≤ 128 := by omega
  generalize min (zerosA a) p = z at *
  have HV := Lib.hid (show pfA (pfOf (a.n, bigK a.n (b.n + 1))) = pfA (a, lenZ a.s - (z : Int)) by
    rw [← hHM]
    show pfA (adOf a.n, lenZ (adOf a.n).s - (z : Int)) = _
    rw [ea.out])
  have hS : IntKind.i64.wrap (lenZ a.s - (z : Int)) = lenZ a.s - (z : Int) := IntWalk.i64_in _ (by omega)
  clear hHM hz1 hp1 hp2 hz128 HM ea hT ha hb hle
  refine wx_begin (none) [7] (by kernel_rfl) (fun u0 hb0' hz0' => ?_)
  replace hB := gb_trans hB (gbB hb0')
  clear hb0' hz0'
  refine wx_takeZ 0 (some 12) (v := ?_) ?_ ?_; rotate_left; · (intro u hu; have k1 := h1.gn (gb_trans hB hu); have k2 := h2.gn (gb_trans hB hu); have l1 := k1.ld rowAd rfl; have l2 := k2.ld rowAd rfl; have q0 := k1.cell (i := 0) (v := .bool a.s) rfl; clear k1 k2; go_simp; try with_reducible rfl)
  try simp only [Act.put, gzD, gzE, gzF]
  refine wx_pureZ 1 (some 13) (v := ?_) ?_ ?_; rotate_left; · (intro u; go_simp; try with_reducible rfl)
  try simp only [Act.put, gzD, gzE, gzF]
  refine wx_takeZ 2 (some 14) (v := ?_) ?_ ?_; rotate_left; · (intro u hu; have k1 := h1.gn (gb_trans hB hu); have k2 := h2.gn (gb_trans hB hu); have l1 := k1.ld rowAd rfl; have l2 := k2.ld rowAd rfl; have q0 := k1.cell (i := 0) (v := .bool a.s) rfl; clear k1 k2; go_simp; try with_reducible rfl)
  try simp only [Act.put, gzD, gzE, gzF]
  refine wx_pureZ 4 (some 16) (v := ?_) ?_ ?_; rotate_left; · (intro u; go_simp; try with_reducible rfl)
  try simp only [Act.put, gzD, gzE, gzF]
  refine wx_oneZ 3 (fun K hK => ?_)
  go_simp
  refine (spanLength_any _ _).mono ?_
  rintro e u3 ⟨rfl, rfl⟩
  refine hK _ _ (gb_refl _ _) ?_
  clear hK K
  try simp only [Act.put, gzD, gzE, gzF]
  refine wx_pureZ 5 (some 17) (v := ?_) ?_ ?_; rotate_left; · (intro u; go_simp; try with_reducible rfl)
  try simp only [Act.put, gzD, gzE, gzF]
  refine wx_pureZ 6 (some 18) (v := ?_) ?_ ?_; rotate_left; · (intro u; go_simp; try with_reducible rfl)
  try simp only [Act.put, gzD, gzE, gzF]
  refine wx_store (i := 7) (by simp only [gzA, gzB, gzC] <;> rfl) (by kernel_rfl) (by rfl) (by kernel_rfl) (fun K hK => ?_)
  go_simp
  have k3 := h3.gn hB
  have S1 := stT_row rowPf k3 rfl (pfC_len (a, lenZ a.s - (z : Int))) (pfC_one _)
  go_simp
  refine hK _ _ ?_
  have k4 := k3.row (pfC (a, lenZ a.s - (z : Int)))
  have hW := below_row (hG.trans ((gb2B hB).mono hG.size)) (show w.heap.size ≤ w.heap.size + 1 + 1 by omega) (pfC (a, lenZ a.s - (z : Int))).toArray
  clear hK K S1 k3
  try simp only [Act.put, gzD, gzE, gzF]
  refine wx_done (by kernel_rfl) ?_ _
  go_wp2_with fail
  refine bodyPost_ret (v := pfA (a, lenZ a.s - (z : Int))) (results_row rowPf rfl _ _ _ _ _ rfl k4 rfl) rfl ⟨by rw [HV.out], hW⟩

def RgR (x : Ad × Ad) : Prop := x.1.R ∧ x.2.R ∧ x.1.s = x.2.s ∧ x.1.n ≤ x.2.n
def iv (x : Ad × Ad) : Pt := ((x.1.n : Int), (x.2.n : Int))
theorem RgR.n_lt {x : Ad × Ad} (h : RgR x) : x.1.n < 2 ^ 129 ∧ x.2.n < 2 ^ 129 := ⟨h.1.1.n_lt, h.2.1.1.n_lt⟩
theorem RgR.s_touch {x y : Ad × Ad} (hx : RgR x) (hy : RgR y) (hs : x.1.n ≤ y.1.n) (ht : y.1.n ≤ x.2.n + 1) : x.1.s = y.1.s := by
  obtain ⟨h1, h2, h3, h4⟩ := hx
  obtain ⟨k1, k2, k3, k4⟩ := hy
  rcases h1.six with ⟨a1, a2, a3⟩ | ⟨a1, a2, a3⟩ <;> rcases k1.six with ⟨b1, b2, b3⟩ | ⟨b1, b2, b3⟩
  · rw [a1, b1]
  · exfalso
    rcases h2.six with ⟨c1, c2, c3⟩ | ⟨c1, c2, c3⟩
    · omega
    · rw [h3, c1] at a1; cases a1
  · omega
  · rw [a1, b1]
theorem cmpN_le (a b : Nat) : decide (cmpN a b ≤ 0) = decide (a ≤ b) := by
  apply decide_eq_decide.2
  unfold cmpN
  repeat' split
  all_goals omega
theorem cmpN_lt (a b : Nat) : decide (cmpN a b < 0) = decide (a < b) := by
  apply decide_eq_decide.2
  unfold cmpN
  repeat' split
  all_goals omega
theorem cmpN_gt (a b : Nat) : decide (0 < cmpN a b) = decide (b < a) := by
  apply decide_eq_decide.2
  unfold cmpN
  repeat' split
  all_goals omega
theorem nextV_of (a : Ad) : ∃ z ok, nextV a = .tuple #[adA z, .bool ok] ∧ z.U ∧ (ok = true → z.n = a.n + 1 ∨ 2 ^ 129 ≤ a.n + 1) ∧ (ok = true → a.n ≠ topN a.s) ∧ (ok = false → a.n = topN a.s) := by
  unfold nextV
  by_cases h : a.n = topN a.s
  · rw [if_pos h]
    exact ⟨⟨false, 0, 0⟩, false, rfl, ⟨⟨by decide, by decide⟩, ⟨by decide, by decide⟩⟩, (fun e => by cases e), (fun e => by cases e), fun _ => h⟩
  · rw [if_neg h]
    refine ⟨adOf (a.n + 1), true, rfl, adOf_U _, fun _ => ?_, (fun _ => h), fun e => by cases e⟩
    rcases Nat.lt_or_ge (a.n + 1) (2 ^ 129) with g | g
    · exact .inl (adOf_n g)
    · exact .inr g

set_option maxHeartbeats 2000000 in
theorem touches_any (x y : Ad × Ad) (w : World) (hx : RgR x) (hy : RgR y) (hs : x.1.n ≤ y.1.n) :
    Calls Tryz.prog 151 #[rgA x, rgA y] w (GivesV (.bool (decide (y.1.n ≤ x.2.n + 1))) w) := by
  have hst := hx.s_touch hy hs
  have HN := fun w' => Lib.hid (nextA_any x.2 w' hx.2.1)
  have hle := hx.2.1.le_top
  have htl := topN_lt x.2.s
  have hyt := hy.1.le_top
  have hxs := hx.2.2.1
  obtain ⟨z, ok, hz, hzU, hz1, hz2, hz3⟩ := nextV_of x.2
  have HC := fun w' => Lib.hid (spanCmp_d y.1 z w' hy.1.1 hzU)
  obtain ⟨h1, h2⟩ := two_new w (rgC x) (rgC y) 53 53
  have hG : Gd w ((w.alloc (.cells (rgC x).toArray 53)).alloc (.cells (rgC y).toArray 53)) := ((Gd.refl w).alloc _).alloc _
  have q0 := h1.cell (i := 0) (v := .bool x.1.s) rfl
  have q1 := h2.cell (i := 0) (v := .bool y.1.s) rfl
  by_cases he : x.1.s = y.1.s
  · have b0 : (x.1.s == y.1.s) = true := by simp [he]
    have l1 := h1.ldAt rowAd 3 (adC x.2) [] rfl rfl
    have hV : Hid (ok = false → decide (y.1.n ≤ x.2.n + 1) = true) := Lib.hid fun h => decide_eq_true (by
      have := hz3 h
      rw [he] at hxs
      rw [← hxs] at this
      omega)
    have hV2 : Hid (ok = true → decide (cmpN y.1.n z.n ≤ 0) = decide (y.1.n ≤ x.2.n + 1)) := Lib.hid fun h => by
      rw [cmpN_le]
      rcases hz1 h with g | g
      · rw [g]
      · exfalso; have := hz2 h; omega
    replace hz := Lib.hid hz
    replace h2 := Lib.hid h2
    clear hst hle htl hyt hxs hz1 hz2 hz3 hx hy hs he h1
    have S1 := fun w' => stT_new rowAd (te := 38) w' w'.heap.size rfl [.bool false, .int .u64 0, .int .u64 0] (adC z) rfl rfl (adC_one z)
    go_enter Tryz.func151, Tryz.ntmps151
    go_wp2_with fail
    refine (HN _).out.mono ?_
    rintro e w1 ⟨rfl, hb1⟩
    rw [hz.out]
    have k2 := h2.out.below hb1
    replace hG := hG.below.trans (hb1.mono hG.below.size)
    cases ok
    · replace hV := Lib.hid (hV.out rfl)
      clear hV2
      go_wp2_with fail
      go_ret
      exact ⟨by rw [hV.out]; rfl, hG.alloc hG.size _⟩
    · replace hV2 := Lib.hid (hV2.out rfl)
      clear hV
      have l2 := (k2.alloc (.cells (adC z).toArray 38)).ldAt rowAd 0 (adC y.1) (adC y.2) rfl rfl
      have l3 := (Blk.new w1 (adC z) 38).ld rowAd rfl
      go_wp2_with fail
      refine (HC _).out.mono ?_
      rintro e w2 ⟨rfl, hb2⟩
      go_wp2_with fail
      go_ret
      exact ⟨by rw [← hV2.out]; rfl, (hG.alloc hG.size _).trans (hb2.below.mono (hG.alloc hG.size _).size)⟩
  · have b0 : (x.1.s == y.1.s) = false := by simp [he]
    have hV := Lib.hid (show decide (y.1.n ≤ x.2.n + 1) = false from decide_eq_false fun h => he (hst h))
    clear hst hle htl hyt hxs hz1 hz2 hz3 hx hy hs he
    go_enter Tryz.func151, Tryz.ntmps151
    go_wp2_with fail
    go_ret
    exact ⟨by rw [hV.out]; rfl, hG.below⟩

def joinA (J : List (Ad × Ad)) (x : Ad × Ad) : List (Ad × Ad) := match J with
  | [] => [x]
  | y :: r => if y.2.n + 1 < x.1.n then x :: y :: r else (y.1, if y.2.n < x.2.n then x.2 else y.2) :: r
theorem map_joinA (J : List (Ad × Ad)) (x : Ad × Ad) : (joinA J x).map iv = joinS (J.map iv) (iv x) := by
  cases J with
  | nil => rfl
  | cons y r =>
    unfold joinA joinS
    simp only [List.map_cons]
    by_cases h : y.2.n + 1 < x.1.n
    · rw [if_pos h, if_pos (show (iv y).2 + 1 < (iv x).1 by show (y.2.n : Int) + 1 < (x.1.n : Int); omega)]
      rfl
    · rw [if_neg h, if_neg (show ¬ (iv y).2 + 1 < (iv x).1 by show ¬ (y.2.n : Int) + 1 < (x.1.n : Int); omega)]
      rw [List.map_cons]
      congr 1
      apply Prod.ext
      · rfl
      · show (((if y.2.n < x.2.n then x.2 else y.2).n : Nat) : Int) = max (y.2.n : Int) (x.2.n : Int)
        by_cases g : y.2.n < x.2.n
        · rw [if_pos g]; omega
        · rw [if_neg g]; omega
def JA (J P : List (Ad × Ad)) : Prop := JoinI (J.map iv) (P.map iv) (2 ^ 129) ∧ ∀ y ∈ J, RgR y
theorem JA.nil : JA [] [] := ⟨⟨trivial, fun k => Iff.rfl, fun q r e => by cases e⟩, fun y hy => by cases hy⟩
theorem JA.first {P : List (Ad × Ad)} {y x : Ad × Ad} {r : List (Ad × Ad)} (h : JA (y :: r) P) (hs : ∀ z ∈ P, z.1.n ≤ x.1.n) : y.1.n ≤ x.1.n := by
  obtain ⟨z, hz, hyz⟩ := h.1.2.2 (iv y) (r.map iv) rfl
  obtain ⟨z, hz', rfl⟩ := List.mem_map.1 hz
  have := hs z hz'
  have h1 : (y.1.n : Int) ≤ (z.1.n : Int) := hyz
  omega
theorem JA.step {J P : List (Ad × Ad)} {x : Ad × Ad} (h : JA J P) (hx : RgR x) (hs : ∀ z ∈ P, z.1.n ≤ x.1.n) : JA (joinA J x) (P ++ [x]) := by
  have hlt := hx.n_lt
  refine ⟨?_, ?_⟩
  · rw [map_joinA, List.map_append, List.map_cons, List.map_nil]
    refine joinS_keeps h.1 ⟨?_, ?_⟩ (fun z hz => ?_)
    · show (x.1.n : Int) ≤ (x.2.n : Int)
      have := hx.2.2.2
      omega
    · show (x.2.n : Int) < 2 ^ 129
      omega
    · obtain ⟨z, hz', rfl⟩ := List.mem_map.1 hz
      have := hs z hz'
      show (z.1.n : Int) ≤ (x.1.n : Int)
      omega
  · intro y hy
    cases hJ : J with
    | nil =>
      subst hJ
      rcases List.mem_singleton.1 hy with rfl
      exact hx
    | cons q r =>
      subst hJ
      have hq := h.2 q List.mem_cons_self
      have hqx : q.1.n ≤ x.1.n := JA.first h hs
      unfold joinA at hy
      by_cases hlt : q.2.n + 1 < x.1.n
      · simp only [if_pos hlt] at hy
        rcases List.mem_cons.1 hy with rfl | hy
        · exact hx
        · exact h.2 y hy
      · simp only [if_neg hlt] at hy
        rcases List.mem_cons.1 hy with rfl | hy
        · by_cases g : q.2.n < x.2.n
          · simp only [if_pos g]
            refine ⟨hq.1, hx.2.1, ?_, by have := hq.2.2.2; show q.1.n ≤ x.2.n; omega⟩
            show q.1.s = x.2.s
            rw [hq.s_touch hx hqx (by omega), hx.2.2.1]
          · simp only [if_neg g]; exact hq
        · exact h.2 y (List.mem_cons_of_mem _ hy)

def Joined (ys xs : List (Ad × Ad)) : Prop := CanR (2 ^ 129) (ys.reverse.map iv) ∧ (∀ k, InP (ys.map iv) k ↔ InP (xs.map iv) k) ∧ ∀ y ∈ ys, RgR y
theorem inP_perm {l m : List Pt} (h : l.Perm m) (k : Int) : InP l k ↔ InP m k := by
  unfold InP
  constructor
  · rintro ⟨p, hp, x⟩; exact ⟨p, h.mem_iff.1 hp, x⟩
  · rintro ⟨p, hp, x⟩; exact ⟨p, h.mem_iff.2 hp, x⟩
theorem JA.done {J P xs : List (Ad × Ad)} (h : JA J P) (hp : P.Perm xs) : Joined J.reverse xs := by
  refine ⟨by rw [List.reverse_reverse]; exact h.1.1, fun k => ?_, fun y hy => h.2 y (List.mem_reverse.1 hy)⟩
  rw [List.map_reverse, inP_reverse, h.1.2.1 k]
  exact inP_perm (hp.map iv) k
theorem iv_inj {x y : Ad × Ad} (hx : RgR x) (hy : RgR y) (h : iv x = iv y) : x = y := by
  have h1 : (x.1.n : Int) = (y.1.n : Int) := congrArg Prod.fst h
  have h2 : (x.2.n : Int) = (y.2.n : Int) := congrArg Prod.snd h
  exact Prod.ext (Ad.ext' hx.1.1 hy.1.1 (by omega)) (Ad.ext' hx.2.1.1 hy.2.1.1 (by omega))
theorem map_iv_inj : ∀ (xs ys : List (Ad × Ad)), (∀ x ∈ xs, RgR x) → (∀ y ∈ ys, RgR y) → xs.map iv = ys.map iv → xs = ys
  | [], [], _, _, _ => rfl
  | [], y :: r, _, _, h => by cases h
  | x :: r, [], _, _, h => by cases h
  | x :: r, y :: t, hx, hy, h => by
    injection h with h1 h2
    rw [iv_inj (hx x List.mem_cons_self) (hy y List.mem_cons_self) h1, map_iv_inj r t (fun z hz => hx z (List.mem_cons_of_mem _ hz)) (fun z hz => hy z (List.mem_cons_of_mem _ hz)) h2]
theorem Joined.unique {ys zs xs xs' : List (Ad × Ad)} (h : Joined ys xs) (h' : Joined zs xs') (he : ∀ k, InP (xs.map iv) k ↔ InP (xs'.map iv) k) : ys = zs := by
  refine map_iv_inj _ _ h.2.2 h'.2.2 ?_
  have := canR_unique _ _ _ _ h.1 h'.1 (fun k => by rw [List.map_reverse, inP_reverse, List.map_reverse, inP_reverse, h.2.1 k, h'.2.1 k, he k])
  rw [List.map_reverse, List.map_reverse] at this
  exact List.reverse_inj.1 this

theorem take_leA {l : List (Ad × Ad)} (hp : l.Pairwise (fun x y => x.1.n ≤ y.1.n)) {k : Nat} {p : Ad × Ad} (hk : l[k]? = some p) : ∀ z ∈ l.take k, z.1.n ≤ p.1.n := by
  intro z hz
  obtain ⟨i, hi, rfl⟩ := List.mem_take_iff_getElem.1 hz
  obtain ⟨hk1, rfl⟩ := List.getElem?_eq_some_iff.1 hk
  exact List.pairwise_iff_getElem.1 hp i k (by omega) hk1 (by omega)

def setL : List Value → Nat → List Value → List Value
  | l, _, [] => l
  | l, o, v :: r => setL (l.set o v) (o + 1) r
theorem setL_mid : ∀ (cs old a b : List Value), old.length = cs.length → setL (a ++ (old ++ b)) a.length cs = a ++ (cs ++ b)
  | [], [], a, b, _ => rfl
  | [], _ :: _, _, _, h => by simp at h
  | _ :: _, [], _, _, h => by simp at h
  | c :: cs, o :: old, a, b, h => by
    unfold setL
    rw [List.set_append_right _ _ (Nat.le_refl _), Nat.sub_self, List.cons_append, List.set_cons_zero]
    have := setL_mid cs old (a ++ [c]) b (by simpa using h)
    simpa using this
theorem own_setL {B : Nat} {e : TypeId} {size n cap g : Nat} : ∀ (vs : List Value) (o : Nat) (w : World) (xs : List Value), w.ownsRow B e size (.slice (some ⟨g, 0, none⟩) n cap) n xs → (w.setCells g o vs).ownsRow B e size (.slice (some ⟨g, 0, none⟩) n cap) n (setL xs o vs)
  | [], _, _, _, h => h
  | v :: r, o, w, xs, h => by
    unfold World.setCells setL
    exact own_setL r (o + 1) _ _ (own_setV h o v)
section
variable {α : Type} {E : Enc α} {t : TypeId}
theorem OwnE.setLast {w : World} {B g n cap : Nat} {xs : List α} {x x' : α} (h : OwnE E t B w (.slice (some ⟨g, 0, none⟩) n cap) (xs ++ [x])) (hn : n = (xs ++ [x]).length) (a old cs b : List Value) (h1 : E.enc x = a ++ (old ++ b)) (h2 : E.enc x' = a ++ (cs ++ b)) (hl : old.length = cs.length) :
    OwnE E t B (w.setCells g (xs.length * E.k + a.length) cs) (.slice (some ⟨g, 0, none⟩) n cap) (xs ++ [x']) := by
  unfold OwnE at *
  have e : (xs ++ [x']).length = (xs ++ [x]).length := by simp
  rw [e, ← hn]
  rw [← hn] at h
  have := own_setL cs (xs.length * E.k + a.length) w _ h
  rw [E.cells_app, E.cells_single, h1] at this
  rw [E.cells_app, E.cells_single, h2]
  have e2 := setL_mid cs old (E.cells xs ++ a) b hl
  rw [List.length_append, E.cells_len, List.append_assoc, List.append_assoc] at e2
  rw [e2] at this
  exact this
theorem OwnE.ld {k : Nat} (T : RowT t k) (hk : E.k = k) {w : World} {B g n cap : Nat} {xs : List α} (h : OwnE E t B w (.slice (some ⟨g, 0, none⟩) n cap) xs) {j : Nat} {x : α} (hx : xs[j]? = some x) :
    (ldT t (.pointer (some ⟨g, j * k, none⟩))).run Tryz.prog w = .ok (.value (.agg (E.enc x).toArray)) w := by
  have h0 := h
  subst hk
  refine ldT_run T (E.len x) (fun i v hv => ?_)
  have := World.ownsRow.cells h0 (g := g) rfl _ _ (E.cells_get xs j x hx i v hv)
  rwa [Addr.add_lit, Nat.zero_add] at this
theorem OwnE.ldAt {t' : TypeId} {k m : Nat} (T : RowT t' m) (hk : E.k = k) {w : World} {B g n cap : Nat} {xs : List α} (h : OwnE E t B w (.slice (some ⟨g, 0, none⟩) n cap) xs) {j : Nat} {x : α} (hx : xs[j]? = some x) (o : Nat) (ds rest : List Value) (hl : ds.length = m) (hd : (E.enc x).drop o = ds ++ rest) :
    (ldT t' (.pointer (some ⟨g, j * k + o, none⟩))).run Tryz.prog w = .ok (.value (.agg ds.toArray)) w := by
  have h0 := h
  subst hk
  refine ldT_run T hl (fun i v hv => ?_)
  have hi := (List.getElem?_eq_some_iff.1 hv).1
  have h1 : ((E.enc x).drop o)[i]? = some v := by rw [hd, List.getElem?_append_left hi]; exact hv
  rw [List.getElem?_drop] at h1
  have := World.ownsRow.cells h0 (g := g) rfl _ _ (E.cells_get xs j x hx (o + i) v h1)
  rw [Addr.add_lit, Nat.zero_add, ← Nat.add_assoc] at this
  exact this
theorem OwnE.cell {w : World} {B g n cap : Nat} {xs : List α} (h : OwnE E t B w (.slice (some ⟨g, 0, none⟩) n cap) xs) {j : Nat} {x : α} (hx : xs[j]? = some x) {i : Nat} {v : Value} (hv : (E.enc x)[i]? = some v) : w.cell? ⟨g, j * E.k + i, none⟩ = some v := by
  have := World.ownsRow.cells h (g := g) rfl _ _ (E.cells_get xs j x hx i v hv)
  rwa [Addr.add_lit, Nat.zero_add] at this
theorem stT_own {t' : TypeId} {m : Nat} (T : RowT t' m) {w : World} {B g n cap : Nat} {xs : List α} {x : α} (h : OwnE E t B w (.slice (some ⟨g, 0, none⟩) n cap) xs) {j : Nat} (hx : xs[j]? = some x) (o : Nat) (cs : List Value) (ho : o + m ≤ E.k) (hl : cs.length = m) (h1 : ∀ v ∈ cs, v.oneCell' = true) :
    (stT t' (.pointer (some ⟨g, j * E.k + o, none⟩)) (.agg cs.toArray)).run Tryz.prog w = .ok .skip (w.setCells g (j * E.k + o) cs) := by
  unfold stT
  have hf : ∀ q, w.frozen? ⟨g, q, none⟩ = false := by
    have h0 := h
    rcases h0.2 with ⟨hv, _⟩ | ⟨g', cap', cur, hv, hg, hh, _⟩
    · cases hv
    · cases hv; exact fun q => frozen_of_row w g q _ _ hh
  have ht : w.there g (j * E.k + o) cs.toArray.size := by
    intro i hi
    have hi' : i < m := by rw [← hl]; simpa using hi
    have hb : o + i < (E.enc x).length := by rw [E.len]; omega
    refine ⟨?_, hf _⟩
    rw [show j * E.k + o + i = j * E.k + (o + i) by omega, h.cell hx (List.getElem?_eq_getElem hb)]
    rfl
  have hs := run_storeAt_mid (P := Tryz.prog) w g (j * E.k + o) t' cs.toArray ht (by rw [T.size]; simp [hl]) (all_oneCell_toArray h1)
  simp only [Sem.run_bind, hs, Result.andThen_ok, Sem.run_pure]
theorem below_setC {B b : Nat} {a : World} (hb : B ≤ b) : ∀ (vs : List Value) (o : Nat) (w : World), Below B a w → Below B a (w.setCells b o vs)
  | [], _, _, h => h
  | v :: r, o, w, h => by
    unfold World.setCells
    exact below_setC hb r (o + 1) _ (h.setCell (p := ⟨b, o, none⟩) hb v)
theorem last_get (xs : List α) (x : α) : (xs ++ [x])[xs.length]? = some x := by simp
end
end Go.Proofs.YtmgdkefoehlamaaGreatDoor
