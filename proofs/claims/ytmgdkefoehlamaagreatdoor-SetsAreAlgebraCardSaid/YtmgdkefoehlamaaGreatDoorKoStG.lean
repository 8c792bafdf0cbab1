/- Sets: clones and sorts of ranges and spans. -/
import Derived.Test.YtmgdkefoehlamaaGreatDoorKoGzA
import Derived.Test.YtmgdkefoehlamaaGreatDoorKoRuD
import Derived.Test.YtmgdkefoehlamaaGreatDoorKoTxtJ
import Derived.Test.YtmgdkefoehlamaaGreatDoorKoShelf
import Derived.Shelf.Spec.TrailingZeros
import Derived.Shelf.Spec.BitsCarry
import Derived.Shelf.SlSortCmp.WholeK
import Derived.Shelf.SlSortCmp.NoneTotal
import Derived.Lib.Small
import Derived.Great.BuildSlice
set_option linter.unusedVariables false
set_option linter.unusedSimpArgs false
set_option maxRecDepth 100000
namespace Go.Proofs.YtmgdkefoehlamaaGreatDoor
open Go.RowKit

def GivesD (v : Value) (w : World) (e : Ending) (w' : World) : Prop := e = .returned v ∧ Gd w w'
theorem GivesD.v {v : Value} {w : World} {e : Ending} {w' : World} (h : GivesD v w e w') : GivesV v w e w' := ⟨h.1, h.2.below⟩

theorem orI_blk (l : List Int) (p cap : Nat) (w : World) (t : TypeId) (h : Blk w p (l.map (Value.int .i64)) t) (hl : l.length ≤ 100) :
    Calls Tryz.prog 140 #[.slice (some ⟨p, 0, none⟩) l.length cap] w fun e w' => e = .returned (.int .i64 (firstZ l)) ∧ w = w' :=
  orI_any l p cap w (fun i hi => h.cell (by simp [List.getElem?_eq_getElem hi])) hl

set_option linter.unusedSimpArgs false in
set_option maxHeartbeats 1000000 in
theorem spanCmp_d (a b : Ad) (w : World) (ha : a.U) (hb : b.U) :
    Calls Tryz.prog 69 #[adA a, adA b] w (GivesD (.int .i64 (cmpN a.n b.n)) w) := by
  have HR0 := cmpW_cmpN ha hb
  obtain ⟨⟨h1, h2⟩, ⟨h3, h4⟩⟩ := ha
  obtain ⟨⟨k1, k2⟩, ⟨k3, k4⟩⟩ := hb
  generalize cmpN a.n b.n = c at HR0 ⊢
  obtain ⟨s, hi, lo⟩ := a
  obtain ⟨t, h, l⟩ := b
  replace HR0 : cmpW (num hi lo) s (num h l) t = c := HR0
  show Calls Tryz.prog 69 #[.agg #[.bool s, .int .u64 hi, .int .u64 lo], .agg #[.bool t, .int .u64 h, .int .u64 l]] w (GivesD (.int .i64 c) w)
  simp only at h1 h2 h3 h4 k1 k2 k3 k4
  have HF : Hid (∀ u, ((w.alloc (.cells #[.bool s, .int .u64 hi, .int .u64 lo] 38)).alloc (.cells #[.bool t, .int .u64 h, .int .u64 l] 38)).grownBy u none → _) :=
    Lib.hid fun u hu => And.intro ((blk2 w [.bool s, .int .u64 hi, .int .u64 lo] [.bool t, .int .u64 h, .int .u64 l] _ _).1.gn hu).three ((blk2 w [.bool s, .int .u64 hi, .int .u64 lo] [.bool t, .int .u64 h, .int .u64 l] _ _).2.gn hu).three
  have hG : Gd w ((w.alloc (.cells #[.bool s, .int .u64 hi, .int .u64 lo] 38)).alloc (.cells #[.bool t, .int .u64 h, .int .u64 l] 38)) := ((Gd.refl w).alloc _).alloc _
  have hB := Gd.refl ((w.alloc (.cells #[.bool s, .int .u64 hi, .int .u64 lo] 38)).alloc (.cells #[.bool t, .int .u64 h, .int .u64 l] 38))
  obtain ⟨⟨c0, c1, c2, _⟩, ⟨d0, d1, d2, _⟩⟩ := HF.out _ hB.1
  by_cases hst : s = t
  · subst hst
    have HR := Lib.hid ((cmpW_halves hi lo h l s h1 h2 h3 h4 k1 k2 k3 k4).trans HR0)
    clear HR0
    go_enter Tryz.func69, Tryz.ntmps69
    go_wp2_with fail
    refine wd_begin [] (by kernel_rfl) (fun u0 hb0' hz0' => ?_)
    replace hB := hB.trans hb0'
    clear hb0' hz0'
    refine wd_pureZ 0 (some 12) (v := ?_) ?_ ?_; rotate_left; · (intro u; go_simp; try with_reducible rfl)
    try simp only [Act.put, gzD, gzE, gzF]
    refine wd_takeZ 1 (some 13) (v := ?_) ?_ ?_; rotate_left; · (intro u hu; obtain ⟨⟨c0, c1, c2, _⟩, ⟨d0, d1, d2, _⟩⟩ := HF.out u (hB.trans hu).1; go_simp; try with_reducible rfl)
    try simp only [Act.put, gzD, gzE, gzF]
    refine wd_pureZ 2 (some 14) (v := ?_) ?_ ?_; rotate_left; · (intro u; go_simp; try with_reducible rfl)
    try simp only [Act.put, gzD, gzE, gzF]
    refine wd_takeZ 3 (some 15) (v := ?_) ?_ ?_; rotate_left; · (intro u hu; obtain ⟨⟨c0, c1, c2, _⟩, ⟨d0, d1, d2, _⟩⟩ := HF.out u (hB.trans hu).1; go_simp; try with_reducible rfl)
    try simp only [Act.put, gzD, gzE, gzF]
    refine wd_pureZ 5 (some 17) (v := ?_) ?_ ?_; rotate_left; · (intro u; go_simp; try with_reducible rfl)
    try simp only [Act.put, gzD, gzE, gzF]
    refine wd_takeZ 6 (some 18) (v := ?_) ?_ ?_; rotate_left; · (intro u hu; obtain ⟨⟨c0, c1, c2, _⟩, ⟨d0, d1, d2, _⟩⟩ := HF.out u (hB.trans hu).1; go_simp; try with_reducible rfl)
    try simp only [Act.put, gzD, gzE, gzF]
    refine wd_pureZ 7 (some 19) (v := ?_) ?_ ?_; rotate_left; · (intro u; go_simp; try with_reducible rfl)
    try simp only [Act.put, gzD, gzE, gzF]
    refine wd_takeZ 8 (some 20) (v := ?_) ?_ ?_; rotate_left; · (intro u hu; obtain ⟨⟨c0, c1, c2, _⟩, ⟨d0, d1, d2, _⟩⟩ := HF.out u (hB.trans hu).1; go_simp; try with_reducible rfl)
    try simp only [Act.put, gzD, gzE, gzF]
    refine wd_oneZ 4 (fun K hK => ?_)
    go_simp
    refine (cmpU_any _ _ _).mono ?_
    rintro e w' ⟨rfl, rfl⟩
    refine hK _ _ (Gd.refl _) ?_
    clear hK K
    try simp only [Act.put, gzD, gzE, gzF]
    refine wd_oneZ 9 (fun K hK => ?_)
    go_simp
    refine (cmpU_any _ _ _).mono ?_
    rintro e w' ⟨rfl, rfl⟩
    refine hK _ _ (Gd.refl _) ?_
    clear hK K
    try simp only [Act.put, gzD, gzE, gzF]
    refine wd_oneZ 10 (fun K hK => ?_)
    go_simp
    refine hK _ _ ((Gd.refl _).alloc _) ?_
    clear hK K
    refine wd_new (cs := [cmpZ hi h, cmpZ lo l].map (Value.int .i64)) (fun u1 hd1 hq1 hz1 => ?_)
    replace hB := hB.trans hd1
    try simp only [Act.put, gzD, gzE, gzF]
    refine wd_oneZ 11 (fun K hK => ?_)
    go_simp
    refine (orI_blk [cmpZ hi h, cmpZ lo l] _ _ _ _ hq1 (by simp)).mono ?_
    rintro e w' ⟨rfl, rfl⟩
    refine hK _ _ (Gd.refl _) ?_
    clear hK K
    try simp only [Act.put, gzD, gzE, gzF]
    refine wd_pureZ 12 (some 4) (v := ?_) ?_ ?_; rotate_left; · (intro u; go_simp; try with_reducible rfl)
    try simp only [Act.put, gzD, gzE, gzF]
    refine wd_done (by kernel_rfl) ?_ _
    go_wp2_with fail
    go_ret
    exact ⟨ret_i64 HR.out, hG.trans hB⟩
  · have HR := Lib.hid (HR0.symm.trans (show cmpW (num hi lo) s (num h l) t = if t then -1 else 1 from if_neg hst))
    have b0 : (s == t) = false := by simp [hst]
    clear hst HR0
    cases t
    · go_enter Tryz.func69, Tryz.ntmps69
      go_wp2_with fail
      go_ret
      exact ⟨ret_i64 HR.out.symm, hG⟩
    · go_enter Tryz.func69, Tryz.ntmps69
      go_wp2_with fail
      go_ret
      exact ⟨ret_i64 HR.out.symm, hG⟩

theorem two_new (w : World) (cs ds : List Value) (t te : TypeId) : Blk ((w.alloc (.cells cs.toArray t)).alloc (.cells ds.toArray te)) w.heap.size cs t ∧ Blk ((w.alloc (.cells cs.toArray t)).alloc (.cells ds.toArray te)) (w.heap.size + 1) ds te := blk2 w cs ds t te

set_option maxHeartbeats 1000000 in
theorem join1_d (x y : Ad × Ad) (w : World) (hx : x.1.U) (hy : y.1.U) :
    Calls Tryz.prog 150 #[rgA x, rgA y] w (GivesD (.int .i64 (cmpN x.1.n y.1.n)) w) := by
  have HC := fun w' => Lib.hid (spanCmp_d x.1 y.1 w' hx hy)
  obtain ⟨h1, h2⟩ := two_new w (rgC x) (rgC y) 53 53
  have l1 := h1.ldAt rowAd 0 (adC x.1) (adC x.2) rfl rfl
  have l2 := h2.ldAt rowAd 0 (adC y.1) (adC y.2) rfl rfl
  have hG : Gd w ((w.alloc (.cells (rgC x).toArray 53)).alloc (.cells (rgC y).toArray 53)) := ((Gd.refl w).alloc _).alloc _
  clear h1 h2 hx hy
  go_enter Tryz.func150, Tryz.ntmps150
  go_wp2_with fail
  refine (HC _).out.mono ?_
  rintro e w1 ⟨rfl, hg1⟩
  go_wp2_with fail
  go_ret
  exact ⟨rfl, hG.trans hg1⟩

theorem cmpN_step (A B j : Nat) (hq : A / 2 ^ (16 * (j + 1)) = B / 2 ^ (16 * (j + 1))) :
    (dig A j = dig B j → A / 2 ^ (16 * j) = B / 2 ^ (16 * j)) ∧ (dig A j ≠ dig B j → sgn ((dig A j : Int) - dig B j) = cmpN A B) := by
  obtain ⟨p1, p2, p3⟩ := top_step A B j hq
  refine ⟨p1, fun h => ?_⟩
  unfold cmpN sgn
  rcases Nat.lt_or_ge (dig A j) (dig B j) with g | g
  · rw [if_pos (by omega), if_pos (p2 g)]
  · have g' : dig B j < dig A j := by omega
    have := p3 g'
    rw [if_neg (by omega), if_pos (by omega), if_neg (by omega), if_neg (by omega)]
theorem digN_get (W j : Nat) (hj : j < 9) : (digN W)[j]? = some (.int .i64 (dig W j)) := by
  match j, hj with
  | 0, _ => rfl
  | 1, _ => rfl
  | 2, _ => rfl
  | 3, _ => rfl
  | 4, _ => rfl
  | 5, _ => rfl
  | 6, _ => rfl
  | 7, _ => rfl
  | 8, _ => rfl
set_option maxHeartbeats 2000000 in
theorem wcmp_d (A B : Nat) (w : World) (hA : A < 2 ^ 144) (hB : B < 2 ^ 144) :
    Calls Tryz.prog 89 #[wA A, wA B] w (GivesD (.int .i64 (cmpN A B)) w) := by
  obtain ⟨hl1, hl2⟩ := two_new w (digN A) (digN B) 145 145
  have hG : Gd w ((w.alloc (.cells (digN A).toArray 145)).alloc (.cells (digN B).toArray 145)) := ((Gd.refl w).alloc _).alloc _
  go_enter Tryz.func89, Tryz.ntmps89
  go_wp2_with fail
  go_loopw [5] (fun c wr => ∃ m : Int, -1 ≤ m ∧ m ≤ 8 ∧ c = .int .i64 m ∧ A / 2 ^ (16 * (m + 1).toNat) = B / 2 ^ (16 * (m + 1).toNat) ∧ Blk wr w.heap.size (digN A) 145 ∧ Blk wr (w.heap.size + 1) (digN B) 145 ∧ Gd w wr) (fun c _ => (intOf c + 1).toNat)
  case atStart =>
    refine ⟨8, by omega, by omega, rfl, ?_, hl1, hl2, hG⟩
    show A / 2 ^ 144 = B / 2 ^ 144
    rw [Nat.div_eq_of_lt hA, Nat.div_eq_of_lt hB]
  case round =>
    clear hl1 hl2 hG
    obtain ⟨m, hm1, hm2, rfl, hq, hx, hy, hb⟩ := hrel
    by_cases h0 : m < 0
    · have H := Lib.hid (show cmpN A B = 0 by
        obtain rfl : m = -1 := by omega
        have hq' : A / 2 ^ 0 = B / 2 ^ 0 := hq
        simp at hq'
        unfold cmpN; rw [if_neg (by omega), if_pos hq'])
      clear hq
      go_wp2_with fail
      go_ret
      exact ⟨ret_i64 H.out.symm, hb⟩
    · obtain ⟨j, rfl⟩ := Int.eq_ofNat_of_zero_le (show 0 ≤ m by omega)
      rw [show ((j : Int) + 1).toNat = j + 1 by omega] at hq
      obtain ⟨e1, e2⟩ := cmpN_step A B j hq
      have d1 := digN_get A j (by omega)
      have d2 := digN_get B j (by omega)
      have l1 := dig_lt A j
      have l2 := dig_lt B j
      have hj0 : (0 : Int) ≤ j := by omega
      have hj9 : (j : Int) < 9 := by omega
      have hB := Gd.refl wr
      by_cases hXY : dig A j = dig B j
      · have E1 := Lib.hid (e1 hXY)
        have c0 : (((dig A j : Nat) : Int) != ((dig B j : Nat) : Int)) = false := by simp [hXY]
        clear hq e1 e2 hXY l1 l2
        generalize ((dig A j : Nat) : Int) = X at *
        generalize ((dig B j : Nat) : Int) = Y at *
        go_wp2_with fail
        refine wd_begin [] (by kernel_rfl) (fun u0 hb0' hz0' => ?_)
        replace hB := hB.trans hb0'
        clear hb0' hz0'
        refine wd_pureZ 0 (some 10) (v := ?_) ?_ ?_; rotate_left; · (intro u; go_simp; try with_reducible rfl)
        try simp only [Act.put, gzD, gzE, gzF]
        refine wd_pureZ 1 (some 11) (v := ?_) ?_ ?_; rotate_left; · (intro u; go_simp; try with_reducible rfl)
        try simp only [Act.put, gzD, gzE, gzF]
        refine wd_takeZ 2 (some 12) (v := ?_) ?_ ?_; rotate_left; · (intro u hu; have x0 := (hx.below (hB.trans hu).below).cell d1; have y0 := (hy.below (hB.trans hu).below).cell d2; go_simp; try with_reducible rfl)
        try simp only [Act.put, gzD, gzE, gzF]
        refine wd_pureZ 3 (some 13) (v := ?_) ?_ ?_; rotate_left; · (intro u; go_simp; try with_reducible rfl)
        try simp only [Act.put, gzD, gzE, gzF]
        refine wd_pureZ 4 (some 14) (v := ?_) ?_ ?_; rotate_left; · (intro u; go_simp; try with_reducible rfl)
        try simp only [Act.put, gzD, gzE, gzF]
        refine wd_takeZ 5 (some 15) (v := ?_) ?_ ?_; rotate_left; · (intro u hu; have x0 := (hx.below (hB.trans hu).below).cell d1; have y0 := (hy.below (hB.trans hu).below).cell d2; go_simp; try with_reducible rfl)
        try simp only [Act.put, gzD, gzE, gzF]
        refine wd_pureZ 6 (some 16) (v := ?_) ?_ ?_; rotate_left; · (intro u; go_simp; try with_reducible rfl)
        try simp only [Act.put, gzD, gzE, gzF]
        refine wd_done (by kernel_rfl) ?_ _
        go_wp2_with fail
        refine ⟨⟨(j : Int) - 1, by omega, by omega, rfl, ?_, hx.below hB.below, hy.below hB.below, hb.trans hB⟩, by simp [intOf]⟩
        rw [show ((j : Int) - 1 + 1).toNat = j by omega]
        exact E1.out
      · have H := Lib.hid (e2 hXY)
        have c0 : (((dig A j : Nat) : Int) != ((dig B j : Nat) : Int)) = true := by simp; omega
        have hS : IntKind.i64.wrap (((dig A j : Nat) : Int) - ((dig B j : Nat) : Int)) = ((dig A j : Nat) : Int) - ((dig B j : Nat) : Int) := IntWalk.i64_in _ (by omega)
        clear hq e1 e2 hXY l1 l2
        generalize ((dig A j : Nat) : Int) = X at *
        generalize ((dig B j : Nat) : Int) = Y at *
        go_wp2_with fail
        refine wd_begin [] (by kernel_rfl) (fun u0 hb0' hz0' => ?_)
        replace hB := hB.trans hb0'
        clear hb0' hz0'
        refine wd_pureZ 0 (some 10) (v := ?_) ?_ ?_; rotate_left; · (intro u; go_simp; try with_reducible rfl)
        try simp only [Act.put, gzD, gzE, gzF]
        refine wd_pureZ 1 (some 11) (v := ?_) ?_ ?_; rotate_left; · (intro u; go_simp; try with_reducible rfl)
        try simp only [Act.put, gzD, gzE, gzF]
        refine wd_takeZ 2 (some 12) (v := ?_) ?_ ?_; rotate_left; · (intro u hu; have x0 := (hx.below (hB.trans hu).below).cell d1; have y0 := (hy.below (hB.trans hu).below).cell d2; go_simp; try with_reducible rfl)
        try simp only [Act.put, gzD, gzE, gzF]
        refine wd_pureZ 3 (some 13) (v := ?_) ?_ ?_; rotate_left; · (intro u; go_simp; try with_reducible rfl)
        try simp only [Act.put, gzD, gzE, gzF]
        refine wd_pureZ 4 (some 14) (v := ?_) ?_ ?_; rotate_left; · (intro u; go_simp; try with_reducible rfl)
        try simp only [Act.put, gzD, gzE, gzF]
        refine wd_takeZ 5 (some 15) (v := ?_) ?_ ?_; rotate_left; · (intro u hu; have x0 := (hx.below (hB.trans hu).below).cell d1; have y0 := (hy.below (hB.trans hu).below).cell d2; go_simp; try with_reducible rfl)
        try simp only [Act.put, gzD, gzE, gzF]
        refine wd_pureZ 6 (some 16) (v := ?_) ?_ ?_; rotate_left; · (intro u; go_simp; try with_reducible rfl)
        try simp only [Act.put, gzD, gzE, gzF]
        refine wd_done (by kernel_rfl) ?_ _
        go_wp2_with fail
        refine wd_begin [] (by kernel_rfl) (fun u0 hb0' hz0' => ?_)
        replace hB := hB.trans hb0'
        clear hb0' hz0'
        refine wd_pureZ 0 (some 17) (v := ?_) ?_ ?_; rotate_left; · (intro u; go_simp; try with_reducible rfl)
        try simp only [Act.put, gzD, gzE, gzF]
        refine wd_pureZ 1 (some 18) (v := ?_) ?_ ?_; rotate_left; · (intro u; go_simp; try with_reducible rfl)
        try simp only [Act.put, gzD, gzE, gzF]
        refine wd_takeZ 2 (some 19) (v := ?_) ?_ ?_; rotate_left; · (intro u hu; have x0 := (hx.below (hB.trans hu).below).cell d1; have y0 := (hy.below (hB.trans hu).below).cell d2; go_simp; try with_reducible rfl)
        try simp only [Act.put, gzD, gzE, gzF]
        refine wd_pureZ 3 (some 20) (v := ?_) ?_ ?_; rotate_left; · (intro u; go_simp; try with_reducible rfl)
        try simp only [Act.put, gzD, gzE, gzF]
        refine wd_pureZ 4 (some 21) (v := ?_) ?_ ?_; rotate_left; · (intro u; go_simp; try with_reducible rfl)
        try simp only [Act.put, gzD, gzE, gzF]
        refine wd_takeZ 5 (some 22) (v := ?_) ?_ ?_; rotate_left; · (intro u hu; have x0 := (hx.below (hB.trans hu).below).cell d1; have y0 := (hy.below (hB.trans hu).below).cell d2; go_simp; try with_reducible rfl)
        try simp only [Act.put, gzD, gzE, gzF]
        refine wd_pureZ 6 (some 23) (v := ?_) ?_ ?_; rotate_left; · (intro u; go_simp; try with_reducible rfl)
        try simp only [Act.put, gzD, gzE, gzF]
        refine wd_oneZ 7 (fun K hK => ?_)
        go_simp
        refine (sign_any _ _).mono ?_
        rintro e w' ⟨rfl, rfl⟩
        refine hK _ _ (Gd.refl _) ?_
        clear hK K
        try simp only [Act.put, gzD, gzE, gzF]
        refine wd_pureZ 8 (some 4) (v := ?_) ?_ ?_; rotate_left; · (intro u; go_simp; try with_reducible rfl)
        try simp only [Act.put, gzD, gzE, gzF]
        refine wd_done (by kernel_rfl) ?_ _
        go_wp2_with fail
        go_ret
        exact ⟨ret_i64 H.out, hb.trans hB⟩

set_option maxHeartbeats 1000000 in
theorem joined1_d (x y : Ad × Ad) (w : World) (hx : x.1.U) (hy : y.1.U) :
    Calls Tryz.prog 162 #[spA x, spA y] w (GivesD (.int .i64 (cmpN x.1.n y.1.n)) w) := by
  have HC := fun w' => Lib.hid (wcmp_d x.1.n y.1.n w' (Nat.lt_trans hx.n_lt (by decide)) (Nat.lt_trans hy.n_lt (by decide)))
  obtain ⟨h1, h2⟩ := two_new w (spC x) (spC y) 147 147
  have l1 := h1.ldAt rowW 0 (digN x.1.n) (digN x.2.n) rfl rfl
  have l2 := h2.ldAt rowW 0 (digN y.1.n) (digN y.2.n) rfl rfl
  have hG : Gd w ((w.alloc (.cells (spC x).toArray 147)).alloc (.cells (spC y).toArray 147)) := ((Gd.refl w).alloc _).alloc _
  clear h1 h2 hx hy
  go_enter Tryz.func162, Tryz.ntmps162
  go_wp2_with fail
  refine (HC _).out.mono ?_
  rintro e w1 ⟨rfl, hg1⟩
  go_wp2_with fail
  go_ret
  exact ⟨rfl, hG.trans hg1⟩

theorem add64_run (x y c : Int) (hx : 0 ≤ x) (hy : 0 ≤ y) (h0 : 0 ≤ c) (h1 : c ≤ 1) (w : World) :
    (callFunc 143 #[.int .u64 x, .int .u64 y, .int .u64 c]).run Tryz.prog w = .ok (.value (.tuple #[.int .u64 ((x + y + c) % 18446744073709551616), .int .u64 ((x + y + c) / 18446744073709551616)])) w := by
  rw [run_callFunc_extern Tryz.func143 (by kernel_rfl) (by kernel_rfl) (by kernel_rfl) (e := add64Entry) (by kernel_rfl), run_add64 x y c hx hy h0 h1]
  rfl
theorem sub64_run (x y b : Int) (hx : 0 ≤ x) (hy : 0 ≤ y) (hyl : y < 18446744073709551616) (h0 : b = 0 ∨ b = 1) (w : World) :
    (callFunc 320 #[.int .u64 x, .int .u64 y, .int .u64 b]).run Tryz.prog w = .ok (.value (.tuple #[.int .u64 ((x - y - b) % 18446744073709551616), .int .u64 (if x < y + b then 1 else 0)])) w := by
  obtain ⟨X, rfl⟩ := Int.eq_ofNat_of_zero_le hx
  obtain ⟨Y, rfl⟩ := Int.eq_ofNat_of_zero_le hy
  obtain ⟨B, rfl⟩ := Int.eq_ofNat_of_zero_le (show 0 ≤ b by omega)
  have e := Go.Proofs.run_sub64 (P := Tryz.prog) X Y B (by omega) w
  rw [run_callFunc_extern Tryz.func320 (by kernel_rfl) (by kernel_rfl) (by kernel_rfl) (e := Go.Proofs.sub64Entry) (by kernel_rfl), e]
  have e1 : (((X + 18446744073709551616 - Y - B) % 18446744073709551616 : Nat) : Int) = ((X : Int) - Y - B) % 18446744073709551616 := by omega
  have e2 : ((if X < Y + B then 1 else 0 : Nat) : Int) = if (X : Int) < (Y : Int) + (B : Int) then 1 else 0 := by
    by_cases h : X < Y + B
    · rw [if_pos h, if_pos (by omega)]; rfl
    · rw [if_neg h, if_neg (by omega)]; rfl
  rw [e1, e2]
  rfl

def Tz (w : World) : Prop := Go.Proofs.TabAt 7 Lib.deBruijn64tab w ∧ 7 < w.heap.size
theorem Tz.below {w w' : World} (h : Tz w) (hb : Below w.heap.size w w') : Tz w' :=
  ⟨fun j hj => (hb.cell (p := ⟨7, j, none⟩) h.2).trans (h.1 j hj), Nat.lt_of_lt_of_le h.2 hb.size⟩
theorem Tz.alloc {w : World} (h : Tz w) (o : Obj) : Tz (w.alloc o) := h.below ((Below.refl _ _).alloc (Nat.le_refl _) _)
theorem Tz.upto {w w' : World} {B : Nat} (h : Tz w) (hb : Below B w w') (hB : 7 < B) : Tz w' :=
  ⟨fun j hj => (hb.cell (p := ⟨7, j, none⟩) hB).trans (h.1 j hj), Nat.lt_of_lt_of_le h.2 hb.size⟩

theorem tz64_zero (w : World) : Calls Tryz.prog 319 #[.int .u64 0] w fun e w' => e = .returned (.int .i64 64) ∧ w = w' := by
  go_enter Tryz.func319, Tryz.ntmps319
  go_wp2
  go_ret
  exact ⟨rfl, rfl⟩
set_option maxHeartbeats 1000000 in
theorem tz64_core (x k idx : Nat) (w : World) (hx0 : ((x : Int) == 0) = false)
    (key : IntKind.u64.wrap (bits BinOp.and IntKind.u64 (x : Int) (IntKind.u64.wrap (-(x : Int))) * 285870213051353865) / 288230376151711744 = (idx : Int))
    (hi : idx < 64) (hk : k < 64) (hcell : w.cell? ⟨7, idx, none⟩ = some (.int .u8 k)) :
    Calls Tryz.prog 319 #[.int .u64 x] w fun e w' => e = .returned (.int .i64 k) ∧ w = w' := by
  go_enter Tryz.func319, Tryz.ntmps319
  go_wp2_with (simp only [key])
  go_ret
  exact ⟨rfl, rfl⟩
theorem tz64_any (x : Int) (w : World) (h0 : 0 ≤ x) (hx : x < 18446744073709551616) (hT : Tz w) :
    Calls Tryz.prog 319 #[.int .u64 x] w fun e w' => e = .returned (.int .i64 (Lib.ctz 64 x.toNat)) ∧ w = w' := by
  obtain ⟨X, rfl⟩ := Int.eq_ofNat_of_zero_le h0
  rw [Int.toNat_natCast]
  by_cases hx0 : X = 0
  · subst hx0
    exact tz64_zero w
  · obtain ⟨hlow, hk⟩ := Lib.lowest_bit 64 X hx0 (by omega)
    obtain ⟨hi, htab⟩ := Lib.deBruijn64_at _ hk
    have hcell := hT.1 _ hi
    rw [htab] at hcell
    exact tz64_core X _ _ w (by simp; omega) (Go.Proofs.tz64_key X _ (by omega) hx0 hlow) hi hk hcell

theorem ctz_spec {x : Nat} (h0 : x ≠ 0) (hx : x < 2 ^ 64) : 2 ^ Lib.ctz 64 x ∣ x ∧ ¬ 2 ^ (Lib.ctz 64 x + 1) ∣ x ∧ Lib.ctz 64 x < 64 := by
  unfold Lib.ctz
  rw [if_neg h0]
  obtain ⟨m, hm, hk⟩ := Lib.ctzFrom_spec 64 x (by omega) hx
  generalize Lib.ctzFrom 64 x = k at *
  refine ⟨⟨_, hm⟩, ?_, hk⟩
  rintro ⟨c, hc⟩
  rw [hm, Nat.pow_succ, Nat.mul_assoc] at hc
  have := Nat.eq_of_mul_eq_mul_left (Nat.two_pow_pos k) hc
  omega
theorem bitLenAux_spec : ∀ (f x : Nat), x < 2 ^ f → 0 < x → 2 ^ (Lib.bitLenAux f x - 1) ≤ x ∧ x < 2 ^ Lib.bitLenAux f x ∧ 1 ≤ Lib.bitLenAux f x
  | 0, x, h, h0 => by simp at h; omega
  | f + 1, x, h, h0 => by
    unfold Lib.bitLenAux
    rw [if_neg (by omega)]
    rcases Nat.eq_zero_or_pos (x / 2) with e | e
    · have : x = 1 := by omega
      subst this
      rw [show (1 : Nat) / 2 = 0 from rfl]
      have : Lib.bitLenAux f 0 = 0 := by cases f <;> simp [Lib.bitLenAux]
      rw [this]; decide
    · obtain ⟨a, b, c⟩ := bitLenAux_spec f (x / 2) (by rw [Nat.pow_succ] at h; omega) e
      refine ⟨?_, ?_, by omega⟩
      · rw [show 1 + Lib.bitLenAux f (x / 2) - 1 = (Lib.bitLenAux f (x / 2) - 1) + 1 by omega, Nat.pow_succ]; omega
      · rw [Nat.add_comm 1, Nat.pow_succ]; omega
theorem bitLen_spec {x : Nat} (h0 : 0 < x) (hx : x < 2 ^ 64) : 2 ^ (Lib.bitLen x - 1) ≤ x ∧ x < 2 ^ Lib.bitLen x ∧ 1 ≤ Lib.bitLen x := bitLenAux_spec 64 x hx h0

def zerosA (a : Ad) : Nat := if a.lo = 0 then 64 + Lib.ctz 64 a.hi.toNat else Lib.ctz 64 a.lo.toNat
theorem zerosA_spec {a : Ad} (h : a.U) : (a.v = 0 ∧ zerosA a = 128) ∨ (2 ^ zerosA a ∣ a.v ∧ ¬ 2 ^ (zerosA a + 1) ∣ a.v ∧ zerosA a < 128) := by
  obtain ⟨⟨h1, h2⟩, ⟨h3, h4⟩⟩ := h
  unfold zerosA Ad.v num
  by_cases hl : a.lo = 0
  · rw [if_pos hl, hl]
    by_cases hh : a.hi = 0
    · left; rw [hh]; exact ⟨rfl, rfl⟩
    · right
      obtain ⟨g1, g2, g3⟩ := ctz_spec (x := a.hi.toNat) (by omega) (by omega)
      generalize Lib.ctz 64 a.hi.toNat = k at *
      rw [show (0 : Int).toNat = 0 from rfl, Nat.add_zero, Nat.pow_add, Nat.mul_comm (2 ^ 64)]
      refine ⟨Nat.mul_dvd_mul_right g1 _, ?_, by omega⟩
      rw [show 64 + k + 1 = (k + 1) + 64 by omega, Nat.pow_add]
      intro hd
      exact g2 (Nat.dvd_of_mul_dvd_mul_right (by decide) hd)
  · right
    rw [if_neg hl]
    obtain ⟨g1, g2, g3⟩ := ctz_spec (x := a.lo.toNat) (by omega) (by omega)
    generalize Lib.ctz 64 a.lo.toNat = k at *
    have hd : ∀ j, j ≤ 64 → (2 ^ j ∣ a.hi.toNat * 2 ^ 64 + a.lo.toNat ↔ 2 ^ j ∣ a.lo.toNat) := fun j hj =>
      (Nat.dvd_add_iff_right (Nat.dvd_trans (Nat.pow_dvd_pow 2 hj) (Nat.dvd_mul_left _ _))).symm
    exact ⟨(hd k (by omega)).2 g1, fun h => g2 ((hd (k + 1) (by omega)).1 h), by omega⟩

theorem ctz_le (x : Nat) (hx : x < 2 ^ 64) : Lib.ctz 64 x ≤ 64 := by
  by_cases h : x = 0
  · subst h; decide
  · exact Nat.le_of_lt (ctz_spec h hx).2.2

set_option maxHeartbeats 1000000 in
theorem zeros_any (a : Ad) (w : World) (h : a.U) (hT : Tz w) :
    Calls Tryz.prog 238 #[adA a] w (GivesD (.int .i64 (zerosA a)) w) := by
  obtain ⟨⟨h1, h2⟩, ⟨h3, h4⟩⟩ := h
  have hB := Blk.new w (adC a) 38
  have hT1 := hT.alloc (.cells (adC a).toArray 38)
  have c1 := hB.cell (i := 1) (v := .int .u64 a.hi) rfl
  have c2 := hB.cell (i := 2) (v := .int .u64 a.lo) rfl
  have hG : Gd w (w.alloc (.cells (adC a).toArray 38)) := (Gd.refl w).alloc _
  have hle := ctz_le a.hi.toNat (by omega)
  by_cases hl : a.lo = 0
  · have HR := Lib.hid (show ((zerosA a : Nat) : Int) = 64 + (Lib.ctz 64 a.hi.toNat : Nat) by unfold zerosA; rw [if_pos hl]; omega)
    have H1 := Lib.hid (tz64_any a.hi _ h1 h2 hT1)
    have b0 : (a.lo != 0) = false := by simp [hl]
    generalize Lib.ctz 64 a.hi.toNat = k at *
    clear hl hT hT1 hB
    go_enter Tryz.func238, Tryz.ntmps238
    go_wp2_with fail
    refine H1.out.mono ?_
    rintro e w1 ⟨rfl, rfl⟩
    go_wp2_with fail
    go_ret
    exact ⟨ret_i64 HR.out.symm, hG⟩
  · have HR := Lib.hid (show ((zerosA a : Nat) : Int) = (Lib.ctz 64 a.lo.toNat : Nat) by unfold zerosA; rw [if_neg hl])
    have H1 := Lib.hid (tz64_any a.lo _ h3 h4 hT1)
    have b0 : (a.lo != 0) = true := by simp [hl]
    clear hl hT hT1 hB
    go_enter Tryz.func238, Tryz.ntmps238
    go_wp2_with fail
    refine H1.out.mono ?_
    rintro e w1 ⟨rfl, rfl⟩
    go_wp2_with fail
    go_ret
    exact ⟨ret_i64 HR.out.symm, hG⟩

def IsLog (S p : Nat) : Prop := 2 ^ p ≤ S ∧ S < 2 ^ (p + 1)
theorem mul_join {a b h l K : Nat} (k1 : a ≤ h) (k2 : h < b) (hl : l < K) : a * K ≤ h * K + l ∧ h * K + l < b * K := by
  have h1 := Nat.mul_le_mul_right K k1
  have h2 := Nat.mul_le_mul_right K (Nat.succ_le_of_lt k2)
  rw [Nat.succ_mul] at h2
  omega
theorem log_join {h l n : Nat} (k1 : 2 ^ (n - 1) ≤ h) (k2 : h < 2 ^ n) (k3 : 1 ≤ n) (hl : l < 2 ^ 64) : IsLog (h * 2 ^ 64 + l) (63 + n) := by
  have := mul_join k1 k2 hl
  unfold IsLog
  rw [show 63 + n = (n - 1) + 64 by omega, show n - 1 + 64 + 1 = n + 64 by omega, Nat.pow_add, Nat.pow_add]
  exact this
def PowPost (S : Nat) (w : World) (e : Ending) (w' : World) : Prop := ∃ p : Nat, p ≤ 128 ∧ IsLog S p ∧ e = .returned (.int .i64 (p : Int)) ∧ Gd w w'

theorem pow_math {ah al bh bl L1 B1 H1 L2 C H2 O : Int} (a1 : U64 ah) (a2 : U64 al) (b1 : U64 bh) (b2 : U64 bl) (hle : num ah al ≤ num bh bl)
    (e1 : L1 = (bl - al - 0) % 18446744073709551616) (e2 : B1 = if bl < al + 0 then 1 else 0) (e3 : H1 = (bh - ah - B1) % 18446744073709551616)
    (e4 : L2 = (L1 + 1 + 0) % 18446744073709551616) (e5 : C = (L1 + 1 + 0) / 18446744073709551616) (e6 : H2 = (H1 + 0 + C) % 18446744073709551616) (e7 : O = (H1 + 0 + C) / 18446744073709551616) :
    0 ≤ L2 ∧ L2 < 18446744073709551616 ∧ 0 ≤ H2 ∧ H2 < 18446744073709551616 ∧ 0 ≤ O ∧ O ≤ 1 ∧ ((num bh bl - num ah al + 1 : Nat) : Int) = O * 340282366920938463463374607431768211456 + H2 * 18446744073709551616 + L2 := by
  unfold num U64 at *
  have hB : (B1 = 1 ∧ bl < al) ∨ (B1 = 0 ∧ al ≤ bl) := by
    by_cases h : bl < al + 0
    · rw [if_pos h] at e2; exact .inl ⟨e2, by omega⟩
    · rw [if_neg h] at e2; exact .inr ⟨e2, by omega⟩
  clear e2
  omega

set_option maxHeartbeats 4000000 in
theorem power_any (a b : Ad) (w : World) (ha : a.U) (hb : b.U) (hle : a.v ≤ b.v) :
    Calls Tryz.prog 239 #[adA a, adA b] w (PowPost (b.v - a.v + 1) w) := by
  obtain ⟨h1, h2⟩ := two_new w (adC a) (adC b) 38 38
  have hG : Gd w ((w.alloc (.cells (adC a).toArray 38)).alloc (.cells (adC b).toArray 38)) := ((Gd.refl w).alloc _).alloc _
  have c1 := h1.cell (i := 1) (v := .int .u64 a.hi) rfl
  have c2 := h1.cell (i := 2) (v := .int .u64 a.lo) rfl
  have d1 := h2.cell (i := 1) (v := .int .u64 b.hi) rfl
  have d2 := h2.cell (i := 2) (v := .int .u64 b.lo) rfl
  clear h1 h2
  obtain ⟨L1, e1⟩ : ∃ L1, L1 = (b.lo - a.lo - 0) % 18446744073709551616 := ⟨_, rfl⟩
  obtain ⟨B1, e2⟩ : ∃ B1 : Int, B1 = if b.lo < a.lo + 0 then 1 else 0 := ⟨_, rfl⟩
  obtain ⟨H1, e3⟩ : ∃ H1, H1 = (b.hi - a.hi - B1) % 18446744073709551616 := ⟨_, rfl⟩
  obtain ⟨B2, e3'⟩ : ∃ B2 : Int, B2 = if b.hi < a.hi + B1 then 1 else 0 := ⟨_, rfl⟩
  obtain ⟨L2, e4⟩ : ∃ L2, L2 = (L1 + 1 + 0) % 18446744073709551616 := ⟨_, rfl⟩
  obtain ⟨C, e5⟩ : ∃ C, C = (L1 + 1 + 0) / 18446744073709551616 := ⟨_, rfl⟩
  obtain ⟨H2, e6⟩ : ∃ H2, H2 = (H1 + 0 + C) % 18446744073709551616 := ⟨_, rfl⟩
  obtain ⟨O, e7⟩ : ∃ O, O = (H1 + 0 + C) / 18446744073709551616 := ⟨_, rfl⟩
  have hB1 : B1 = 0 ∨ B1 = 1 := by rw [e2]; split <;> simp
  have r1 := fun w => sub64_run b.lo a.lo 0 hb.2.1 ha.2.1 ha.2.2 (.inl rfl) w
  have r2 := fun w => sub64_run b.hi a.hi B1 hb.1.1 ha.1.1 ha.1.2 hB1 w
  have r3 := fun w => add64_run L1 1 0 (by omega) (by omega) (by omega) (by omega) w
  have r4 := fun w => add64_run H1 0 C (by omega) (by omega) (by omega) (by omega) w
  obtain ⟨g1, g2, g3, g4, g5, g6, g7⟩ := pow_math ha.1 ha.2 hb.1 hb.2 hle e1 e2 e3 e4 e5 e6 e7
  rw [← e1, ← e2] at r1
  rw [← e3, ← e3'] at r2
  rw [← e4, ← e5] at r3
  rw [← e6, ← e7] at r4
  replace g7 : ((b.v - a.v + 1 : Nat) : Int) = _ := g7
  have hS1 : 1 ≤ b.v - a.v + 1 := by omega
  clear e1 e2 e3 e3' e4 e5 e6 e7 hB1 ha hb hle
  generalize b.v - a.v + 1 = S at *
  by_cases hO : O = 0
  · have b0 : (O != 0) = false := by simp [hO]
    by_cases hH : H2 = 0
    · have b1 : (H2 != 0) = false := by simp [hH]
      obtain ⟨k1, k2, k3⟩ := bitLen_spec (x := L2.toNat) (by omega) (by omega)
      have k4 := Lib.bitLen_le L2.toNat 64 (by omega) (by omega)
      have HL := fun W => Lib.hid (Tryz.bits_Len64 L2 W (by omega) (by omega))
      have HS := Lib.hid (show L2.toNat = S by rw [hO, hH] at g7; omega)
      generalize Lib.bitLen L2.toNat = n at *
      have hK := Lib.hid (And.intro k1 k2)
      clear hO hH g7 k1 k2
      go_enter Tryz.func239, Tryz.ntmps239
      go_wp2_with fail
      refine (HL _).out.mono ?_
      rintro e w1 ⟨rfl, rfl⟩
      go_wp2_with fail
      go_ret
      have := hK.out
      rw [HS.out] at this
      exact ⟨n - 1, by omega, ⟨this.1, by rw [show n - 1 + 1 = n by omega]; exact this.2⟩, ret_i64 (by omega), hG⟩
    · have b1 : (H2 != 0) = true := by simp [hH]
      obtain ⟨k1, k2, k3⟩ := bitLen_spec (x := H2.toNat) (by omega) (by omega)
      have k4 := Lib.bitLen_le H2.toNat 64 (by omega) (by omega)
      have HL := fun W => Lib.hid (Tryz.bits_Len64 H2 W (by omega) (by omega))
      have hK := Lib.hid (show IsLog S (63 + Lib.bitLen H2.toNat) by
        rw [hO] at g7
        have h5 : S = H2.toNat * 2 ^ 64 + L2.toNat := by omega
        have h6 : L2.toNat < 2 ^ 64 := by omega
        generalize Lib.bitLen H2.toNat = n at *
        rw [h5]
        exact log_join k1 k2 k3 h6)
      generalize Lib.bitLen H2.toNat = n at *
      clear hO hH g7 k1 k2
      go_enter Tryz.func239, Tryz.ntmps239
      go_wp2_with fail
      refine (HL _).out.mono ?_
      rintro e w1 ⟨rfl, rfl⟩
      go_wp2_with fail
      go_ret
      exact ⟨63 + n, by omega, hK.out, ret_i64 (by omega), hG⟩
  · have b0 : (O != 0) = true := by simp [hO]
    have hK := Lib.hid (show IsLog S 128 by
      unfold IsLog
      rw [show (2 : Nat) ^ 128 = 340282366920938463463374607431768211456 from rfl, show (2 : Nat) ^ (128 + 1) = 680564733841876926926749214863536422912 from rfl]
      omega)
    clear hO g7
    go_enter Tryz.func239, Tryz.ntmps239
    go_wp2_with fail
    go_ret
    exact ⟨128, by omega, hK.out, rfl, hG⟩
end Go.Proofs.YtmgdkefoehlamaaGreatDoor
namespace Go.Proofs.YtmgdkefoehlamaaGreatDoor
open Go.RowKit Go.Shelf

def zRg : Value := .agg #[.bool false, .int .u64 0, .int .u64 0, .bool false, .int .u64 0, .int .u64 0]
def zPf : Value := .agg #[.bool false, .int .u64 0, .int .u64 0, .int .i64 0]
def zSp : Value := .agg #[.int .i64 0, .int .i64 0, .int .i64 0, .int .i64 0, .int .i64 0, .int .i64 0, .int .i64 0, .int .i64 0, .int .i64 0, .int .i64 0, .int .i64 0, .int .i64 0, .int .i64 0, .int .i64 0, .int .i64 0, .int .i64 0, .int .i64 0, .int .i64 0]
theorem infoRg : (Tryz.prog.info? 53).map (fun i => (i.zero, i.size, i.bytes)) = some (some zRg, 6, 48) := by kernel_rfl
theorem infoPf : (Tryz.prog.info? 40).map (fun i => (i.zero, i.size, i.bytes)) = some (some zPf, 4, 32) := by kernel_rfl
theorem infoSp : (Tryz.prog.info? 147).map (fun i => (i.zero, i.size, i.bytes)) = some (some zSp, 18, 144) := by kernel_rfl
def bsT (t : TypeId) (x : Value) : Sem Next := do
  let v ← Instr.buildSlice t 1 #[(0, x)]
  pure (.value v)
section
variable (ρ : Operand → Value) (dst : Option Tmp) (x : Operand) (ty : TypeId) (pos : String) (after : Array Edge) (guard : Option (Nat × Bool))
@[go_sem ↓ high] theorem execOp_bsRg : execOp ρ ⟨dst, .buildSlice 49 1 #[(0, x)], ty, pos, after, guard⟩ = bsT 49 (ρ x) := by
  simp only [execOp, bsT, List.map_toArray, List.map_cons, List.map_nil]
@[go_sem high] theorem execOp_bsRg' : execOp ρ ⟨dst, .buildSlice 49 1 #[(0, x)], ty, pos, after, guard⟩ = bsT 49 (ρ x) := by
  simp only [execOp, bsT, List.map_toArray, List.map_cons, List.map_nil]
@[go_sem ↓ high] theorem execOp_bsPf : execOp ρ ⟨dst, .buildSlice 26 1 #[(0, x)], ty, pos, after, guard⟩ = bsT 26 (ρ x) := by
  simp only [execOp, bsT, List.map_toArray, List.map_cons, List.map_nil]
@[go_sem high] theorem execOp_bsPf' : execOp ρ ⟨dst, .buildSlice 26 1 #[(0, x)], ty, pos, after, guard⟩ = bsT 26 (ρ x) := by
  simp only [execOp, bsT, List.map_toArray, List.map_cons, List.map_nil]
@[go_sem ↓ high] theorem execOp_bsSp : execOp ρ ⟨dst, .buildSlice 103 1 #[(0, x)], ty, pos, after, guard⟩ = bsT 103 (ρ x) := by
  simp only [execOp, bsT, List.map_toArray, List.map_cons, List.map_nil]
@[go_sem high] theorem execOp_bsSp' : execOp ρ ⟨dst, .buildSlice 103 1 #[(0, x)], ty, pos, after, guard⟩ = bsT 103 (ρ x) := by
  simp only [execOp, bsT, List.map_toArray, List.map_cons, List.map_nil]
end
theorem bsT_run {st t : TypeId} {k bytes : Nat} {z : Value} {cs : Array Value} (hu : Tryz.prog.underlying st = some (.slice t)) (hi : (Tryz.prog.info? t).map (fun i => (i.zero, i.size, i.bytes)) = some (some z, k, bytes)) (hk : ¬ 1 * k > 2 ^ 24) (hk0 : ¬ 1 * k = 0)
    (hf : Instr.fill (fun i => some (i * k, k)) ((Array.range (1 * k)).map (z.cells[· % z.cells.size]!)) [(0, .agg cs)] = some cs) (w : World) :
    (bsT st (.agg cs)).run Tryz.prog w = .ok (.value (.slice (some ⟨w.heap.size, 0, none⟩) 1 1)) (w.alloc (.cells cs t)) := by
  obtain ⟨i0, hi0, hz0, hz1, hz2⟩ := info_parts hi
  subst hz1
  unfold bsT
  simp only [Sem.run_bind, run_buildSlice (P := Tryz.prog) w st t 1 #[(0, .agg cs)] cs i0 z hu hi0 hz0 hk hk0 hf, Result.andThen_ok, Sem.run_pure]
@[go_sem] theorem run_bsRg (x : Ad × Ad) (w : World) : (bsT 49 (.agg (rgC x).toArray)).run Tryz.prog w = .ok (.value (.slice (some ⟨w.heap.size, 0, none⟩) 1 1)) (w.alloc (.cells (rgC x).toArray 53)) :=
  bsT_run Tryz.underlying49 infoRg (by decide) (by decide) (by kernel_rfl) w
@[go_sem] theorem run_bsPf (x : Pf) (w : World) : (bsT 26 (.agg (pfC x).toArray)).run Tryz.prog w = .ok (.value (.slice (some ⟨w.heap.size, 0, none⟩) 1 1)) (w.alloc (.cells (pfC x).toArray 40)) :=
  bsT_run Tryz.underlying26 infoPf (by decide) (by decide) (by kernel_rfl) w
@[go_sem] theorem run_bsSp (x : Ad × Ad) (w : World) : (bsT 103 (.agg (spC x).toArray)).run Tryz.prog w = .ok (.value (.slice (some ⟨w.heap.size, 0, none⟩) 1 1)) (w.alloc (.cells (spC x).toArray 147)) :=
  bsT_run Tryz.underlying103 infoSp (by decide) (by decide) (by kernel_rfl) w
@[go_sem] theorem run_bsSp2 (A B : Nat) (w : World) : (bsT 103 (.agg (digN A ++ digN B).toArray)).run Tryz.prog w = .ok (.value (.slice (some ⟨w.heap.size, 0, none⟩) 1 1)) (w.alloc (.cells (digN A ++ digN B).toArray 147)) :=
  bsT_run Tryz.underlying103 infoSp (by decide) (by decide) (by kernel_rfl) w
theorem tyeRg : Ty eRg 53 49 zRg 48 := ⟨Tryz.underlying49, infoRg, rfl, by decide⟩
theorem tyePf : Ty ePf 40 26 zPf 32 := ⟨Tryz.underlying26, infoPf, rfl, by decide⟩
theorem tyeSp : Ty eSp 147 103 zSp 144 := ⟨Tryz.underlying103, infoSp, rfl, by decide⟩

set_option maxHeartbeats 4000000 in
theorem cloneRg_any (A : Option Addr) (n cap : Nat) (xs : List (Ad × Ad)) (w : World) (hS : SlE eRg w A n cap xs) (hn : n ≤ 100000) :
    Calls Tryz.prog 148 #[.slice A n cap] w fun e w' => ∃ v', e = .returned v' ∧ OwnE eRg 53 w.heap.size w' v' xs ∧ Below w.heap.size w w' := by
  have q22 : ∀ (w : World) (a : Option Addr) (n c n' c' : Nat), (binOp .eql 49 (.slice a n c) (.slice none n' c')).run Tryz.prog w = .ok (.bool a.isNone) w := fun w a n c n' c' => Lib.run_eql_slice_nil w _ _ a n c n' c' Tryz.underlying49
  have hlen := Lib.hid hS.1
  have hS := Lib.hid hS
  cases A with
  | none =>
    have hxs : xs = [] := by
      rcases hS.out.2.2.2 with h | ⟨g, off, h, _⟩
      · exact List.length_eq_zero_iff.1 (by have := hlen.out; omega)
      · cases h
    subst hxs
    obtain rfl : n = 0 := by simpa using hlen.out
    clear hlen
    go_enter Tryz.func148, Tryz.ntmps148
    go_wp2_with fail
    go_ret
    exact ⟨_, rfl, OwnE.nil _ _, Below.refl _ _⟩
  | some a =>
    have hc := Lib.hid (fun j u (hj : (Enc.cells eRg xs)[j]? = some u) => hS.out.cells j u hj)
    go_enter Tryz.func148, Tryz.ntmps148
    go_wp2_with (at_builtin; refine wpList_app tyeRg rfl _ _ rfl w.heap.size _ [] xs rfl (World.ownsRow_made w #[] 0 (Nat.le_refl _) (Nat.zero_le _) (by simp)) a n cap rfl ?c1 ?c2 ?c3 ?c4 ?_)
    case c1 => exact hlen.out
    case c2 =>
      intro j u hj
      exact Lib.cell?_alloc_some _ (hc.out j u hj)
    case c3 => rw [← hlen.out]; simp; omega
    case c4 => simp
    intro v' w1 hown hgrow _
    have hB := ((Below.refl _ w).alloc (Nat.le_refl _) _).grown hgrow (by simp) (by intro k hk; simp [Value.ownBlock] at hk; omega)
    clear hgrow
    go_wp2_with fail
    go_ret
    exact ⟨v', rfl, by simpa using hown, hB⟩

set_option maxHeartbeats 4000000 in
theorem cloneSp_any (A : Option Addr) (n cap : Nat) (xs : List (Ad × Ad)) (w : World) (hS : SlE eSp w A n cap xs) (hn : n ≤ 100000) :
    Calls Tryz.prog 160 #[.slice A n cap] w fun e w' => ∃ v', e = .returned v' ∧ OwnE eSp 147 w.heap.size w' v' xs ∧ Below w.heap.size w w' := by
  have q22 : ∀ (w : World) (a : Option Addr) (n c n' c' : Nat), (binOp .eql 103 (.slice a n c) (.slice none n' c')).run Tryz.prog w = .ok (.bool a.isNone) w := fun w a n c n' c' => Lib.run_eql_slice_nil w _ _ a n c n' c' Tryz.underlying103
  have hlen := Lib.hid hS.1
  have hS := Lib.hid hS
  cases A with
  | none =>
    have hxs : xs = [] := by
      rcases hS.out.2.2.2 with h | ⟨g, off, h, _⟩
      · exact List.length_eq_zero_iff.1 (by have := hlen.out; omega)
      · cases h
    subst hxs
    obtain rfl : n = 0 := by simpa using hlen.out
    clear hlen
    go_enter Tryz.func160, Tryz.ntmps160
    go_wp2_with fail
    go_ret
    exact ⟨_, rfl, OwnE.nil _ _, Below.refl _ _⟩
  | some a =>
    have hc := Lib.hid (fun j u (hj : (Enc.cells eSp xs)[j]? = some u) => hS.out.cells j u hj)
    go_enter Tryz.func160, Tryz.ntmps160
    go_wp2_with (at_builtin; refine wpList_app tyeSp rfl _ _ rfl w.heap.size _ [] xs rfl (World.ownsRow_made w #[] 0 (Nat.le_refl _) (Nat.zero_le _) (by simp)) a n cap rfl ?c1 ?c2 ?c3 ?c4 ?_)
    case c1 => exact hlen.out
    case c2 =>
      intro j u hj
      exact Lib.cell?_alloc_some _ (hc.out j u hj)
    case c3 => rw [← hlen.out]; simp; omega
    case c4 => simp
    intro v' w1 hown hgrow _
    have hB := ((Below.refl _ w).alloc (Nat.le_refl _) _).grown hgrow (by simp) (by intro k hk; simp [Value.ownBlock] at hk; omega)
    clear hgrow
    go_wp2_with fail
    go_ret
    exact ⟨v', rfl, by simpa using hown, hB⟩

abbrev U2 := {x : Ad × Ad // x.1.U ∧ x.2.U}
instance : Inhabited U2 := ⟨⟨(⟨false, 0, 0⟩, ⟨false, 0, 0⟩), ⟨⟨by decide, by decide⟩, ⟨by decide, by decide⟩⟩, ⟨⟨by decide, by decide⟩, ⟨by decide, by decide⟩⟩⟩⟩

def onU (E : Enc (Ad × Ad)) : Enc U2 := ⟨fun x => E.enc x.1, E.k, E.pos, fun x => E.len x.1, fun x => E.one x.1⟩
theorem lift_U : ∀ xs : List (Ad × Ad), (∀ x ∈ xs, x.1.U ∧ x.2.U) → ∃ ys : List U2, xs = ys.map (·.1)
  | [], _ => ⟨[], rfl⟩
  | x :: r, h => by
    obtain ⟨ys, hy⟩ := lift_U r (fun z hz => h z (List.mem_cons_of_mem _ hz))
    exact ⟨⟨x, h x List.mem_cons_self⟩ :: ys, by show x :: r = x :: ys.map _; rw [← hy]⟩
theorem cells_onU (E : Enc (Ad × Ad)) : ∀ ys : List U2, E.cells (ys.map (·.1)) = (onU E).cells ys
  | [] => rfl
  | y :: r => by rw [List.map_cons, E.cells_cons, (onU E).cells_cons, cells_onU E r]; rfl
def cmpU2 (x y : U2) : Int := cmpN x.1.1.n y.1.1.n
theorem ltU2_iff (x y : U2) : ltOf cmpU2 x y = true ↔ x.1.1.n < y.1.1.n := by
  unfold ltOf cmpU2 cmpN
  by_cases h : x.1.1.n < y.1.1.n
  · rw [if_pos h]; exact ⟨fun _ => h, fun _ => by decide⟩
  · rw [if_neg h]
    refine ⟨fun a => ?_, fun a => absurd a h⟩
    exfalso
    by_cases h2 : x.1.1.n = y.1.1.n
    · rw [if_pos h2] at a; cases a
    · rw [if_neg h2] at a; cases a
theorem ltU2_le (x y : U2) (h : ltOf cmpU2 x y = false) : y.1.1.n ≤ x.1.1.n := by
  have := mt (ltU2_iff x y).2 (by rw [h]; decide)
  omega
theorem ltU2_not (x y : U2) (h : y.1.1.n ≤ x.1.1.n) : ltOf cmpU2 x y = false := by
  cases e : ltOf cmpU2 x y
  · rfl
  · have := (ltU2_iff x y).1 e; omega
theorem swo_cmpU2 : Sort.SWO (ltOf cmpU2) where
  irrefl := fun x => ltU2_not x x (Nat.le_refl _)
  trans := fun x y z a b => (ltU2_iff x z).2 (Nat.lt_trans ((ltU2_iff x y).1 a) ((ltU2_iff y z).1 b))
  ntrans := fun x y z a b => ltU2_not x z (Nat.le_trans (ltU2_le y z b) (ltU2_le x y a))

theorem flatK_cells (E : Enc (Ad × Ad)) (ys : List U2) (j : Nat) (hj : j < (ys.toArray.size) * E.k) : ∃ u, ((onU E).cells ys)[j]? = some u ∧ ((onU E).enc ys.toArray[j / E.k]!)[j % E.k]? = some u := by
  have hp := E.pos
  have hq : j / E.k < ys.length := Nat.div_lt_of_lt_mul (by rw [Nat.mul_comm]; simpa using hj)
  have hm : j % E.k < E.k := Nat.mod_lt _ hp
  have hx : ys[j / E.k]? = some ys[j / E.k] := List.getElem?_eq_getElem hq
  have hl : j % E.k < ((onU E).enc ys[j / E.k]).length := by rw [(onU E).len]; exact hm
  refine ⟨((onU E).enc ys[j / E.k])[j % E.k], ?_, ?_⟩
  · have := (onU E).cells_get ys (j / E.k) _ hx (j % E.k) _ (List.getElem?_eq_getElem hl)
    rwa [show j / E.k * (onU E).k + j % E.k = j by rw [Nat.mul_comm]; exact Nat.div_add_mod j E.k] at this
  · rw [getElem!_pos ys.toArray (j / E.k) (by simpa using hq)]
    simp

theorem holdsK_own {E : Enc (Ad × Ad)} {t : TypeId} {w : World} {B g n cap : Nat} {ys : List U2} (h : OwnE E t B w (.slice (some ⟨g, 0, none⟩) n cap) (ys.map (·.1))) : Sort.HoldsK (onU E).enc (onU E).k w g 0 ys.toArray := by
  intro j hj
  have hj' := hj
  rw [Sort.size_flatK] at hj'
  obtain ⟨u, h1, h2⟩ := flatK_cells E ys j (by simpa [onU] using hj')
  rw [Sort.get_flatK _ _ _ _ hj']
  have hc := World.ownsRow.cells h (g := g) rfl j u (by rw [cells_onU]; exact h1)
  rw [Addr.add_lit, Nat.zero_add] at hc
  refine ⟨?_, ?_⟩
  · rw [Nat.zero_add, hc]
    show some u = some (((onU E).enc ys.toArray[j / E.k]!)[j % E.k]!)
    rw [List.getElem!_eq_getElem?_getD, h2]; rfl
  · rcases h.2 with ⟨hv, _⟩ | ⟨g', cap', cur, hv, hg, hh, _⟩
    · cases hv
    · cases hv; exact frozen_of_row w g _ _ _ hh
theorem below_sortK {enc : U2 → List Value} {k : Nat} {w : World} {B g off m : Nat} {d : Array U2} {os : Array Obj} (hg : B ≤ g) (hB : B ≤ w.heap.size) : Below B w (sortWorldK enc k w g off m d os) := by
  refine ⟨rfl, rfl, rfl, size_sortWorldK_c _ _ _ _ _ _ _ _, fun k hk => ?_⟩
  unfold sortWorldK Sort.grow Sort.putRowK Sort.putRow Sort.mapBlock Sort.ahead
  show (w.heap.modify g _ ++ os)[k]? = _
  rw [Array.getElem?_append_left (by simp; omega), Array.getElem?_modify, if_neg (by omega)]
theorem sorted_slE {E : Enc (Ad × Ad)} {w : World} {g cap : Nat} {d : Array U2} (h : Sort.HoldsK (onU E).enc (onU E).k w g 0 d) (hg : g < w.heap.size) (hc : d.size ≤ cap) : SlE E w (some ⟨g, 0, none⟩) (d.toList.map (·.1)).length cap (d.toList.map (·.1)) := by
  refine ⟨rfl, by simpa using hc, (fun e => by cases e), .inr ⟨g, 0, rfl, hg, fun j x hx i v hv => ?_⟩⟩
  obtain ⟨y, hy, rfl⟩ := Option.map_eq_some_iff.1 (by rw [List.getElem?_map] at hx; exact hx)
  have hj : j < d.size := by simpa using (List.getElem?_eq_some_iff.1 hy).1
  have hi : i < (onU E).k := by rw [← (onU E).len y]; exact (List.getElem?_eq_some_iff.1 hv).1
  have e : d[j]! = y := by
    rw [getElem!_pos d j hj]
    have := (List.getElem?_eq_some_iff.1 hy).2
    simpa using this
  have a := (h.cell hj hi).1
  rw [e] at a
  rw [show 0 + j * E.k + i = 0 + j * (onU E).k + i from rfl, a, List.getElem!_eq_getElem?_getD]
  rw [show ((onU E).enc y)[i]? = some v from hv]; rfl
theorem perm_ofU {d d' : Array U2} (h : Sort.PermIn 0 d.size d d') : d'.toList.Perm d.toList := by
  obtain ⟨h1, _, h3⟩ := h
  have a : d'.extract 0 d.size = d' := by rw [← h1]; simp
  have b : d.extract 0 d.size = d := by simp
  rw [a, b] at h3
  exact h3
theorem pairwise_ofU {d : Array U2} {n : Nat} (hn : d.size = n) (h : Sort.SortedIn (ltOf cmpU2) 0 n d) : (d.toList.map (·.1)).Pairwise (fun x y => x.1.n ≤ y.1.n) := by
  rw [List.pairwise_map, List.pairwise_iff_getElem]
  intro i j hi hj hij
  have := ltU2_le _ _ (h i j (Nat.zero_le _) hij (by rw [← hn]; simpa using hj))
  rw [getElem!_pos d i (by simpa using hi), getElem!_pos d j (by simpa using hj)] at this
  simpa using this

def OwnS (E : Enc (Ad × Ad)) (B : Nat) (w : World) (v : Value) (xs : List (Ad × Ad)) : Prop :=
  ∃ A cap, v = .slice A xs.length cap ∧ SlE E w A xs.length cap xs ∧ ∀ g off, A = some ⟨g, off, none⟩ → B ≤ g ∧ g < w.heap.size
theorem none_any {ρ : Go.Shelf.Ren} (L : SlLaysF0.n6 Tryz.prog ρ) (p : Option Addr) (cap : Nat) (fv : Value) (w : World) :
    Calls Tryz.prog (ρ.f 6) #[.slice p 0 cap, fv] w fun e w' => e = .returned (.tuple #[]) ∧ w' = w := AnyF.slices_SortFunc_none L p cap fv w

theorem lays_sortRg_any (blk off size : Nat) (w : World) : CmpLays Tryz.prog 150 #[] (onU eRg).enc (onU eRg).k cmpU2 blk off size w :=
  fun _ _ _ _ x y => (join1_d x.1 y.1 _ x.2.1 y.2.1).mono fun _ _ h => ⟨h.1, h.2.grows⟩

set_option maxHeartbeats 2000000 in
theorem sortRg_any (B : Nat) (v : Value) (xs : List (Ad × Ad)) (w : World) (hown : OwnE eRg 53 B w v xs) (hU : ∀ x ∈ xs, x.1.U ∧ x.2.U) (hb : B ≤ w.heap.size) (hn : xs.length ≤ 1000000) :
    Calls Tryz.prog 149 #[v, .func (.func 150) #[] #[]] w fun e w' => e = .returned (.tuple #[]) ∧ ∃ qs : List (Ad × Ad), qs.Perm xs ∧ qs.Pairwise (fun x y => x.1.n ≤ y.1.n) ∧ OwnS eRg B w' v qs ∧ Below B w w' := by
  by_cases h0 : xs = []
  · subst h0
    obtain ⟨A, cap, rfl, hS⟩ := hown.sl
    refine (none_any Tryz.sortRange A cap _ w).mono ?_
    rintro e w' ⟨rfl, rfl⟩
    exact ⟨rfl, [], List.Perm.refl _, List.Pairwise.nil, ⟨A, cap, rfl, hS, fun g off hA => by cases A with | none => cases hA | some a => exact (by have := hown.lt a.block rfl; cases hA; exact this)⟩, Below.refl _ _⟩
  · obtain ⟨ys, rfl⟩ := lift_U xs hU
    obtain ⟨g, cap, rfl, hg1, hg2, hcap, _⟩ := hown.form h0
    have hH := holdsK_own (E := eRg) hown
    have eg : ∀ args w, (callFunc 150 args).run Tryz.prog w = .ok (.enter 150 args) w := enters_of Tryz.func150 (by kernel_rfl) rfl
    have hcon := AnyQ.slices_SortFunc Tryz.sortRange 6 Tryz.isAgg53 Tryz.sizeOf53 (onU eRg).enc (onU eRg).len (onU eRg).one cmpU2 swo_cmpU2 150 #[] g 0 cap ys.toArray w eg (lays_sortRg_any g 0 ys.toArray.size w) hH hg2 (by simp at hn ⊢; omega)
    change Calls Tryz.prog 149 _ _ _ at hcon
    have e0 : ys.toArray.size = ys.length := by simp
    rw [e0] at hcon
    rw [List.length_map]
    refine hcon.mono ?_
    rintro e w' ⟨rfl, d', m, os, hp, hs, rfl⟩
    rw [← e0] at hp
    have hsz : d'.size = ys.length := hp.1.trans e0
    refine ⟨rfl, d'.toList.map (·.1), (perm_ofU hp).map _, pairwise_ofU hsz hs, ?_, below_sortK hg1 hb⟩
    refine ⟨some ⟨g, 0, none⟩, cap, by simp [hsz], ?_, fun g' off hA => by cases hA; exact ⟨hg1, Nat.lt_of_lt_of_le hg2 (size_sortWorldK_c _ _ _ _ _ _ _ _)⟩⟩
    exact sorted_slE (holdsK_sortWorldK_c _ _ _ _ _ _ _ _ _ hH hg2 hp.1) (Nat.lt_of_lt_of_le hg2 (size_sortWorldK_c _ _ _ _ _ _ _ _)) (by simp at hcap; omega)

theorem lays_sortSp_any (blk off size : Nat) (w : World) : CmpLays Tryz.prog 162 #[] (onU eSp).enc (onU eSp).k cmpU2 blk off size w :=
  fun _ _ _ _ x y => (joined1_d x.1 y.1 _ x.2.1 y.2.1).mono fun _ _ h => ⟨h.1, h.2.grows⟩

set_option maxHeartbeats 2000000 in
theorem sortSp_any (B : Nat) (v : Value) (xs : List (Ad × Ad)) (w : World) (hown : OwnE eSp 147 B w v xs) (hU : ∀ x ∈ xs, x.1.U ∧ x.2.U) (hb : B ≤ w.heap.size) (hn : xs.length ≤ 1000000) :
    Calls Tryz.prog 161 #[v, .func (.func 162) #[] #[]] w fun e w' => e = .returned (.tuple #[]) ∧ ∃ qs : List (Ad × Ad), qs.Perm xs ∧ qs.Pairwise (fun x y => x.1.n ≤ y.1.n) ∧ OwnS eSp B w' v qs ∧ Below B w w' := by
  by_cases h0 : xs = []
  · subst h0
    obtain ⟨A, cap, rfl, hS⟩ := hown.sl
    refine (none_any Tryz.sortSpan A cap _ w).mono ?_
    rintro e w' ⟨rfl, rfl⟩
    exact ⟨rfl, [], List.Perm.refl _, List.Pairwise.nil, ⟨A, cap, rfl, hS, fun g off hA => by cases A with | none => cases hA | some a => exact (by have := hown.lt a.block rfl; cases hA; exact this)⟩, Below.refl _ _⟩
  · obtain ⟨ys, rfl⟩ := lift_U xs hU
    obtain ⟨g, cap, rfl, hg1, hg2, hcap, _⟩ := hown.form h0
    have hH := holdsK_own (E := eSp) hown
    have eg : ∀ args w, (callFunc 162 args).run Tryz.prog w = .ok (.enter 162 args) w := enters_of Tryz.func162 (by kernel_rfl) rfl
    have hcon := AnyQ.slices_SortFunc Tryz.sortSpan 18 Tryz.isAgg147 Tryz.sizeOf147 (onU eSp).enc (onU eSp).len (onU eSp).one cmpU2 swo_cmpU2 162 #[] g 0 cap ys.toArray w eg (lays_sortSp_any g 0 ys.toArray.size w) hH hg2 (by simp at hn ⊢; omega)
    change Calls Tryz.prog 161 _ _ _ at hcon
    have e0 : ys.toArray.size = ys.length := by simp
    rw [e0] at hcon
    rw [List.length_map]
    refine hcon.mono ?_
    rintro e w' ⟨rfl, d', m, os, hp, hs, rfl⟩
    rw [← e0] at hp
    have hsz : d'.size = ys.length := hp.1.trans e0
    refine ⟨rfl, d'.toList.map (·.1), (perm_ofU hp).map _, pairwise_ofU hsz hs, ?_, below_sortK hg1 hb⟩
    refine ⟨some ⟨g, 0, none⟩, cap, by simp [hsz], ?_, fun g' off hA => by cases hA; exact ⟨hg1, Nat.lt_of_lt_of_le hg2 (size_sortWorldK_c _ _ _ _ _ _ _ _)⟩⟩
    exact sorted_slE (holdsK_sortWorldK_c _ _ _ _ _ _ _ _ _ hH hg2 hp.1) (Nat.lt_of_lt_of_le hg2 (size_sortWorldK_c _ _ _ _ _ _ _ _)) (by simp at hcap; omega)
end Go.Proofs.YtmgdkefoehlamaaGreatDoor
