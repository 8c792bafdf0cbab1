/- Sorted rows of a subtype; orders that are laid one behind another. -/
import Derived.Test.YtfbggfpihiegpaaGreatDoorKpGzA
import Derived.Test.YtfbggfpihiegpaaGreatDoorKpRvC
import Derived.Test.YtfbggfpihiegpaaGreatDoorKpTxtJ
import Derived.Test.YtfbggfpihiegpaaGreatDoorKpShelf
import Derived.Shelf.Spec.TrailingZeros
import Derived.Shelf.Spec.BitsCarry
import Derived.Lib.Small
import Derived.Lib.Bytealg
import Derived.Shelf.Strings.SlTrimAscii
import Derived.Shelf.SlSortCmp.WholeK
import Derived.Shelf.SlSortCmp.NoneTotal
import Derived.Great.BuildSlice
import Derived.Test.YtfbggfpihiegpaaGreatDoorKpMdD
set_option linter.unusedVariables false
set_option linter.unusedSimpArgs false
set_option maxRecDepth 100000
namespace Go.Proofs.YtfbggfpihiegpaaGreatDoor
open Go.RowKit

def GivesD (v : Value) (w : World) (e : Ending) (w' : World) : Prop := e = .returned v ∧ Gd w w'
theorem GivesD.v {v : Value} {w : World} {e : Ending} {w' : World} (h : GivesD v w e w') : GivesV v w e w' := ⟨h.1, h.2.below⟩

theorem orI_blk (l : List Int) (p cap : Nat) (w : World) (t : TypeId) (h : Blk w p (l.map (Value.int .i64)) t) (hl : l.length ≤ 100) :
    Calls Tryz.prog 69 #[.slice (some ⟨p, 0, none⟩) l.length cap] w fun e w' => e = .returned (.int .i64 (firstZ l)) ∧ w = w' :=
  orI_any l p cap w (fun i hi => h.cell (by simp [List.getElem?_eq_getElem hi])) hl

set_option linter.unusedSimpArgs false in
set_option maxHeartbeats 1000000 in
theorem spanCmp_d (a b : Ad) (w : World) (ha : a.U) (hb : b.U) :
    Calls Tryz.prog 46 #[adA a, adA b] w (GivesD (.int .i64 (cmpN a.n b.n)) w) := by
  have HR0 := cmpW_cmpN ha hb
  obtain ⟨⟨h1, h2⟩, ⟨h3, h4⟩⟩ := ha
  obtain ⟨⟨k1, k2⟩, ⟨k3, k4⟩⟩ := hb
  generalize cmpN a.n b.n = c at HR0 ⊢
  obtain ⟨s, hi, lo⟩ := a
  obtain ⟨t, h, l⟩ := b
  replace HR0 : cmpW (num hi lo) s (num h l) t = c := HR0
  show Calls Tryz.prog 46 #[.agg #[.bool s, .int .u64 hi, .int .u64 lo], .agg #[.bool t, .int .u64 h, .int .u64 l]] w (GivesD (.int .i64 c) w)
  simp only at h1 h2 h3 h4 k1 k2 k3 k4
  have HF : Hid (∀ u, ((w.alloc (.cells #[.bool s, .int .u64 hi, .int .u64 lo] 30)).alloc (.cells #[.bool t, .int .u64 h, .int .u64 l] 30)).grownBy u none → _) :=
    Lib.hid fun u hu => And.intro ((blk2 w [.bool s, .int .u64 hi, .int .u64 lo] [.bool t, .int .u64 h, .int .u64 l] _ _).1.gn hu).three ((blk2 w [.bool s, .int .u64 hi, .int .u64 lo] [.bool t, .int .u64 h, .int .u64 l] _ _).2.gn hu).three
  have hG : Gd w ((w.alloc (.cells #[.bool s, .int .u64 hi, .int .u64 lo] 30)).alloc (.cells #[.bool t, .int .u64 h, .int .u64 l] 30)) := ((Gd.refl w).alloc _).alloc _
  have hB := Gd.refl ((w.alloc (.cells #[.bool s, .int .u64 hi, .int .u64 lo] 30)).alloc (.cells #[.bool t, .int .u64 h, .int .u64 l] 30))
  obtain ⟨⟨c0, c1, c2, _⟩, ⟨d0, d1, d2, _⟩⟩ := HF.out _ hB.1
  by_cases hst : s = t
  · subst hst
    have HR := Lib.hid ((cmpW_halves hi lo h l s h1 h2 h3 h4 k1 k2 k3 k4).trans HR0)
    clear HR0
    go_enter Tryz.func46, Tryz.ntmps46
    go_wp2_with fail
    refine wd_begin [] (by kernel_rfl) (fun u0 hb0' hz0' => ?_)
    replace hB := hB.trans hb0'
    clear hb0' hz0'
    refine wd_pureZ 0 (some 12) (v := ?_) ?_ ?_; rotate_left; · (intro u; go_simp; try with_reducible rfl)
    try simp only [Act.put, gzD, gzE, gzF]
    refine wd_takeZ 1 (some 13) (v := ?_) ?_ ?_; rotate_left; · (intro u hu; obtain ⟨⟨c0, c1, c2, _⟩, ⟨d0, d1, d2, _⟩⟩ := HF.out u (hB.trans hu).1; go_simp; try with_reducible rfl)
    try simp only [Act.put, gzD, gzE, gzF]
    refine wd_pureZ 2 (some 14) (v := ?_) ?_ ?_; rotate_left; · (intro u; go_simp; try with_reducible rfl)
    try simp only [Act.put, gzD, gzE, gzF]
    refine wd_takeZ 3 (some 15) (v := ?_) ?_ ?_; rotate_left; · (intro u hu; obtain ⟨⟨c0, c1, c2, _⟩, ⟨d0, d1, d2, _⟩⟩ := HF.out u (hB.trans hu).1; go_simp; try with_reducible rfl)
    try simp only [Act.put, gzD, gzE, gzF]
    refine wd_pureZ 5 (some 17) (v := ?_) ?_ ?_; rotate_left; · (intro u; go_simp; try with_reducible rfl)
    try simp only [Act.put, gzD, gzE, gzF]
    refine wd_takeZ 6 (some 18) (v := ?_) ?_ ?_; rotate_left; · (intro u hu; obtain ⟨⟨c0, c1, c2, _⟩, ⟨d0, d1, d2, _⟩⟩ := HF.out u (hB.trans hu).1; go_simp; try with_reducible rfl)
    try simp only [Act.put, gzD, gzE, gzF]
    refine wd_pureZ 7 (some 19) (v := ?_) ?_ ?_; rotate_left; · (intro u; go_simp; try with_reducible rfl)
    try simp only [Act.put, gzD, gzE, gzF]
    refine wd_takeZ 8 (some 20) (v := ?_) ?_ ?_; rotate_left; · (intro u hu; obtain ⟨⟨c0, c1, c2, _⟩, ⟨d0, d1, d2, _⟩⟩ := HF.out u (hB.trans hu).1; go_simp; try with_reducible rfl)
    try simp only [Act.put, gzD, gzE, gzF]
    refine wd_oneZ 4 (fun K hK => ?_)
    go_simp
    refine (cmpU_any _ _ _).mono ?_
    rintro e w' ⟨rfl, rfl⟩
    refine hK _ _ (Gd.refl _) ?_
    clear hK K
    try simp only [Act.put, gzD, gzE, gzF]
    refine wd_oneZ 9 (fun K hK => ?_)
    go_simp
    refine (cmpU_any _ _ _).mono ?_
    rintro e w' ⟨rfl, rfl⟩
    refine hK _ _ (Gd.refl _) ?_
    clear hK K
    try simp only [Act.put, gzD, gzE, gzF]
    refine wd_oneZ 10 (fun K hK => ?_)
    go_simp
    refine hK _ _ ((Gd.refl _).alloc _) ?_
    clear hK K
    refine wd_new (cs := [cmpZ hi h, cmpZ lo l].map (Value.int .i64)) (fun u1 hd1 hq1 hz1 => ?_)
    replace hB := hB.trans hd1
    try simp only [Act.put, gzD, gzE, gzF]
    refine wd_oneZ 11 (fun K hK => ?_)
    go_simp
    refine (orI_blk [cmpZ hi h, cmpZ lo l] _ _ _ _ hq1 (by simp)).mono ?_
    rintro e w' ⟨rfl, rfl⟩
    refine hK _ _ (Gd.refl _) ?_
    clear hK K
    try simp only [Act.put, gzD, gzE, gzF]
    refine wd_pureZ 12 (some 4) (v := ?_) ?_ ?_; rotate_left; · (intro u; go_simp; try with_reducible rfl)
    try simp only [Act.put, gzD, gzE, gzF]
    refine wd_done (by kernel_rfl) ?_ _
    go_wp2_with fail
    go_ret
    exact ⟨ret_i64 HR.out, hG.trans hB⟩
  · have HR := Lib.hid (HR0.symm.trans (show cmpW (num hi lo) s (num h l) t = if t then -1 else 1 from if_neg hst))
    have b0 : (s == t) = false := by simp [hst]
    clear hst HR0
    cases t
    · go_enter Tryz.func46, Tryz.ntmps46
      go_wp2_with fail
      go_ret
      exact ⟨ret_i64 HR.out.symm, hG⟩
    · go_enter Tryz.func46, Tryz.ntmps46
      go_wp2_with fail
      go_ret
      exact ⟨ret_i64 HR.out.symm, hG⟩

theorem two_new (w : World) (cs ds : List Value) (t te : TypeId) : Blk ((w.alloc (.cells cs.toArray t)).alloc (.cells ds.toArray te)) w.heap.size cs t ∧ Blk ((w.alloc (.cells cs.toArray t)).alloc (.cells ds.toArray te)) (w.heap.size + 1) ds te := blk2 w cs ds t te

theorem cmpN_step (A B j : Nat) (hq : A / 2 ^ (16 * (j + 1)) = B / 2 ^ (16 * (j + 1))) :
    (dig A j = dig B j → A / 2 ^ (16 * j) = B / 2 ^ (16 * j)) ∧ (dig A j ≠ dig B j → sgn ((dig A j : Int) - dig B j) = cmpN A B) := by
  obtain ⟨p1, p2, p3⟩ := top_step A B j hq
  refine ⟨p1, fun h => ?_⟩
  unfold cmpN sgn
  rcases Nat.lt_or_ge (dig A j) (dig B j) with g | g
  · rw [if_pos (by omega), if_pos (p2 g)]
  · have g' : dig B j < dig A j := by omega
    have := p3 g'
    rw [if_neg (by omega), if_pos (by omega), if_neg (by omega), if_neg (by omega)]
theorem digN_get (W j : Nat) (hj : j < 9) : (digN W)[j]? = some (.int .i64 (dig W j)) := by
  match j, hj with
  | 0, _ => rfl
  | 1, _ => rfl
  | 2, _ => rfl
  | 3, _ => rfl
  | 4, _ => rfl
  | 5, _ => rfl
  | 6, _ => rfl
  | 7, _ => rfl
  | 8, _ => rfl
set_option maxHeartbeats 2000000 in
theorem wcmp_d (A B : Nat) (w : World) (hA : A < 2 ^ 144) (hB : B < 2 ^ 144) :
    Calls Tryz.prog 38 #[wA A, wA B] w (GivesD (.int .i64 (cmpN A B)) w) := by
  obtain ⟨hl1, hl2⟩ := two_new w (digN A) (digN B) 97 97
  have hG : Gd w ((w.alloc (.cells (digN A).toArray 97)).alloc (.cells (digN B).toArray 97)) := ((Gd.refl w).alloc _).alloc _
  go_enter Tryz.func38, Tryz.ntmps38
  go_wp2_with fail
  go_loopw [5] (fun c wr => ∃ m : Int, -1 ≤ m ∧ m ≤ 8 ∧ c = .int .i64 m ∧ A / 2 ^ (16 * (m + 1).toNat) = B / 2 ^ (16 * (m + 1).toNat) ∧ Blk wr w.heap.size (digN A) 97 ∧ Blk wr (w.heap.size + 1) (digN B) 97 ∧ Gd w wr) (fun c _ => (intOf c + 1).toNat)
  case atStart =>
    refine ⟨8, by omega, by omega, rfl, ?_, hl1, hl2, hG⟩
    show A / 2 ^ 144 = B / 2 ^ 144
    rw [Nat.div_eq_of_lt hA, Nat.div_eq_of_lt hB]
  case round =>
    clear hl1 hl2 hG
    obtain ⟨m, hm1, hm2, rfl, hq, hx, hy, hb⟩ := hrel
    by_cases h0 : m < 0
    · have H := Lib.hid (show cmpN A B = 0 by
        obtain rfl : m = -1 := by omega
        have hq' : A / 2 ^ 0 = B / 2 ^ 0 := hq
        simp at hq'
        unfold cmpN; rw [if_neg (by omega), if_pos hq'])
      clear hq
      go_wp2_with fail
      go_ret
      exact ⟨ret_i64 H.out.symm, hb⟩
    · obtain ⟨j, rfl⟩ := Int.eq_ofNat_of_zero_le (show 0 ≤ m by omega)
      rw [show ((j : Int) + 1).toNat = j + 1 by omega] at hq
      obtain ⟨e1, e2⟩ := cmpN_step A B j hq
      have d1 := digN_get A j (by omega)
      have d2 := digN_get B j (by omega)
      have l1 := dig_lt A j
      have l2 := dig_lt B j
      have hj0 : (0 : Int) ≤ j := by omega
      have hj9 : (j : Int) < 9 := by omega
      have hB := Gd.refl wr
      by_cases hXY : dig A j = dig B j
      · have E1 := Lib.hid (e1 hXY)
        have c0 : (((dig A j : Nat) : Int) != ((dig B j : Nat) : Int)) = false := by simp [hXY]
        clear hq e1 e2 hXY l1 l2
        generalize ((dig A j : Nat) : Int) = X at *
        generalize ((dig B j : Nat) : Int) = Y at *
        go_wp2_with fail
        refine wd_begin [] (by kernel_rfl) (fun u0 hb0' hz0' => ?_)
        replace hB := hB.trans hb0'
        clear hb0' hz0'
        refine wd_pureZ 0 (some 10) (v := ?_) ?_ ?_; rotate_left; · (intro u; go_simp; try with_reducible rfl)
        try simp only [Act.put, gzD, gzE, gzF]
        refine wd_pureZ 1 (some 11) (v := ?_) ?_ ?_; rotate_left; · (intro u; go_simp; try with_reducible rfl)
        try simp only [Act.put, gzD, gzE, gzF]
        refine wd_takeZ 2 (some 12) (v := ?_) ?_ ?_; rotate_left; · (intro u hu; have x0 := (hx.below (hB.trans hu).below).cell d1; have y0 := (hy.below (hB.trans hu).below).cell d2; go_simp; try with_reducible rfl)
        try simp only [Act.put, gzD, gzE, gzF]
        refine wd_pureZ 3 (some 13) (v := ?_) ?_ ?_; rotate_left; · (intro u; go_simp; try with_reducible rfl)
        try simp only [Act.put, gzD, gzE, gzF]
        refine wd_pureZ 4 (some 14) (v := ?_) ?_ ?_; rotate_left; · (intro u; go_simp; try with_reducible rfl)
        try simp only [Act.put, gzD, gzE, gzF]
        refine wd_takeZ 5 (some 15) (v := ?_) ?_ ?_; rotate_left; · (intro u hu; have x0 := (hx.below (hB.trans hu).below).cell d1; have y0 := (hy.below (hB.trans hu).below).cell d2; go_simp; try with_reducible rfl)
        try simp only [Act.put, gzD, gzE, gzF]
        refine wd_pureZ 6 (some 16) (v := ?_) ?_ ?_; rotate_left; · (intro u; go_simp; try with_reducible rfl)
        try simp only [Act.put, gzD, gzE, gzF]
        refine wd_done (by kernel_rfl) ?_ _
        go_wp2_with fail
        refine ⟨⟨(j : Int) - 1, by omega, by omega, rfl, ?_, hx.below hB.below, hy.below hB.below, hb.trans hB⟩, by simp [intOf]⟩
        rw [show ((j : Int) - 1 + 1).toNat = j by omega]
        exact E1.out
      · have H := Lib.hid (e2 hXY)
        have c0 : (((dig A j : Nat) : Int) != ((dig B j : Nat) : Int)) = true := by simp; omega
        have hS : IntKind.i64.wrap (((dig A j : Nat) : Int) - ((dig B j : Nat) : Int)) = ((dig A j : Nat) : Int) - ((dig B j : Nat) : Int) := IntWalk.i64_in _ (by omega)
        clear hq e1 e2 hXY l1 l2
        generalize ((dig A j : Nat) : Int) = X at *
        generalize ((dig B j : Nat) : Int) = Y at *
        go_wp2_with fail
        refine wd_begin [] (by kernel_rfl) (fun u0 hb0' hz0' => ?_)
        replace hB := hB.trans hb0'
        clear hb0' hz0'
        refine wd_pureZ 0 (some 10) (v := ?_) ?_ ?_; rotate_left; · (intro u; go_simp; try with_reducible rfl)
        try simp only [Act.put, gzD, gzE, gzF]
        refine wd_pureZ 1 (some 11) (v := ?_) ?_ ?_; rotate_left; · (intro u; go_simp; try with_reducible rfl)
        try simp only [Act.put, gzD, gzE, gzF]
        refine wd_takeZ 2 (some 12) (v := ?_) ?_ ?_; rotate_left; · (intro u hu; have x0 := (hx.below (hB.trans hu).below).cell d1; have y0 := (hy.below (hB.trans hu).below).cell d2; go_simp; try with_reducible rfl)
        try simp only [Act.put, gzD, gzE, gzF]
        refine wd_pureZ 3 (some 13) (v := ?_) ?_ ?_; rotate_left; · (intro u; go_simp; try with_reducible rfl)
        try simp only [Act.put, gzD, gzE, gzF]
        refine wd_pureZ 4 (some 14) (v := ?_) ?_ ?_; rotate_left; · (intro u; go_simp; try with_reducible rfl)
        try simp only [Act.put, gzD, gzE, gzF]
        refine wd_takeZ 5 (some 15) (v := ?_) ?_ ?_; rotate_left; · (intro u hu; have x0 := (hx.below (hB.trans hu).below).cell d1; have y0 := (hy.below (hB.trans hu).below).cell d2; go_simp; try with_reducible rfl)
        try simp only [Act.put, gzD, gzE, gzF]
        refine wd_pureZ 6 (some 16) (v := ?_) ?_ ?_; rotate_left; · (intro u; go_simp; try with_reducible rfl)
        try simp only [Act.put, gzD, gzE, gzF]
        refine wd_done (by kernel_rfl) ?_ _
        go_wp2_with fail
        refine wd_begin [] (by kernel_rfl) (fun u0 hb0' hz0' => ?_)
        replace hB := hB.trans hb0'
        clear hb0' hz0'
        refine wd_pureZ 0 (some 17) (v := ?_) ?_ ?_; rotate_left; · (intro u; go_simp; try with_reducible rfl)
        try simp only [Act.put, gzD, gzE, gzF]
        refine wd_pureZ 1 (some 18) (v := ?_) ?_ ?_; rotate_left; · (intro u; go_simp; try with_reducible rfl)
        try simp only [Act.put, gzD, gzE, gzF]
        refine wd_takeZ 2 (some 19) (v := ?_) ?_ ?_; rotate_left; · (intro u hu; have x0 := (hx.below (hB.trans hu).below).cell d1; have y0 := (hy.below (hB.trans hu).below).cell d2; go_simp; try with_reducible rfl)
        try simp only [Act.put, gzD, gzE, gzF]
        refine wd_pureZ 3 (some 20) (v := ?_) ?_ ?_; rotate_left; · (intro u; go_simp; try with_reducible rfl)
        try simp only [Act.put, gzD, gzE, gzF]
        refine wd_pureZ 4 (some 21) (v := ?_) ?_ ?_; rotate_left; · (intro u; go_simp; try with_reducible rfl)
        try simp only [Act.put, gzD, gzE, gzF]
        refine wd_takeZ 5 (some 22) (v := ?_) ?_ ?_; rotate_left; · (intro u hu; have x0 := (hx.below (hB.trans hu).below).cell d1; have y0 := (hy.below (hB.trans hu).below).cell d2; go_simp; try with_reducible rfl)
        try simp only [Act.put, gzD, gzE, gzF]
        refine wd_pureZ 6 (some 23) (v := ?_) ?_ ?_; rotate_left; · (intro u; go_simp; try with_reducible rfl)
        try simp only [Act.put, gzD, gzE, gzF]
        refine wd_oneZ 7 (fun K hK => ?_)
        go_simp
        refine (sign_any _ _).mono ?_
        rintro e w' ⟨rfl, rfl⟩
        refine hK _ _ (Gd.refl _) ?_
        clear hK K
        try simp only [Act.put, gzD, gzE, gzF]
        refine wd_pureZ 8 (some 4) (v := ?_) ?_ ?_; rotate_left; · (intro u; go_simp; try with_reducible rfl)
        try simp only [Act.put, gzD, gzE, gzF]
        refine wd_done (by kernel_rfl) ?_ _
        go_wp2_with fail
        go_ret
        exact ⟨ret_i64 H.out, hb.trans hB⟩


def Tz (w : World) : Prop := Go.Proofs.TabAt 4 Lib.deBruijn64tab w ∧ 4 < w.heap.size
theorem Tz.below {w w' : World} (h : Tz w) (hb : Below w.heap.size w w') : Tz w' :=
  ⟨fun j hj => (hb.cell (p := ⟨4, j, none⟩) h.2).trans (h.1 j hj), Nat.lt_of_lt_of_le h.2 hb.size⟩
theorem Tz.alloc {w : World} (h : Tz w) (o : Obj) : Tz (w.alloc o) := h.below ((Below.refl _ _).alloc (Nat.le_refl _) _)
theorem Tz.upto {w w' : World} {B : Nat} (h : Tz w) (hb : Below B w w') (hB : 4 < B) : Tz w' :=
  ⟨fun j hj => (hb.cell (p := ⟨4, j, none⟩) hB).trans (h.1 j hj), Nat.lt_of_lt_of_le h.2 hb.size⟩


def insP (p q : Pf) : Bool := insB p.1.s p.1.hi p.1.lo p.2 q.1.s q.1.hi q.1.lo q.2
theorem Ad.R.s_of {a b : Ad} (ha : a.R) (hb : b.R) (h : a.n < 2 ^ 128 ↔ b.n < 2 ^ 128) : a.s = b.s := by
  rcases ha.six with ⟨h1, h2, h3⟩ | ⟨h1, h2, h3⟩ <;> rcases hb.six with ⟨k1, k2, k3⟩ | ⟨k1, k2, k3⟩
  · rw [h1, k1]
  · omega
  · omega
  · rw [h1, k1]
theorem Ad.R.n_s {a b : Ad} (ha : a.R) (hb : b.R) (h : a.s = b.s) : a.n + b.v = b.n + a.v := by
  unfold Ad.n; rw [h]; omega
theorem ctP_eq {p : Pf} {a : Ad} (hp : p.R) (ha : a.R) : ctB p.1.s p.1.hi p.1.lo p.2 a.s a.hi a.lo = decide ((blk p).1 ≤ a.n ∧ a.n < (blk p).1 + 2 ^ (blk p).2) := by
  have hpos := Nat.two_pow_pos (freeB p)
  obtain ⟨_, hok⟩ := hp.blk_ok
  unfold OkB OkX blk at hok
  simp only at hok
  show (p.1.s == a.s && decide (clr a.v (lenZ a.s - p.2).toNat = p.1.v)) = decide (p.1.n ≤ a.n ∧ a.n < p.1.n + 2 ^ freeB p)
  by_cases hs : p.1.s = a.s
  · rw [show (p.1.s == a.s) = true by simp [hs], Bool.true_and, ← hs]
    apply decide_eq_decide.2
    have e := hp.1.n_s ha hs
    have h1 := clr_iff (B := a.v) hp.2.2.2
    have h2 := fil_blk hp
    show clr a.v (freeB p) = p.1.v ↔ _
    rw [h1, h2]
    omega
  · rw [show (p.1.s == a.s) = false by simp [hs], Bool.false_and]
    symm
    apply decide_eq_false
    rintro ⟨h1, h2⟩
    apply hs
    refine hp.1.s_of ha ?_
    rcases hp.1.six with ⟨_, _, k3⟩ | ⟨_, k2, k3⟩ <;> rcases ha.six with ⟨_, _, j3⟩ | ⟨_, j2, j3⟩ <;> omega
theorem free_bits {p q : Pf} (hp : p.R) (hq : q.R) (hs : p.1.s = q.1.s) : (q.2 ≤ p.2 ↔ freeB p ≤ freeB q) ∧ (p.2 = q.2 ↔ freeB p = freeB q) := by
  unfold freeB
  have h1 := hp.2.2.1
  have h2 := hq.2.2.1
  rw [hs] at *
  omega
theorem insP_eq {p q : Pf} (hp : p.R) (hq : q.R) : insP p q = decide ((blk q).1 ≤ (blk p).1 ∧ (blk p).1 < (blk q).1 + 2 ^ (blk q).2 ∧ (blk p).2 ≤ (blk q).2) := by
  show (decide (q.2 ≤ p.2) && ctB q.1.s q.1.hi q.1.lo q.2 p.1.s p.1.hi p.1.lo) = _
  rw [ctP_eq hq hp.1, ← Bool.decide_and]
  apply decide_eq_decide.2
  show q.2 ≤ p.2 ∧ (q.1.n ≤ p.1.n ∧ p.1.n < q.1.n + 2 ^ freeB q) ↔ q.1.n ≤ p.1.n ∧ p.1.n < q.1.n + 2 ^ freeB q ∧ freeB p ≤ freeB q
  have key : q.1.n ≤ p.1.n → p.1.n < q.1.n + 2 ^ freeB q → (q.2 ≤ p.2 ↔ freeB p ≤ freeB q) := fun h1 h2 => by
    have hok := hq.blk_ok.2
    unfold OkB OkX blk at hok
    simp only at hok
    refine (free_bits hp hq (hp.1.s_of hq.1 ?_)).1
    rcases hq.1.six with ⟨_, _, k3⟩ | ⟨_, k2, k3⟩ <;> rcases hp.1.six with ⟨_, _, j3⟩ | ⟨_, j2, j3⟩ <;> omega
  constructor
  · rintro ⟨h1, h2, h3⟩; exact ⟨h2, h3, (key h2 h3).1 h1⟩
  · rintro ⟨h2, h3, h1⟩; exact ⟨(key h2 h3).2 h1, h2, h3⟩


structure Fl where
  p : Int
  f : Ad
  t : Ad
  fp : Int
  tp : Int
structure Rp where
  node : List UInt8
  hour : Int
  out : Bool
  fl : Fl
  pk : Int
  by_ : Int
def i60 (z : Int) : Prop := -1152921504606846976 ≤ z ∧ z ≤ 1152921504606846976
def Fl.U (x : Fl) : Prop := x.f.U ∧ x.t.U ∧ i60 x.p ∧ i60 x.fp ∧ i60 x.tp
def Rp.U (r : Rp) : Prop := r.fl.U ∧ i60 r.hour ∧ r.node.length ≤ 1000
section
variable (ρ : Operand → Value) (dst : Option Tmp) (x y : Operand) (ty : TypeId) (pos : String) (after : Array Edge) (guard : Option (Nat × Bool))
@[go_sem ↓ high] theorem execOp_ldFl : execOp ρ ⟨dst, .load 244 x, ty, pos, after, guard⟩ = ldT 244 (ρ x) := rfl
@[go_sem high] theorem execOp_ldFl' : execOp ρ ⟨dst, .load 244 x, ty, pos, after, guard⟩ = ldT 244 (ρ x) := rfl
@[go_sem ↓ high] theorem execOp_stFl : execOp ρ ⟨dst, .store 244 x y, ty, pos, after, guard⟩ = stT 244 (ρ x) (ρ y) := rfl
@[go_sem high] theorem execOp_stFl' : execOp ρ ⟨dst, .store 244 x y, ty, pos, after, guard⟩ = stT 244 (ρ x) (ρ y) := rfl
end

theorem intCmp_d (x y : Int) (w : World) : Calls Tryz.prog 70 #[.int .i64 x, .int .i64 y] w fun e w' => e = .returned (.int .i64 (Lib.compareInt x y)) ∧ w' = w := Tryz.cmp_Compare_int x y w


def smlB (c : UInt8) : Bool := decide (97 ≤ (c.toNat : Int)) && decide ((c.toNat : Int) ≤ 122)
def digB (c : UInt8) : Bool := decide (48 ≤ (c.toNat : Int)) && decide ((c.toNat : Int) ≤ 57)
def inkB (c : UInt8) : Bool := smlB c || digB c || c.toNat == 45 || c.toNat == 95
def keyB (l : List UInt8) : Bool := match l with
  | [] => false
  | c :: r => decide (r.length < 40) && smlB c && (c :: r).all inkB
theorem smallK_any (c : UInt8) (w : World) : Calls Tryz.prog 67 #[.int .u8 (c.toNat : Int)] w fun e w' => e = .returned (.bool (smlB c)) ∧ w = w' := by
  by_cases h1 : 97 ≤ (c.toNat : Int)
  · by_cases h2 : (c.toNat : Int) ≤ 122
    · have HD := Lib.hid (show smlB c = true by unfold smlB; rw [decide_eq_true h1, decide_eq_true h2]; rfl)
      go_enter Tryz.func67, Tryz.ntmps67
      go_wp2_with fail
      go_ret
      exact ⟨by rw [HD.out]; rfl, rfl⟩
    · have HD := Lib.hid (show smlB c = false by unfold smlB; rw [decide_eq_true h1, decide_eq_false h2]; rfl)
      go_enter Tryz.func67, Tryz.ntmps67
      go_wp2_with fail
      go_ret
      exact ⟨by rw [HD.out]; rfl, rfl⟩
  · have HD := Lib.hid (show smlB c = false by unfold smlB; rw [decide_eq_false h1]; rfl)
    go_enter Tryz.func67, Tryz.ntmps67
    go_wp2_with fail
    go_ret
    exact ⟨by rw [HD.out]; rfl, rfl⟩
theorem digitK_any (c : UInt8) (w : World) : Calls Tryz.prog 125 #[.int .u8 (c.toNat : Int)] w fun e w' => e = .returned (.bool (digB c)) ∧ w = w' := by
  by_cases h1 : 48 ≤ (c.toNat : Int)
  · by_cases h2 : (c.toNat : Int) ≤ 57
    · have HD := Lib.hid (show digB c = true by unfold digB; rw [decide_eq_true h1, decide_eq_true h2]; rfl)
      go_enter Tryz.func125, Tryz.ntmps125
      go_wp2_with fail
      go_ret
      exact ⟨by rw [HD.out]; rfl, rfl⟩
    · have HD := Lib.hid (show digB c = false by unfold digB; rw [decide_eq_true h1, decide_eq_false h2]; rfl)
      go_enter Tryz.func125, Tryz.ntmps125
      go_wp2_with fail
      go_ret
      exact ⟨by rw [HD.out]; rfl, rfl⟩
  · have HD := Lib.hid (show digB c = false by unfold digB; rw [decide_eq_false h1]; rfl)
    go_enter Tryz.func125, Tryz.ntmps125
    go_wp2_with fail
    go_ret
    exact ⟨by rw [HD.out]; rfl, rfl⟩
theorem inKey_any (c : UInt8) (w : World) : Calls Tryz.prog 68 #[.int .u8 (c.toNat : Int)] w fun e w' => e = .returned (.bool (inkB c)) ∧ w = w' := by
  have H1 := fun w => Lib.hid (smallK_any c w)
  have H2 := fun w => Lib.hid (digitK_any c w)
  obtain ⟨r, hr⟩ : ∃ r, r = inkB c := ⟨_, rfl⟩
  rw [← hr]
  unfold inkB at hr
  generalize smlB c = a at *
  generalize digB c = b at *
  cases a
  · cases b
    · by_cases h3 : c.toNat = 45
      · have hd : Hid (r = true) := Lib.hid (by rw [hr, h3]; rfl)
        have h3' : (c.toNat : Int) = 45 := by omega
        generalize (c.toNat : Int) = z at *
        clear hr h3
        subst h3'
        go_enter Tryz.func68, Tryz.ntmps68
        go_wp2_with fail
        refine (H1 _).out.mono ?_
        rintro e w1 ⟨rfl, rfl⟩
        go_wp2_with fail
        refine (H2 _).out.mono ?_
        rintro e w1 ⟨rfl, rfl⟩
        go_wp2_with fail
        go_ret
        exact ⟨by rw [hd.out]; rfl, rfl⟩
      · have hd : Hid (r = (c.toNat == 95)) := Lib.hid (by rw [hr, show (c.toNat == 45) = false by simpa using h3]; rfl)
        have h3' : ((c.toNat : Int) == 45) = false := by simpa using (show ¬ (c.toNat : Int) = 45 by omega)
        have h4 : ((c.toNat : Int) == 95) = (c.toNat == 95) := by rw [Bool.eq_iff_iff, beq_iff_eq, beq_iff_eq]; omega
        generalize (c.toNat == 95) = q at hd h4
        generalize (c.toNat : Int) = z at *
        clear hr h3
        cases q
        all_goals
          go_enter Tryz.func68, Tryz.ntmps68
          go_wp2_with fail
          refine (H1 _).out.mono ?_
          rintro e w1 ⟨rfl, rfl⟩
          go_wp2_with fail
          refine (H2 _).out.mono ?_
          rintro e w1 ⟨rfl, rfl⟩
          go_wp2_with fail
          go_ret
          exact ⟨by rw [hd.out]; rfl, rfl⟩
    · have hd : Hid (r = true) := Lib.hid (by rw [hr]; rfl)
      clear hr
      go_enter Tryz.func68, Tryz.ntmps68
      go_wp2_with fail
      refine (H1 _).out.mono ?_
      rintro e w1 ⟨rfl, rfl⟩
      go_wp2_with fail
      refine (H2 _).out.mono ?_
      rintro e w1 ⟨rfl, rfl⟩
      go_wp2_with fail
      go_ret
      exact ⟨by rw [hd.out]; rfl, rfl⟩
  · have hd : Hid (r = true) := Lib.hid (by rw [hr]; rfl)
    clear hr
    go_enter Tryz.func68, Tryz.ntmps68
    go_wp2_with fail
    refine (H1 _).out.mono ?_
    rintro e w1 ⟨rfl, rfl⟩
    go_wp2_with fail
    go_ret
    exact ⟨by rw [hd.out]; rfl, rfl⟩
end Go.Proofs.YtfbggfpihiegpaaGreatDoor
namespace Go.Proofs.YtfbggfpihiegpaaGreatDoor
open Go.RowKit Go.Shelf

def zRg : Value := .agg #[.bool false, .int .u64 0, .int .u64 0, .bool false, .int .u64 0, .int .u64 0]
def zPf : Value := .agg #[.bool false, .int .u64 0, .int .u64 0, .int .i64 0]
theorem infoRg : (Tryz.prog.info? 107).map (fun i => (i.zero, i.size, i.bytes)) = some (some zRg, 6, 48) := by kernel_rfl
theorem infoPf : (Tryz.prog.info? 41).map (fun i => (i.zero, i.size, i.bytes)) = some (some zPf, 4, 32) := by kernel_rfl
def bsT (t : TypeId) (x : Value) : Sem Next := do
  let v ← Instr.buildSlice t 1 #[(0, x)]
  pure (.value v)
section
variable (ρ : Operand → Value) (dst : Option Tmp) (x : Operand) (ty : TypeId) (pos : String) (after : Array Edge) (guard : Option (Nat × Bool))
@[go_sem ↓ high] theorem execOp_bsRg : execOp ρ ⟨dst, .buildSlice 63 1 #[(0, x)], ty, pos, after, guard⟩ = bsT 63 (ρ x) := by
  simp only [execOp, bsT, List.map_toArray, List.map_cons, List.map_nil]
@[go_sem high] theorem execOp_bsRg' : execOp ρ ⟨dst, .buildSlice 63 1 #[(0, x)], ty, pos, after, guard⟩ = bsT 63 (ρ x) := by
  simp only [execOp, bsT, List.map_toArray, List.map_cons, List.map_nil]
@[go_sem ↓ high] theorem execOp_bsPf : execOp ρ ⟨dst, .buildSlice 83 1 #[(0, x)], ty, pos, after, guard⟩ = bsT 83 (ρ x) := by
  simp only [execOp, bsT, List.map_toArray, List.map_cons, List.map_nil]
@[go_sem high] theorem execOp_bsPf' : execOp ρ ⟨dst, .buildSlice 83 1 #[(0, x)], ty, pos, after, guard⟩ = bsT 83 (ρ x) := by
  simp only [execOp, bsT, List.map_toArray, List.map_cons, List.map_nil]
end
theorem bsT_run {st t : TypeId} {k bytes : Nat} {z : Value} {cs : Array Value} (hu : Tryz.prog.underlying st = some (.slice t)) (hi : (Tryz.prog.info? t).map (fun i => (i.zero, i.size, i.bytes)) = some (some z, k, bytes)) (hk : ¬ 1 * k > 2 ^ 24) (hk0 : ¬ 1 * k = 0)
    (hf : Instr.fill (fun i => some (i * k, k)) ((Array.range (1 * k)).map (z.cells[· % z.cells.size]!)) [(0, .agg cs)] = some cs) (w : World) :
    (bsT st (.agg cs)).run Tryz.prog w = .ok (.value (.slice (some ⟨w.heap.size, 0, none⟩) 1 1)) (w.alloc (.cells cs t)) := by
  obtain ⟨i0, hi0, hz0, hz1, hz2⟩ := info_parts hi
  subst hz1
  unfold bsT
  simp only [Sem.run_bind, run_buildSlice (P := Tryz.prog) w st t 1 #[(0, .agg cs)] cs i0 z hu hi0 hz0 hk hk0 hf, Result.andThen_ok, Sem.run_pure]
@[go_sem] theorem run_bsRg (x : Ad × Ad) (w : World) : (bsT 63 (.agg (rgC x).toArray)).run Tryz.prog w = .ok (.value (.slice (some ⟨w.heap.size, 0, none⟩) 1 1)) (w.alloc (.cells (rgC x).toArray 107)) :=
  bsT_run Tryz.underlying63 infoRg (by decide) (by decide) (by kernel_rfl) w
@[go_sem] theorem run_bsPf (x : Pf) (w : World) : (bsT 83 (.agg (pfC x).toArray)).run Tryz.prog w = .ok (.value (.slice (some ⟨w.heap.size, 0, none⟩) 1 1)) (w.alloc (.cells (pfC x).toArray 41)) :=
  bsT_run Tryz.underlying83 infoPf (by decide) (by decide) (by kernel_rfl) w
theorem tyeRg : Ty eRg 107 63 zRg 48 := ⟨Tryz.underlying63, infoRg, rfl, by decide⟩
abbrev U2 := {x : Ad × Ad // x.1.U ∧ x.2.U}
instance : Inhabited U2 := ⟨⟨(⟨false, 0, 0⟩, ⟨false, 0, 0⟩), ⟨⟨by decide, by decide⟩, ⟨by decide, by decide⟩⟩, ⟨⟨by decide, by decide⟩, ⟨by decide, by decide⟩⟩⟩⟩

def onU (E : Enc (Ad × Ad)) : Enc U2 := ⟨fun x => E.enc x.1, E.k, E.pos, fun x => E.len x.1, fun x => E.one x.1⟩
theorem lift_U : ∀ xs : List (Ad × Ad), (∀ x ∈ xs, x.1.U ∧ x.2.U) → ∃ ys : List U2, xs = ys.map (·.1)
  | [], _ => ⟨[], rfl⟩
  | x :: r, h => by
    obtain ⟨ys, hy⟩ := lift_U r (fun z hz => h z (List.mem_cons_of_mem _ hz))
    exact ⟨⟨x, h x List.mem_cons_self⟩ :: ys, by show x :: r = x :: ys.map _; rw [← hy]⟩
theorem cells_onU (E : Enc (Ad × Ad)) : ∀ ys : List U2, E.cells (ys.map (·.1)) = (onU E).cells ys
  | [] => rfl
  | y :: r => by rw [List.map_cons, E.cells_cons, (onU E).cells_cons, cells_onU E r]; rfl
def cmpU2 (x y : U2) : Int := cmpN x.1.1.n y.1.1.n
theorem ltU2_iff (x y : U2) : ltOf cmpU2 x y = true ↔ x.1.1.n < y.1.1.n := by
  unfold ltOf cmpU2 cmpN
  by_cases h : x.1.1.n < y.1.1.n
  · rw [if_pos h]; exact ⟨fun _ => h, fun _ => by decide⟩
  · rw [if_neg h]
    refine ⟨fun a => ?_, fun a => absurd a h⟩
    exfalso
    by_cases h2 : x.1.1.n = y.1.1.n
    · rw [if_pos h2] at a; cases a
    · rw [if_neg h2] at a; cases a
theorem ltU2_le (x y : U2) (h : ltOf cmpU2 x y = false) : y.1.1.n ≤ x.1.1.n := by
  have := mt (ltU2_iff x y).2 (by rw [h]; decide)
  omega
theorem ltU2_not (x y : U2) (h : y.1.1.n ≤ x.1.1.n) : ltOf cmpU2 x y = false := by
  cases e : ltOf cmpU2 x y
  · rfl
  · have := (ltU2_iff x y).1 e; omega
theorem swo_cmpU2 : Sort.SWO (ltOf cmpU2) where
  irrefl := fun x => ltU2_not x x (Nat.le_refl _)
  trans := fun x y z a b => (ltU2_iff x z).2 (Nat.lt_trans ((ltU2_iff x y).1 a) ((ltU2_iff y z).1 b))
  ntrans := fun x y z a b => ltU2_not x z (Nat.le_trans (ltU2_le y z b) (ltU2_le x y a))

theorem flatK_cells (E : Enc (Ad × Ad)) (ys : List U2) (j : Nat) (hj : j < (ys.toArray.size) * E.k) : ∃ u, ((onU E).cells ys)[j]? = some u ∧ ((onU E).enc ys.toArray[j / E.k]!)[j % E.k]? = some u := by
  have hp := E.pos
  have hq : j / E.k < ys.length := Nat.div_lt_of_lt_mul (by rw [Nat.mul_comm]; simpa using hj)
  have hm : j % E.k < E.k := Nat.mod_lt _ hp
  have hx : ys[j / E.k]? = some ys[j / E.k] := List.getElem?_eq_getElem hq
  have hl : j % E.k < ((onU E).enc ys[j / E.k]).length := by rw [(onU E).len]; exact hm
  refine ⟨((onU E).enc ys[j / E.k])[j % E.k], ?_, ?_⟩
  · have := (onU E).cells_get ys (j / E.k) _ hx (j % E.k) _ (List.getElem?_eq_getElem hl)
    rwa [show j / E.k * (onU E).k + j % E.k = j by rw [Nat.mul_comm]; exact Nat.div_add_mod j E.k] at this
  · rw [getElem!_pos ys.toArray (j / E.k) (by simpa using hq)]
    simp

theorem holdsK_own {E : Enc (Ad × Ad)} {t : TypeId} {w : World} {B g n cap : Nat} {ys : List U2} (h : OwnE E t B w (.slice (some ⟨g, 0, none⟩) n cap) (ys.map (·.1))) : Sort.HoldsK (onU E).enc (onU E).k w g 0 ys.toArray := by
  intro j hj
  have hj' := hj
  rw [Sort.size_flatK] at hj'
  obtain ⟨u, h1, h2⟩ := flatK_cells E ys j (by simpa [onU] using hj')
  rw [Sort.get_flatK _ _ _ _ hj']
  have hc := World.ownsRow.cells h (g := g) rfl j u (by rw [cells_onU]; exact h1)
  rw [Addr.add_lit, Nat.zero_add] at hc
  refine ⟨?_, ?_⟩
  · rw [Nat.zero_add, hc]
    show some u = some (((onU E).enc ys.toArray[j / E.k]!)[j % E.k]!)
    rw [List.getElem!_eq_getElem?_getD, h2]; rfl
  · rcases h.2 with ⟨hv, _⟩ | ⟨g', cap', cur, hv, hg, hh, _⟩
    · cases hv
    · cases hv; exact frozen_of_row w g _ _ _ hh
theorem below_sortK {enc : U2 → List Value} {k : Nat} {w : World} {B g off m : Nat} {d : Array U2} {os : Array Obj} (hg : B ≤ g) (hB : B ≤ w.heap.size) : Below B w (sortWorldK enc k w g off m d os) := by
  refine ⟨rfl, rfl, rfl, size_sortWorldK_c _ _ _ _ _ _ _ _, fun k hk => ?_⟩
  unfold sortWorldK Sort.grow Sort.putRowK Sort.putRow Sort.mapBlock Sort.ahead
  show (w.heap.modify g _ ++ os)[k]? = _
  rw [Array.getElem?_append_left (by simp; omega), Array.getElem?_modify, if_neg (by omega)]
theorem perm_ofU {d d' : Array U2} (h : Sort.PermIn 0 d.size d d') : d'.toList.Perm d.toList := by
  obtain ⟨h1, _, h3⟩ := h
  have a : d'.extract 0 d.size = d' := by rw [← h1]; simp
  have b : d.extract 0 d.size = d := by simp
  rw [a, b] at h3
  exact h3
theorem pairwise_ofU {d : Array U2} {n : Nat} (hn : d.size = n) (h : Sort.SortedIn (ltOf cmpU2) 0 n d) : (d.toList.map (·.1)).Pairwise (fun x y => x.1.n ≤ y.1.n) := by
  rw [List.pairwise_map, List.pairwise_iff_getElem]
  intro i j hi hj hij
  have := ltU2_le _ _ (h i j (Nat.zero_le _) hij (by rw [← hn]; simpa using hj))
  rw [getElem!_pos d i (by simpa using hi), getElem!_pos d j (by simpa using hj)] at this
  simpa using this


set_option maxHeartbeats 2000000 in
theorem isKey_any (l : List UInt8) (w : World) : Calls Tryz.prog 41 #[.string ⟨l.toArray⟩] w fun e w' => e = .returned (.bool (keyB l)) ∧ w' = w := by
  cases l with
  | nil =>
    have hV := Lib.hid (show keyB [] = false from rfl)
    rw [hV.out]
    go_enter Tryz.func41, Tryz.ntmps41
    go_wp2_with fail
    go_ret
    exact ⟨rfl, rfl⟩
  | cons c r =>
    obtain ⟨R, hR⟩ : ∃ R, R = keyB (c :: r) := ⟨_, rfl⟩
    rw [← hR]
    have hR' : R = (decide (r.length < 40) && smlB c && (c :: r).all inkB) := hR
    have hlen : (c :: r).length = r.length + 1 := rfl
    have hemp : (c :: r).isEmpty = false := rfl
    have hk0 : 0 < (⟨(c :: r).toArray⟩ : ByteArray).size := by rw [Lib.size_eq]; exact Nat.succ_pos _
    have hc0 : (⟨(c :: r).toArray⟩ : ByteArray)[0]'hk0 = c := rfl
    generalize hl : c :: r = l at *
    have HS := fun W => Lib.hid (smallK_any c W)
    clear hR
    by_cases h40 : 40 ≤ r.length
    · have hV := Lib.hid (show R = false by rw [hR', decide_eq_false (by omega), Bool.false_and, Bool.false_and])
      have h40' : (40 : Int) < l.length := by omega
      clear hR' HS h40 hl
      go_enter Tryz.func41, Tryz.ntmps41
      go_wp2_with fail
      go_ret
      exact ⟨by rw [hV.out]; rfl, rfl⟩
    · rw [decide_eq_true (show r.length < 40 by omega), Bool.true_and] at hR'
      have h40' : ¬ (40 : Int) < l.length := by omega
      have hpos : 0 < l.length := by omega
      cases hs : smlB c
      · rw [hs, Bool.false_and] at hR'
        rw [hs] at HS
        replace hR' := Lib.hid hR'
        clear hs hl h40 hlen
        go_enter Tryz.func41, Tryz.ntmps41
        go_wp2_with fail
        refine (HS _).out.mono ?_
        rintro e w1 ⟨rfl, rfl⟩
        go_wp2_with fail
        go_ret
        exact ⟨by rw [hR'.out]; rfl, rfl⟩
      · rw [hs, Bool.true_and] at hR'
        rw [hs] at HS
        replace hR' := Lib.hid hR'
        clear hs hl h40 hlen
        go_enter Tryz.func41, Tryz.ntmps41
        go_wp2_with fail
        refine (HS _).out.mono ?_
        rintro e w1 ⟨rfl, rfl⟩
        clear HS hc0
        go_wp2_with fail
        go_loopw [19] (fun vi wr => ∃ k : Nat, k ≤ l.length ∧ vi = .int .i64 k ∧ Hid ((l.take k).all inkB = true) ∧ wr = w) (fun vi _ => l.length - (intOf vi).toNat)
        case atStart => exact ⟨0, Nat.zero_le _, rfl, Lib.hid rfl, rfl⟩
        case round =>
          obtain ⟨k, hk, rfl, hI, rfl⟩ := hrel
          by_cases hlt : k < l.length
          · have hk' : k < (⟨l.toArray⟩ : ByteArray).size := by rw [Lib.size_eq]; exact hlt
            obtain ⟨b, hb⟩ : ∃ b, b = (⟨l.toArray⟩ : ByteArray)[k]'hk' := ⟨_, rfl⟩
            have hbl : l[k]? = some b := by rw [hb, List.getElem?_eq_getElem hlt]; rfl
            have HC := fun W => Lib.hid (inKey_any b W)
            replace hb := hb.symm
            have htk := Lib.hid (all_takeB (p := inkB) hbl hI.out)
            have hbad := Lib.hid (all_badB (p := inkB) hbl)
            clear hbl
            cases hq : inkB b
            · have hY := Lib.hid (hbad.out hq)
              rw [hq] at HC
              clear hq htk hbad
              go_wp2_with fail
              refine (HC _).out.mono ?_
              rintro e w2 ⟨rfl, rfl⟩
              go_wp2_with fail
              go_ret
              exact ⟨by rw [hR'.out, hY.out]; rfl, rfl⟩
            · have hY := Lib.hid (htk.out hq)
              rw [hq] at HC
              clear hq htk hbad
              go_wp2_with fail
              refine (HC _).out.mono ?_
              rintro e w2 ⟨rfl, rfl⟩
              go_wp2_with fail
              go_roundw
              case rel => exact ⟨k + 1, by omega, by go_num, hY, trivial⟩
              case measure => simp [intOf]; omega
          · have hY := Lib.hid (show l.all inkB = true by have := hI.out; rwa [List.take_of_length_le (by omega)] at this)
            go_wp2_with fail
            go_ret
            exact ⟨by rw [hR'.out, hY.out]; rfl, rfl⟩
end Go.Proofs.YtfbggfpihiegpaaGreatDoor
namespace Go.Proofs.YtfbggfpihiegpaaGreatDoor
open Go.RowKit Go.Shelf

section
variable {α : Type} {P : α → Prop}
def onP (P : α → Prop) (E : Enc α) : Enc {x : α // P x} := ⟨fun x => E.enc x.1, E.k, E.pos, fun x => E.len x.1, fun x => E.one x.1⟩
theorem lift_P : ∀ xs : List α, (∀ x ∈ xs, P x) → ∃ ys : List {x : α // P x}, xs = ys.map (·.1)
  | [], _ => ⟨[], rfl⟩
  | x :: r, h => by
    obtain ⟨ys, hy⟩ := lift_P r (fun z hz => h z (List.mem_cons_of_mem _ hz))
    exact ⟨⟨x, h x List.mem_cons_self⟩ :: ys, by show x :: r = x :: ys.map _; rw [← hy]⟩
theorem cells_onP (E : Enc α) : ∀ ys : List {x : α // P x}, E.cells (ys.map (·.1)) = (onP P E).cells ys
  | [] => rfl
  | y :: r => by rw [List.map_cons, E.cells_cons, (onP P E).cells_cons, cells_onP E r]; rfl
variable [Inhabited {x : α // P x}]
theorem flatP_cells (E : Enc α) (ys : List {x : α // P x}) (j : Nat) (hj : j < (ys.toArray.size) * E.k) : ∃ u, ((onP P E).cells ys)[j]? = some u ∧ ((onP P E).enc ys.toArray[j / E.k]!)[j % E.k]? = some u := by
  have hp := E.pos
  have hq : j / E.k < ys.length := Nat.div_lt_of_lt_mul (by rw [Nat.mul_comm]; simpa using hj)
  have hm : j % E.k < E.k := Nat.mod_lt _ hp
  have hx : ys[j / E.k]? = some ys[j / E.k] := List.getElem?_eq_getElem hq
  have hl : j % E.k < ((onP P E).enc ys[j / E.k]).length := by rw [(onP P E).len]; exact hm
  refine ⟨((onP P E).enc ys[j / E.k])[j % E.k], ?_, ?_⟩
  · have := (onP P E).cells_get ys (j / E.k) _ hx (j % E.k) _ (List.getElem?_eq_getElem hl)
    rwa [show j / E.k * (onP P E).k + j % E.k = j by rw [Nat.mul_comm]; exact Nat.div_add_mod j E.k] at this
  · rw [getElem!_pos ys.toArray (j / E.k) (by simpa using hq)]
    simp
theorem holdsP_own {E : Enc α} {t : TypeId} {w : World} {B g n cap : Nat} {ys : List {x : α // P x}} (h : OwnE E t B w (.slice (some ⟨g, 0, none⟩) n cap) (ys.map (·.1))) : Sort.HoldsK (onP P E).enc (onP P E).k w g 0 ys.toArray := by
  intro j hj
  have hj' := hj
  rw [Sort.size_flatK] at hj'
  obtain ⟨u, h1, h2⟩ := flatP_cells E ys j (by simpa [onP] using hj')
  rw [Sort.get_flatK _ _ _ _ hj']
  have hc := World.ownsRow.cells h (g := g) rfl j u (by rw [cells_onP]; exact h1)
  rw [Addr.add_lit, Nat.zero_add] at hc
  refine ⟨?_, ?_⟩
  · rw [Nat.zero_add, hc]
    show some u = some (((onP P E).enc ys.toArray[j / E.k]!)[j % E.k]!)
    rw [List.getElem!_eq_getElem?_getD, h2]; rfl
  · rcases h.2 with ⟨hv, _⟩ | ⟨g', cap', cur, hv, hg, hh, _⟩
    · cases hv
    · cases hv; exact frozen_of_row w g _ _ _ hh
theorem below_sortP {enc : {x : α // P x} → List Value} {k : Nat} {w : World} {B g off m : Nat} {d : Array {x : α // P x}} {os : Array Obj} (hg : B ≤ g) (hB : B ≤ w.heap.size) : Below B w (sortWorldK enc k w g off m d os) := by
  refine ⟨rfl, rfl, rfl, size_sortWorldK_c _ _ _ _ _ _ _ _, fun k hk => ?_⟩
  unfold sortWorldK Sort.grow Sort.putRowK Sort.putRow Sort.mapBlock Sort.ahead
  show (w.heap.modify g _ ++ os)[k]? = _
  rw [Array.getElem?_append_left (by simp; omega), Array.getElem?_modify, if_neg (by omega)]
theorem perm_ofP {d d' : Array {x : α // P x}} (h : Sort.PermIn 0 d.size d d') : d'.toList.Perm d.toList := by
  obtain ⟨h1, _, h3⟩ := h
  have a : d'.extract 0 d.size = d' := by rw [← h1]; simp
  have b : d.extract 0 d.size = d := by simp
  rw [a, b] at h3
  exact h3
theorem own_sortedP {E : Enc α} {t : TypeId} {w : World} {B g n cap : Nat} {ys : List {x : α // P x}} {d' : Array {x : α // P x}} {m : Nat} {os : Array Obj} (h : OwnE E t B w (.slice (some ⟨g, 0, none⟩) n cap) (ys.map (·.1))) (hd : d'.size = ys.length) :
    OwnE E t B (sortWorldK (onP P E).enc (onP P E).k w g 0 m d' os) (.slice (some ⟨g, 0, none⟩) n cap) (d'.toList.map (·.1)) := by
  obtain ⟨h1, h2⟩ := h
  have hlen : (d'.toList.map (·.1)).length = ys.length := by simp [hd]
  have hcl : (E.cells (d'.toList.map (·.1))).length = ys.length * E.k := by rw [E.cells_len, hlen]
  refine ⟨by rw [hcl, hlen], ?_⟩
  rcases h2 with ⟨hv, _⟩ | ⟨g', cap', cur, hv, hB, hh, hn, hc, hsz, htake⟩
  · cases hv
  · cases hv
    rw [List.length_map] at hn htake
    have hg : g < w.heap.size := (Array.getElem?_eq_some_iff.1 hh).1
    refine .inr ⟨g, cap, Sort.putCells id 0 (Sort.flatK (onP P E).enc (onP P E).k d') cur, by rw [hlen, List.length_map], hB, ?_, by rw [hlen]; exact hn, hc, ?_, ?_⟩
    · unfold sortWorldK Sort.grow Sort.putRowK Sort.putRow Sort.mapBlock Sort.ahead
      show (w.heap.modify g _ ++ os)[g]? = _
      rw [Array.getElem?_append_left (by simp; omega), Array.getElem?_modify, if_pos rfl, hh]
      rfl
    · unfold Sort.putCells; rw [Array.size_mapIdx]; exact hsz
    · have hfs : (Sort.flatK (onP P E).enc (onP P E).k d').size = ys.length * E.k := by rw [Sort.size_flatK, hd]; rfl
      have hle : ys.length * E.k ≤ cur.size := by rw [hsz]; exact Nat.mul_le_mul_right _ hn
      rw [hlen]
      apply List.ext_getElem
      · have e3 : (Sort.putCells id 0 (Sort.flatK (onP P E).enc (onP P E).k d') cur).toList.length = cur.size := by unfold Sort.putCells; simp
        rw [List.length_take, e3, hcl]
        omega
      · intro j j1 j2
        rw [hcl] at j2
        rw [List.getElem_take, Array.getElem_toList]
        unfold Sort.putCells
        rw [Array.getElem_mapIdx, if_pos ⟨Nat.zero_le _, by rw [hfs]; omega⟩, Nat.sub_zero]
        have hj' : j < (Sort.flatK (onP P E).enc (onP P E).k d').size := by rw [hfs]; exact j2
        have hj2 := hj'
        rw [Sort.size_flatK] at hj2
        rw [Sort.get_flatK _ _ _ _ hj2]
        obtain ⟨u, k1, k2⟩ := flatP_cells E d'.toList j (by rw [Sort.size_flatK] at hj'; simpa [onP] using hj')
        have k3 : (E.cells (d'.toList.map (·.1)))[j]? = some u := by rw [cells_onP]; exact k1
        have e : (E.cells (d'.toList.map (·.1)))[j] = u := by
          have := (List.getElem?_eq_some_iff.1 k3).2
          exact this
        rw [e]
        have e2 : d'.toList.toArray = d' := by simp
        rw [e2] at k2
        show id (((onP P E).enc d'[j / E.k]!)[j % E.k]!) = u
        rw [List.getElem!_eq_getElem?_getD, k2]; rfl
end

/-! Orders. -/
structure Cm {α : Type} (f : α → α → Int) : Prop where
  anti : ∀ x y, f y x = - f x y
  trans : ∀ x y z, f x y ≤ 0 → f y z ≤ 0 → f x z ≤ 0
theorem Cm.self {α : Type} {f : α → α → Int} (h : Cm f) (x : α) : f x x = 0 := by have := h.anti x x; omega
theorem Cm.lt {α : Type} {f : α → α → Int} (h : Cm f) {x y z : α} (a : f x y ≤ 0) (b : f y z ≤ 0) (c : f x y < 0 ∨ f y z < 0) : f x z < 0 := by
  have h1 := h.trans _ _ _ a b
  rcases Int.lt_or_eq_of_le h1 with k | k
  · exact k
  · exfalso
    have e := h.anti x z
    have t1 := h.trans z x y (by omega) a
    have t2 := h.trans y z x b (by omega)
    have e1 := h.anti y z
    have e2 := h.anti x y
    omega
def thn {α : Type} (f g : α → α → Int) (x y : α) : Int := if f x y = 0 then g x y else f x y
theorem Cm.thn {α : Type} {f g : α → α → Int} (hf : Cm f) (hg : Cm g) : Cm (thn f g) where
  anti := fun x y => by
    unfold Proofs.YtfbggfpihiegpaaGreatDoor.thn
    have e := hf.anti x y
    by_cases h : f x y = 0
    · rw [if_pos h, if_pos (by omega)]; exact hg.anti x y
    · rw [if_neg h, if_neg (by omega)]; exact e
  trans := fun x y z a b => by
    unfold Proofs.YtfbggfpihiegpaaGreatDoor.thn at a b ⊢
    have a' : f x y ≤ 0 := by split at a <;> omega
    have b' : f y z ≤ 0 := by split at b <;> omega
    by_cases h1 : f x y = 0
    · by_cases h2 : f y z = 0
      · have e : f x z = 0 := by
          have t1 := hf.trans x y z a' b'
          have e1 := hf.anti x y
          have e2 := hf.anti y z
          have e3 := hf.anti x z
          have t2 := hf.trans z y x (by omega) (by omega)
          omega
        rw [if_pos e]
        rw [if_pos h1] at a
        rw [if_pos h2] at b
        exact hg.trans x y z a b
      · have := hf.lt a' b' (.inr (by omega))
        rw [if_neg (by omega)]; omega
    · have := hf.lt a' b' (.inl (by omega))
      rw [if_neg (by omega)]; omega
theorem Cm.on {α β : Type} {f : β → β → Int} (h : Cm f) (p : α → β) : Cm (fun x y => f (p x) (p y)) := ⟨fun x y => h.anti _ _, fun x y z => h.trans _ _ _⟩
theorem cmpN_anti (x y : Nat) : cmpN y x = - cmpN x y := by
  unfold cmpN
  by_cases h1 : x < y
  · rw [if_pos h1, if_neg (by omega), if_neg (by omega)]; rfl
  · rw [if_neg h1]
    by_cases h2 : x = y
    · rw [if_pos h2, if_neg (by omega), if_pos h2.symm]; rfl
    · rw [if_neg h2, if_pos (by omega)]
theorem cm_n : Cm cmpN := ⟨cmpN_anti, fun x y z a b => by
  unfold cmpN at a b ⊢
  (repeat' split at a) <;> (repeat' split at b) <;> (repeat' split) <;> omega⟩
end Go.Proofs.YtfbggfpihiegpaaGreatDoor
