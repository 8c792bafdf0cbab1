/- Sets: clones and sorts of ranges and spans. -/
import Derived.Test.YtfpcalgkfagjkaaGreatDoorKrGzA
import Derived.Test.YtfpcalgkfagjkaaGreatDoorKrStE
import Derived.Test.YtfpcalgkfagjkaaGreatDoorKrTxtJ
import Derived.Test.YtfpcalgkfagjkaaGreatDoorKrShelf
import Derived.Shelf.Spec.TrailingZeros
import Derived.Shelf.Spec.BitsCarry
import Derived.Shelf.SlSortCmp.WholeK
import Derived.Shelf.SlSortCmp.NoneTotal
import Derived.Lib.Small
import Derived.Great.BuildSlice
set_option linter.unusedVariables false
set_option linter.unusedSimpArgs false
namespace Go.Proofs.YtfpcalgkfagjkaaGreatDoor
open Go.RowKit

def GivesD (v : Value) (w : World) (e : Ending) (w' : World) : Prop := e = .returned v ∧ Gd w w'
theorem GivesD.v {v : Value} {w : World} {e : Ending} {w' : World} (h : GivesD v w e w') : GivesV v w e w' := ⟨h.1, h.2.below⟩

theorem orI_blk (l : List Int) (p cap : Nat) (w : World) (t : TypeId) (h : Blk w p (l.map (Value.int .i64)) t) (hl : l.length ≤ 100) :
    Calls Tryz.prog 75 #[.slice (some ⟨p, 0, none⟩) l.length cap] w fun e w' => e = .returned (.int .i64 (firstZ l)) ∧ w = w' :=
  orI_any l p cap w (fun i hi => h.cell (by simp [List.getElem?_eq_getElem hi])) hl

set_option linter.unusedSimpArgs false in
set_option maxHeartbeats 1000000 in
theorem spanCmp_d (a b : Ad) (w : World) (ha : a.U) (hb : b.U) :
    Calls Tryz.prog 64 #[adA a, adA b] w (GivesD (.int .i64 (cmpN a.n b.n)) w) := by
  have HR0 := cmpW_cmpN ha hb
  obtain ⟨⟨h1, h2⟩, ⟨h3, h4⟩⟩ := ha
  obtain ⟨⟨k1, k2⟩, ⟨k3, k4⟩⟩ := hb
  generalize cmpN a.n b.n = c at HR0 ⊢
  obtain ⟨s, hi, lo⟩ := a
  obtain ⟨t, h, l⟩ := b
  replace HR0 : cmpW (num hi lo) s (num h l) t = c := HR0
  show Calls Tryz.prog 64 #[.agg #[.bool s, .int .u64 hi, .int .u64 lo], .agg #[.bool t, .int .u64 h, .int .u64 l]] w (GivesD (.int .i64 c) w)
  simp only at h1 h2 h3 h4 k1 k2 k3 k4
  have HF : Hid (∀ u, ((w.alloc (.cells #[.bool s, .int .u64 hi, .int .u64 lo] 30)).alloc (.cells #[.bool t, .int .u64 h, .int .u64 l] 30)).grownBy u none → _) :=
    Lib.hid fun u hu => And.intro ((blk2 w [.bool s, .int .u64 hi, .int .u64 lo] [.bool t, .int .u64 h, .int .u64 l] _ _).1.gn hu).three ((blk2 w [.bool s, .int .u64 hi, .int .u64 lo] [.bool t, .int .u64 h, .int .u64 l] _ _).2.gn hu).three
  have hG : Gd w ((w.alloc (.cells #[.bool s, .int .u64 hi, .int .u64 lo] 30)).alloc (.cells #[.bool t, .int .u64 h, .int .u64 l] 30)) := ((Gd.refl w).alloc _).alloc _
  have hB := Gd.refl ((w.alloc (.cells #[.bool s, .int .u64 hi, .int .u64 lo] 30)).alloc (.cells #[.bool t, .int .u64 h, .int .u64 l] 30))
  obtain ⟨⟨c0, c1, c2, _⟩, ⟨d0, d1, d2, _⟩⟩ := HF.out _ hB.1
  by_cases hst : s = t
  · subst hst
    have HR := Lib.hid ((cmpW_halves hi lo h l s h1 h2 h3 h4 k1 k2 k3 k4).trans HR0)
    clear HR0
    go_enter Tryz.func64, Tryz.ntmps64
    go_wp2_with fail
    refine wd_begin [] (by kernel_rfl) (fun u0 hb0' hz0' => ?_)
    replace hB := hB.trans hb0'
    clear hb0' hz0'
    refine wd_pureZ 0 (some 12) (v := ?_) ?_ ?_; rotate_left; · (intro u; go_simp; try with_reducible rfl)
    try simp only [Act.put, gzD, gzE, gzF]
    refine wd_takeZ 1 (some 13) (v := ?_) ?_ ?_; rotate_left; · (intro u hu; obtain ⟨⟨c0, c1, c2, _⟩, ⟨d0, d1, d2, _⟩⟩ := HF.out u (hB.trans hu).1; go_simp; try with_reducible rfl)
    try simp only [Act.put, gzD, gzE, gzF]
    refine wd_pureZ 2 (some 14) (v := ?_) ?_ ?_; rotate_left; · (intro u; go_simp; try with_reducible rfl)
    try simp only [Act.put, gzD, gzE, gzF]
    refine wd_takeZ 3 (some 15) (v := ?_) ?_ ?_; rotate_left; · (intro u hu; obtain ⟨⟨c0, c1, c2, _⟩, ⟨d0, d1, d2, _⟩⟩ := HF.out u (hB.trans hu).1; go_simp; try with_reducible rfl)
    try simp only [Act.put, gzD, gzE, gzF]
    refine wd_pureZ 5 (some 17) (v := ?_) ?_ ?_; rotate_left; · (intro u; go_simp; try with_reducible rfl)
    try simp only [Act.put, gzD, gzE, gzF]
    refine wd_takeZ 6 (some 18) (v := ?_) ?_ ?_; rotate_left; · (intro u hu; obtain ⟨⟨c0, c1, c2, _⟩, ⟨d0, d1, d2, _⟩⟩ := HF.out u (hB.trans hu).1; go_simp; try with_reducible rfl)
    try simp only [Act.put, gzD, gzE, gzF]
    refine wd_pureZ 7 (some 19) (v := ?_) ?_ ?_; rotate_left; · (intro u; go_simp; try with_reducible rfl)
    try simp only [Act.put, gzD, gzE, gzF]
    refine wd_takeZ 8 (some 20) (v := ?_) ?_ ?_; rotate_left; · (intro u hu; obtain ⟨⟨c0, c1, c2, _⟩, ⟨d0, d1, d2, _⟩⟩ := HF.out u (hB.trans hu).1; go_simp; try with_reducible rfl)
    try simp only [Act.put, gzD, gzE, gzF]
    refine wd_oneZ 4 (fun K hK => ?_)
    go_simp
    refine (cmpU_any _ _ _).mono ?_
    rintro e w' ⟨rfl, rfl⟩
    refine hK _ _ (Gd.refl _) ?_
    clear hK K
    try simp only [Act.put, gzD, gzE, gzF]
    refine wd_oneZ 9 (fun K hK => ?_)
    go_simp
    refine (cmpU_any _ _ _).mono ?_
    rintro e w' ⟨rfl, rfl⟩
    refine hK _ _ (Gd.refl _) ?_
    clear hK K
    try simp only [Act.put, gzD, gzE, gzF]
    refine wd_oneZ 10 (fun K hK => ?_)
    go_simp
    refine hK _ _ ((Gd.refl _).alloc _) ?_
    clear hK K
    refine wd_new (cs := [cmpZ hi h, cmpZ lo l].map (Value.int .i64)) (fun u1 hd1 hq1 hz1 => ?_)
    replace hB := hB.trans hd1
    try simp only [Act.put, gzD, gzE, gzF]
    refine wd_oneZ 11 (fun K hK => ?_)
    go_simp
    refine (orI_blk [cmpZ hi h, cmpZ lo l] _ _ _ _ hq1 (by simp)).mono ?_
    rintro e w' ⟨rfl, rfl⟩
    refine hK _ _ (Gd.refl _) ?_
    clear hK K
    try simp only [Act.put, gzD, gzE, gzF]
    refine wd_pureZ 12 (some 4) (v := ?_) ?_ ?_; rotate_left; · (intro u; go_simp; try with_reducible rfl)
    try simp only [Act.put, gzD, gzE, gzF]
    refine wd_done (by kernel_rfl) ?_ _
    go_wp2_with fail
    go_ret
    exact ⟨ret_i64 HR.out, hG.trans hB⟩
  · have HR := Lib.hid (HR0.symm.trans (show cmpW (num hi lo) s (num h l) t = if t then -1 else 1 from if_neg hst))
    have b0 : (s == t) = false := by simp [hst]
    clear hst HR0
    cases t
    · go_enter Tryz.func64, Tryz.ntmps64
      go_wp2_with fail
      go_ret
      exact ⟨ret_i64 HR.out.symm, hG⟩
    · go_enter Tryz.func64, Tryz.ntmps64
      go_wp2_with fail
      go_ret
      exact ⟨ret_i64 HR.out.symm, hG⟩

theorem two_new (w : World) (cs ds : List Value) (t te : TypeId) : Blk ((w.alloc (.cells cs.toArray t)).alloc (.cells ds.toArray te)) w.heap.size cs t ∧ Blk ((w.alloc (.cells cs.toArray t)).alloc (.cells ds.toArray te)) (w.heap.size + 1) ds te := blk2 w cs ds t te

theorem cmpN_step (A B j : Nat) (hq : A / 2 ^ (16 * (j + 1)) = B / 2 ^ (16 * (j + 1))) :
    (dig A j = dig B j → A / 2 ^ (16 * j) = B / 2 ^ (16 * j)) ∧ (dig A j ≠ dig B j → sgn ((dig A j : Int) - dig B j) = cmpN A B) := by
  obtain ⟨p1, p2, p3⟩ := top_step A B j hq
  refine ⟨p1, fun h => ?_⟩
  unfold cmpN sgn
  rcases Nat.lt_or_ge (dig A j) (dig B j) with g | g
  · rw [if_pos (by omega), if_pos (p2 g)]
  · have g' : dig B j < dig A j := by omega
    have := p3 g'
    rw [if_neg (by omega), if_pos (by omega), if_neg (by omega), if_neg (by omega)]
theorem digN_get (W j : Nat) (hj : j < 9) : (digN W)[j]? = some (.int .i64 (dig W j)) := by
  match j, hj with
  | 0, _ => rfl
  | 1, _ => rfl
  | 2, _ => rfl
  | 3, _ => rfl
  | 4, _ => rfl
  | 5, _ => rfl
  | 6, _ => rfl
  | 7, _ => rfl
  | 8, _ => rfl
set_option maxHeartbeats 2000000 in
theorem wcmp_d (A B : Nat) (w : World) (hA : A < 2 ^ 144) (hB : B < 2 ^ 144) :
    Calls Tryz.prog 49 #[wA A, wA B] w (GivesD (.int .i64 (cmpN A B)) w) := by
  obtain ⟨hl1, hl2⟩ := two_new w (digN A) (digN B) 77 77
  have hG : Gd w ((w.alloc (.cells (digN A).toArray 77)).alloc (.cells (digN B).toArray 77)) := ((Gd.refl w).alloc _).alloc _
  go_enter Tryz.func49, Tryz.ntmps49
  go_wp2_with fail
  go_loopw [5] (fun c wr => ∃ m : Int, -1 ≤ m ∧ m ≤ 8 ∧ c = .int .i64 m ∧ A / 2 ^ (16 * (m + 1).toNat) = B / 2 ^ (16 * (m + 1).toNat) ∧ Blk wr w.heap.size (digN A) 77 ∧ Blk wr (w.heap.size + 1) (digN B) 77 ∧ Gd w wr) (fun c _ => (intOf c + 1).toNat)
  case atStart =>
    refine ⟨8, by omega, by omega, rfl, ?_, hl1, hl2, hG⟩
    show A / 2 ^ 144 = B / 2 ^ 144
    rw [Nat.div_eq_of_lt hA, Nat.div_eq_of_lt hB]
  case round =>
    clear hl1 hl2 hG
    obtain ⟨m, hm1, hm2, rfl, hq, hx, hy, hb⟩ := hrel
    by_cases h0 : m < 0
    · have H := Lib.hid (show cmpN A B = 0 by
        obtain rfl : m = -1 := by omega
        have hq' : A / 2 ^ 0 = B / 2 ^ 0 := hq
        simp at hq'
        unfold cmpN; rw [if_neg (by omega), if_pos hq'])
      clear hq
      go_wp2_with fail
      go_ret
      exact ⟨ret_i64 H.out.symm, hb⟩
    · obtain ⟨j, rfl⟩ := Int.eq_ofNat_of_zero_le (show 0 ≤ m by omega)
      rw [show ((j : Int) + 1).toNat = j + 1 by omega] at hq
      obtain ⟨e1, e2⟩ := cmpN_step A B j hq
      have d1 := digN_get A j (by omega)
      have d2 := digN_get B j (by omega)
      have l1 := dig_lt A j
      have l2 := dig_lt B j
      have hj0 : (0 : Int) ≤ j := by omega
      have hj9 : (j : Int) < 9 := by omega
      have hB := Gd.refl wr
      by_cases hXY : dig A j = dig B j
      · have E1 := Lib.hid (e1 hXY)
        have c0 : (((dig A j : Nat) : Int) != ((dig B j : Nat) : Int)) = false := by simp [hXY]
        clear hq e1 e2 hXY l1 l2
        generalize ((dig A j : Nat) : Int) = X at *
        generalize ((dig B j : Nat) : Int) = Y at *
        go_wp2_with fail
        refine wd_begin [] (by kernel_rfl) (fun u0 hb0' hz0' => ?_)
        replace hB := hB.trans hb0'
        clear hb0' hz0'
        refine wd_pureZ 0 (some 10) (v := ?_) ?_ ?_; rotate_left; · (intro u; go_simp; try with_reducible rfl)
        try simp only [Act.put, gzD, gzE, gzF]
        refine wd_pureZ 1 (some 11) (v := ?_) ?_ ?_; rotate_left; · (intro u; go_simp; try with_reducible rfl)
        try simp only [Act.put, gzD, gzE, gzF]
        refine wd_takeZ 2 (some 12) (v := ?_) ?_ ?_; rotate_left; · (intro u hu; have x0 := (hx.below (hB.trans hu).below).cell d1; have y0 := (hy.below (hB.trans hu).below).cell d2; go_simp; try with_reducible rfl)
        try simp only [Act.put, gzD, gzE, gzF]
        refine wd_pureZ 3 (some 13) (v := ?_) ?_ ?_; rotate_left; · (intro u; go_simp; try with_reducible rfl)
        try simp only [Act.put, gzD, gzE, gzF]
        refine wd_pureZ 4 (some 14) (v := ?_) ?_ ?_; rotate_left; · (intro u; go_simp; try with_reducible rfl)
        try simp only [Act.put, gzD, gzE, gzF]
        refine wd_takeZ 5 (some 15) (v := ?_) ?_ ?_; rotate_left; · (intro u hu; have x0 := (hx.below (hB.trans hu).below).cell d1; have y0 := (hy.below (hB.trans hu).below).cell d2; go_simp; try with_reducible rfl)
        try simp only [Act.put, gzD, gzE, gzF]
        refine wd_pureZ 6 (some 16) (v := ?_) ?_ ?_; rotate_left; · (intro u; go_simp; try with_reducible rfl)
        try simp only [Act.put, gzD, gzE, gzF]
        refine wd_done (by kernel_rfl) ?_ _
        go_wp2_with fail
        refine ⟨⟨(j : Int) - 1, by omega, by omega, rfl, ?_, hx.below hB.below, hy.below hB.below, hb.trans hB⟩, by simp [intOf]⟩
        rw [show ((j : Int) - 1 + 1).toNat = j by omega]
        exact E1.out
      · have H := Lib.hid (e2 hXY)
        have c0 : (((dig A j : Nat) : Int) != ((dig B j : Nat) : Int)) = true := by simp; omega
        have hS : IntKind.i64.wrap (((dig A j : Nat) : Int) - ((dig B j : Nat) : Int)) = ((dig A j : Nat) : Int) - ((dig B j : Nat) : Int) := IntWalk.i64_in _ (by omega)
        clear hq e1 e2 hXY l1 l2
        generalize ((dig A j : Nat) : Int) = X at *
        generalize ((dig B j : Nat) : Int) = Y at *
        go_wp2_with fail
        refine wd_begin [] (by kernel_rfl) (fun u0 hb0' hz0' => ?_)
        replace hB := hB.trans hb0'
        clear hb0' hz0'
        refine wd_pureZ 0 (some 10) (v := ?_) ?_ ?_; rotate_left; · (intro u; go_simp; try with_reducible rfl)
        try simp only [Act.put, gzD, gzE, gzF]
        refine wd_pureZ 1 (some 11) (v := ?_) ?_ ?_; rotate_left; · (intro u; go_simp; try with_reducible rfl)
        try simp only [Act.put, gzD, gzE, gzF]
        refine wd_takeZ 2 (some 12) (v := ?_) ?_ ?_; rotate_left; · (intro u hu; have x0 := (hx.below (hB.trans hu).below).cell d1; have y0 := (hy.below (hB.trans hu).below).cell d2; go_simp; try with_reducible rfl)
        try simp only [Act.put, gzD, gzE, gzF]
        refine wd_pureZ 3 (some 13) (v := ?_) ?_ ?_; rotate_left; · (intro u; go_simp; try with_reducible rfl)
        try simp only [Act.put, gzD, gzE, gzF]
        refine wd_pureZ 4 (some 14) (v := ?_) ?_ ?_; rotate_left; · (intro u; go_simp; try with_reducible rfl)
        try simp only [Act.put, gzD, gzE, gzF]
        refine wd_takeZ 5 (some 15) (v := ?_) ?_ ?_; rotate_left; · (intro u hu; have x0 := (hx.below (hB.trans hu).below).cell d1; have y0 := (hy.below (hB.trans hu).below).cell d2; go_simp; try with_reducible rfl)
        try simp only [Act.put, gzD, gzE, gzF]
        refine wd_pureZ 6 (some 16) (v := ?_) ?_ ?_; rotate_left; · (intro u; go_simp; try with_reducible rfl)
        try simp only [Act.put, gzD, gzE, gzF]
        refine wd_done (by kernel_rfl) ?_ _
        go_wp2_with fail
        refine wd_begin [] (by kernel_rfl) (fun u0 hb0' hz0' => ?_)
        replace hB := hB.trans hb0'
        clear hb0' hz0'
        refine wd_pureZ 0 (some 17) (v := ?_) ?_ ?_; rotate_left; · (intro u; go_simp; try with_reducible rfl)
        try simp only [Act.put, gzD, gzE, gzF]
        refine wd_pureZ 1 (some 18) (v := ?_) ?_ ?_; rotate_left; · (intro u; go_simp; try with_reducible rfl)
        try simp only [Act.put, gzD, gzE, gzF]
        refine wd_takeZ 2 (some 19) (v := ?_) ?_ ?_; rotate_left; · (intro u hu; have x0 := (hx.below (hB.trans hu).below).cell d1; have y0 := (hy.below (hB.trans hu).below).cell d2; go_simp; try with_reducible rfl)
        try simp only [Act.put, gzD, gzE, gzF]
        refine wd_pureZ 3 (some 20) (v := ?_) ?_ ?_; rotate_left; · (intro u; go_simp; try with_reducible rfl)
        try simp only [Act.put, gzD, gzE, gzF]
        refine wd_pureZ 4 (some 21) (v := ?_) ?_ ?_; rotate_left; · (intro u; go_simp; try with_reducible rfl)
        try simp only [Act.put, gzD, gzE, gzF]
        refine wd_takeZ 5 (some 22) (v := ?_) ?_ ?_; rotate_left; · (intro u hu; have x0 := (hx.below (hB.trans hu).below).cell d1; have y0 := (hy.below (hB.trans hu).below).cell d2; go_simp; try with_reducible rfl)
        try simp only [Act.put, gzD, gzE, gzF]
        refine wd_pureZ 6 (some 23) (v := ?_) ?_ ?_; rotate_left; · (intro u; go_simp; try with_reducible rfl)
        try simp only [Act.put, gzD, gzE, gzF]
        refine wd_oneZ 7 (fun K hK => ?_)
        go_simp
        refine (sign_any _ _).mono ?_
        rintro e w' ⟨rfl, rfl⟩
        refine hK _ _ (Gd.refl _) ?_
        clear hK K
        try simp only [Act.put, gzD, gzE, gzF]
        refine wd_pureZ 8 (some 4) (v := ?_) ?_ ?_; rotate_left; · (intro u; go_simp; try with_reducible rfl)
        try simp only [Act.put, gzD, gzE, gzF]
        refine wd_done (by kernel_rfl) ?_ _
        go_wp2_with fail
        go_ret
        exact ⟨ret_i64 H.out, hb.trans hB⟩


def Tz (w : World) : Prop := Go.Proofs.TabAt 5 Lib.deBruijn64tab w ∧ 5 < w.heap.size
theorem Tz.below {w w' : World} (h : Tz w) (hb : Below w.heap.size w w') : Tz w' :=
  ⟨fun j hj => (hb.cell (p := ⟨5, j, none⟩) h.2).trans (h.1 j hj), Nat.lt_of_lt_of_le h.2 hb.size⟩
theorem Tz.alloc {w : World} (h : Tz w) (o : Obj) : Tz (w.alloc o) := h.below ((Below.refl _ _).alloc (Nat.le_refl _) _)
theorem Tz.upto {w w' : World} {B : Nat} (h : Tz w) (hb : Below B w w') (hB : 5 < B) : Tz w' :=
  ⟨fun j hj => (hb.cell (p := ⟨5, j, none⟩) hB).trans (h.1 j hj), Nat.lt_of_lt_of_le h.2 hb.size⟩

end Go.Proofs.YtfpcalgkfagjkaaGreatDoor
namespace Go.Proofs.YtfpcalgkfagjkaaGreatDoor
open Go.RowKit Go.Shelf

def zRg : Value := .agg #[.bool false, .int .u64 0, .int .u64 0, .bool false, .int .u64 0, .int .u64 0]
theorem infoRg : (Tryz.prog.info? 95).map (fun i => (i.zero, i.size, i.bytes)) = some (some zRg, 6, 48) := by kernel_rfl
def bsT (t : TypeId) (x : Value) : Sem Next := do
  let v ← Instr.buildSlice t 1 #[(0, x)]
  pure (.value v)
section
variable (ρ : Operand → Value) (dst : Option Tmp) (x : Operand) (ty : TypeId) (pos : String) (after : Array Edge) (guard : Option (Nat × Bool))
@[go_sem ↓ high] theorem execOp_bsRg : execOp ρ ⟨dst, .buildSlice 67 1 #[(0, x)], ty, pos, after, guard⟩ = bsT 67 (ρ x) := by
  simp only [execOp, bsT, List.map_toArray, List.map_cons, List.map_nil]
@[go_sem high] theorem execOp_bsRg' : execOp ρ ⟨dst, .buildSlice 67 1 #[(0, x)], ty, pos, after, guard⟩ = bsT 67 (ρ x) := by
  simp only [execOp, bsT, List.map_toArray, List.map_cons, List.map_nil]
end
theorem bsT_run {st t : TypeId} {k bytes : Nat} {z : Value} {cs : Array Value} (hu : Tryz.prog.underlying st = some (.slice t)) (hi : (Tryz.prog.info? t).map (fun i => (i.zero, i.size, i.bytes)) = some (some z, k, bytes)) (hk : ¬ 1 * k > 2 ^ 24) (hk0 : ¬ 1 * k = 0)
    (hf : Instr.fill (fun i => some (i * k, k)) ((Array.range (1 * k)).map (z.cells[· % z.cells.size]!)) [(0, .agg cs)] = some cs) (w : World) :
    (bsT st (.agg cs)).run Tryz.prog w = .ok (.value (.slice (some ⟨w.heap.size, 0, none⟩) 1 1)) (w.alloc (.cells cs t)) := by
  obtain ⟨i0, hi0, hz0, hz1, hz2⟩ := info_parts hi
  subst hz1
  unfold bsT
  simp only [Sem.run_bind, run_buildSlice (P := Tryz.prog) w st t 1 #[(0, .agg cs)] cs i0 z hu hi0 hz0 hk hk0 hf, Result.andThen_ok, Sem.run_pure]
@[go_sem] theorem run_bsRg (x : Ad × Ad) (w : World) : (bsT 67 (.agg (rgC x).toArray)).run Tryz.prog w = .ok (.value (.slice (some ⟨w.heap.size, 0, none⟩) 1 1)) (w.alloc (.cells (rgC x).toArray 95)) :=
  bsT_run Tryz.underlying67 infoRg (by decide) (by decide) (by kernel_rfl) w
theorem tyeRg : Ty eRg 95 67 zRg 48 := ⟨Tryz.underlying67, infoRg, rfl, by decide⟩
abbrev U2 := {x : Ad × Ad // x.1.U ∧ x.2.U}
instance : Inhabited U2 := ⟨⟨(⟨false, 0, 0⟩, ⟨false, 0, 0⟩), ⟨⟨by decide, by decide⟩, ⟨by decide, by decide⟩⟩, ⟨⟨by decide, by decide⟩, ⟨by decide, by decide⟩⟩⟩⟩

def onU (E : Enc (Ad × Ad)) : Enc U2 := ⟨fun x => E.enc x.1, E.k, E.pos, fun x => E.len x.1, fun x => E.one x.1⟩
theorem lift_U : ∀ xs : List (Ad × Ad), (∀ x ∈ xs, x.1.U ∧ x.2.U) → ∃ ys : List U2, xs = ys.map (·.1)
  | [], _ => ⟨[], rfl⟩
  | x :: r, h => by
    obtain ⟨ys, hy⟩ := lift_U r (fun z hz => h z (List.mem_cons_of_mem _ hz))
    exact ⟨⟨x, h x List.mem_cons_self⟩ :: ys, by show x :: r = x :: ys.map _; rw [← hy]⟩
theorem cells_onU (E : Enc (Ad × Ad)) : ∀ ys : List U2, E.cells (ys.map (·.1)) = (onU E).cells ys
  | [] => rfl
  | y :: r => by rw [List.map_cons, E.cells_cons, (onU E).cells_cons, cells_onU E r]; rfl
def cmpU2 (x y : U2) : Int := cmpN x.1.1.n y.1.1.n
theorem ltU2_iff (x y : U2) : ltOf cmpU2 x y = true ↔ x.1.1.n < y.1.1.n := by
  unfold ltOf cmpU2 cmpN
  by_cases h : x.1.1.n < y.1.1.n
  · rw [if_pos h]; exact ⟨fun _ => h, fun _ => by decide⟩
  · rw [if_neg h]
    refine ⟨fun a => ?_, fun a => absurd a h⟩
    exfalso
    by_cases h2 : x.1.1.n = y.1.1.n
    · rw [if_pos h2] at a; cases a
    · rw [if_neg h2] at a; cases a
theorem ltU2_le (x y : U2) (h : ltOf cmpU2 x y = false) : y.1.1.n ≤ x.1.1.n := by
  have := mt (ltU2_iff x y).2 (by rw [h]; decide)
  omega
theorem ltU2_not (x y : U2) (h : y.1.1.n ≤ x.1.1.n) : ltOf cmpU2 x y = false := by
  cases e : ltOf cmpU2 x y
  · rfl
  · have := (ltU2_iff x y).1 e; omega
theorem swo_cmpU2 : Sort.SWO (ltOf cmpU2) where
  irrefl := fun x => ltU2_not x x (Nat.le_refl _)
  trans := fun x y z a b => (ltU2_iff x z).2 (Nat.lt_trans ((ltU2_iff x y).1 a) ((ltU2_iff y z).1 b))
  ntrans := fun x y z a b => ltU2_not x z (Nat.le_trans (ltU2_le y z b) (ltU2_le x y a))

theorem flatK_cells (E : Enc (Ad × Ad)) (ys : List U2) (j : Nat) (hj : j < (ys.toArray.size) * E.k) : ∃ u, ((onU E).cells ys)[j]? = some u ∧ ((onU E).enc ys.toArray[j / E.k]!)[j % E.k]? = some u := by
  have hp := E.pos
  have hq : j / E.k < ys.length := Nat.div_lt_of_lt_mul (by rw [Nat.mul_comm]; simpa using hj)
  have hm : j % E.k < E.k := Nat.mod_lt _ hp
  have hx : ys[j / E.k]? = some ys[j / E.k] := List.getElem?_eq_getElem hq
  have hl : j % E.k < ((onU E).enc ys[j / E.k]).length := by rw [(onU E).len]; exact hm
  refine ⟨((onU E).enc ys[j / E.k])[j % E.k], ?_, ?_⟩
  · have := (onU E).cells_get ys (j / E.k) _ hx (j % E.k) _ (List.getElem?_eq_getElem hl)
    rwa [show j / E.k * (onU E).k + j % E.k = j by rw [Nat.mul_comm]; exact Nat.div_add_mod j E.k] at this
  · rw [getElem!_pos ys.toArray (j / E.k) (by simpa using hq)]
    simp

theorem holdsK_own {E : Enc (Ad × Ad)} {t : TypeId} {w : World} {B g n cap : Nat} {ys : List U2} (h : OwnE E t B w (.slice (some ⟨g, 0, none⟩) n cap) (ys.map (·.1))) : Sort.HoldsK (onU E).enc (onU E).k w g 0 ys.toArray := by
  intro j hj
  have hj' := hj
  rw [Sort.size_flatK] at hj'
  obtain ⟨u, h1, h2⟩ := flatK_cells E ys j (by simpa [onU] using hj')
  rw [Sort.get_flatK _ _ _ _ hj']
  have hc := World.ownsRow.cells h (g := g) rfl j u (by rw [cells_onU]; exact h1)
  rw [Addr.add_lit, Nat.zero_add] at hc
  refine ⟨?_, ?_⟩
  · rw [Nat.zero_add, hc]
    show some u = some (((onU E).enc ys.toArray[j / E.k]!)[j % E.k]!)
    rw [List.getElem!_eq_getElem?_getD, h2]; rfl
  · rcases h.2 with ⟨hv, _⟩ | ⟨g', cap', cur, hv, hg, hh, _⟩
    · cases hv
    · cases hv; exact frozen_of_row w g _ _ _ hh
theorem below_sortK {enc : U2 → List Value} {k : Nat} {w : World} {B g off m : Nat} {d : Array U2} {os : Array Obj} (hg : B ≤ g) (hB : B ≤ w.heap.size) : Below B w (sortWorldK enc k w g off m d os) := by
  refine ⟨rfl, rfl, rfl, size_sortWorldK_c _ _ _ _ _ _ _ _, fun k hk => ?_⟩
  unfold sortWorldK Sort.grow Sort.putRowK Sort.putRow Sort.mapBlock Sort.ahead
  show (w.heap.modify g _ ++ os)[k]? = _
  rw [Array.getElem?_append_left (by simp; omega), Array.getElem?_modify, if_neg (by omega)]
theorem perm_ofU {d d' : Array U2} (h : Sort.PermIn 0 d.size d d') : d'.toList.Perm d.toList := by
  obtain ⟨h1, _, h3⟩ := h
  have a : d'.extract 0 d.size = d' := by rw [← h1]; simp
  have b : d.extract 0 d.size = d := by simp
  rw [a, b] at h3
  exact h3
theorem pairwise_ofU {d : Array U2} {n : Nat} (hn : d.size = n) (h : Sort.SortedIn (ltOf cmpU2) 0 n d) : (d.toList.map (·.1)).Pairwise (fun x y => x.1.n ≤ y.1.n) := by
  rw [List.pairwise_map, List.pairwise_iff_getElem]
  intro i j hi hj hij
  have := ltU2_le _ _ (h i j (Nat.zero_le _) hij (by rw [← hn]; simpa using hj))
  rw [getElem!_pos d i (by simpa using hi), getElem!_pos d j (by simpa using hj)] at this
  simpa using this

end Go.Proofs.YtfpcalgkfagjkaaGreatDoor
