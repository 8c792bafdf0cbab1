/- Sets: clones and sorts of ranges and spans. -/
import Derived.Test.YtkldcmmlllkhkaaGreatDoorKqGzA
import Derived.Test.YtkldcmmlllkhkaaGreatDoorKqStE
import Derived.Test.YtkldcmmlllkhkaaGreatDoorKqTxtJ
import Derived.Test.YtkldcmmlllkhkaaGreatDoorKqShelf
import Derived.Shelf.SlSortCmp.WholeK
import Derived.Shelf.SlSortCmp.NoneTotal
import Derived.Lib.Small
import Derived.Great.BuildSlice
set_option linter.unusedVariables false
set_option linter.unusedSimpArgs false
set_option maxRecDepth 100000
namespace Go.Proofs.YtkldcmmlllkhkaaGreatDoor
open Go.RowKit

def GivesD (v : Value) (w : World) (e : Ending) (w' : World) : Prop := e = .returned v ∧ Gd w w'
theorem GivesD.v {v : Value} {w : World} {e : Ending} {w' : World} (h : GivesD v w e w') : GivesV v w e w' := ⟨h.1, h.2.below⟩

theorem two_new (w : World) (cs ds : List Value) (t te : TypeId) : Blk ((w.alloc (.cells cs.toArray t)).alloc (.cells ds.toArray te)) w.heap.size cs t ∧ Blk ((w.alloc (.cells cs.toArray t)).alloc (.cells ds.toArray te)) (w.heap.size + 1) ds te := blk2 w cs ds t te

theorem cmpN_step (A B j : Nat) (hq : A / 2 ^ (16 * (j + 1)) = B / 2 ^ (16 * (j + 1))) :
    (dig A j = dig B j → A / 2 ^ (16 * j) = B / 2 ^ (16 * j)) ∧ (dig A j ≠ dig B j → sgn ((dig A j : Int) - dig B j) = cmpN A B) := by
  obtain ⟨p1, p2, p3⟩ := top_step A B j hq
  refine ⟨p1, fun h => ?_⟩
  unfold cmpN sgn
  rcases Nat.lt_or_ge (dig A j) (dig B j) with g | g
  · rw [if_pos (by omega), if_pos (p2 g)]
  · have g' : dig B j < dig A j := by omega
    have := p3 g'
    rw [if_neg (by omega), if_pos (by omega), if_neg (by omega), if_neg (by omega)]
theorem digN_get (W j : Nat) (hj : j < 9) : (digN W)[j]? = some (.int .i64 (dig W j)) := by
  match j, hj with
  | 0, _ => rfl
  | 1, _ => rfl
  | 2, _ => rfl
  | 3, _ => rfl
  | 4, _ => rfl
  | 5, _ => rfl
  | 6, _ => rfl
  | 7, _ => rfl
  | 8, _ => rfl
set_option maxHeartbeats 2000000 in
theorem wcmp_d (A B : Nat) (w : World) (hA : A < 2 ^ 144) (hB : B < 2 ^ 144) :
    Calls Tryz.prog 52 #[wA A, wA B] w (GivesD (.int .i64 (cmpN A B)) w) := by
  obtain ⟨hl1, hl2⟩ := two_new w (digN A) (digN B) 81 81
  have hG : Gd w ((w.alloc (.cells (digN A).toArray 81)).alloc (.cells (digN B).toArray 81)) := ((Gd.refl w).alloc _).alloc _
  go_enter Tryz.func52, Tryz.ntmps52
  go_wp2_with fail
  go_loopw [5] (fun c wr => ∃ m : Int, -1 ≤ m ∧ m ≤ 8 ∧ c = .int .i64 m ∧ A / 2 ^ (16 * (m + 1).toNat) = B / 2 ^ (16 * (m + 1).toNat) ∧ Blk wr w.heap.size (digN A) 81 ∧ Blk wr (w.heap.size + 1) (digN B) 81 ∧ Gd w wr) (fun c _ => (intOf c + 1).toNat)
  case atStart =>
    refine ⟨8, by omega, by omega, rfl, ?_, hl1, hl2, hG⟩
    show A / 2 ^ 144 = B / 2 ^ 144
    rw [Nat.div_eq_of_lt hA, Nat.div_eq_of_lt hB]
  case round =>
    clear hl1 hl2 hG
    obtain ⟨m, hm1, hm2, rfl, hq, hx, hy, hb⟩ := hrel
    by_cases h0 : m < 0
    · have H := Lib.hid (show cmpN A B = 0 by
        obtain rfl : m = -1 := by omega
        have hq' : A / 2 ^ 0 = B / 2 ^ 0 := hq
        simp at hq'
        unfold cmpN; rw [if_neg (by omega), if_pos hq'])
      clear hq
      go_wp2_with fail
      go_ret
      exact ⟨ret_i64 H.out.symm, hb⟩
    · obtain ⟨j, rfl⟩ := Int.eq_ofNat_of_zero_le (show 0 ≤ m by omega)
      rw [show ((j : Int) + 1).toNat = j + 1 by omega] at hq
      obtain ⟨e1, e2⟩ := cmpN_step A B j hq
      have d1 := digN_get A j (by omega)
      have d2 := digN_get B j (by omega)
      have l1 := dig_lt A j
      have l2 := dig_lt B j
      have hj0 : (0 : Int) ≤ j := by omega
      have hj9 : (j : Int) < 9 := by omega
      have hB := Gd.refl wr
      by_cases hXY : dig A j = dig B j
      · have E1 := Lib.hid (e1 hXY)
        have c0 : (((dig A j : Nat) : Int) != ((dig B j : Nat) : Int)) = false := by simp [hXY]
        clear hq e1 e2 hXY l1 l2
        generalize ((dig A j : Nat) : Int) = X at *
        generalize ((dig B j : Nat) : Int) = Y at *
        go_wp2_with fail
        refine wd_begin [] (by kernel_rfl) (fun u0 hb0' hz0' => ?_)
        replace hB := hB.trans hb0'
        clear hb0' hz0'
        refine wd_pureZ 0 (some 10) (v := ?_) ?_ ?_; rotate_left; · (intro u; go_simp; try with_reducible rfl)
        try simp only [Act.put, gzD, gzE, gzF]
        refine wd_pureZ 1 (some 11) (v := ?_) ?_ ?_; rotate_left; · (intro u; go_simp; try with_reducible rfl)
        try simp only [Act.put, gzD, gzE, gzF]
        refine wd_takeZ 2 (some 12) (v := ?_) ?_ ?_; rotate_left; · (intro u hu; have x0 := (hx.below (hB.trans hu).below).cell d1; have y0 := (hy.below (hB.trans hu).below).cell d2; go_simp; try with_reducible rfl)
        try simp only [Act.put, gzD, gzE, gzF]
        refine wd_pureZ 3 (some 13) (v := ?_) ?_ ?_; rotate_left; · (intro u; go_simp; try with_reducible rfl)
        try simp only [Act.put, gzD, gzE, gzF]
        refine wd_pureZ 4 (some 14) (v := ?_) ?_ ?_; rotate_left; · (intro u; go_simp; try with_reducible rfl)
        try simp only [Act.put, gzD, gzE, gzF]
        refine wd_takeZ 5 (some 15) (v := ?_) ?_ ?_; rotate_left; · (intro u hu; have x0 := (hx.below (hB.trans hu).below).cell d1; have y0 := (hy.below (hB.trans hu).below).cell d2; go_simp; try with_reducible rfl)
        try simp only [Act.put, gzD, gzE, gzF]
        refine wd_pureZ 6 (some 16) (v := ?_) ?_ ?_; rotate_left; · (intro u; go_simp; try with_reducible rfl)
        try simp only [Act.put, gzD, gzE, gzF]
        refine wd_done (by kernel_rfl) ?_ _
        go_wp2_with fail
        refine ⟨⟨(j : Int) - 1, by omega, by omega, rfl, ?_, hx.below hB.below, hy.below hB.below, hb.trans hB⟩, by simp [intOf]⟩
        rw [show ((j : Int) - 1 + 1).toNat = j by omega]
        exact E1.out
      · have H := Lib.hid (e2 hXY)
        have c0 : (((dig A j : Nat) : Int) != ((dig B j : Nat) : Int)) = true := by simp; omega
        have hS : IntKind.i64.wrap (((dig A j : Nat) : Int) - ((dig B j : Nat) : Int)) = ((dig A j : Nat) : Int) - ((dig B j : Nat) : Int) := IntWalk.i64_in _ (by omega)
        clear hq e1 e2 hXY l1 l2
        generalize ((dig A j : Nat) : Int) = X at *
        generalize ((dig B j : Nat) : Int) = Y at *
        go_wp2_with fail
        refine wd_begin [] (by kernel_rfl) (fun u0 hb0' hz0' => ?_)
        replace hB := hB.trans hb0'
        clear hb0' hz0'
        refine wd_pureZ 0 (some 10) (v := ?_) ?_ ?_; rotate_left; · (intro u; go_simp; try with_reducible rfl)
        try simp only [Act.put, gzD, gzE, gzF]
        refine wd_pureZ 1 (some 11) (v := ?_) ?_ ?_; rotate_left; · (intro u; go_simp; try with_reducible rfl)
        try simp only [Act.put, gzD, gzE, gzF]
        refine wd_takeZ 2 (some 12) (v := ?_) ?_ ?_; rotate_left; · (intro u hu; have x0 := (hx.below (hB.trans hu).below).cell d1; have y0 := (hy.below (hB.trans hu).below).cell d2; go_simp; try with_reducible rfl)
        try simp only [Act.put, gzD, gzE, gzF]
        refine wd_pureZ 3 (some 13) (v := ?_) ?_ ?_; rotate_left; · (intro u; go_simp; try with_reducible rfl)
        try simp only [Act.put, gzD, gzE, gzF]
        refine wd_pureZ 4 (some 14) (v := ?_) ?_ ?_; rotate_left; · (intro u; go_simp; try with_reducible rfl)
        try simp only [Act.put, gzD, gzE, gzF]
        refine wd_takeZ 5 (some 15) (v := ?_) ?_ ?_; rotate_left; · (intro u hu; have x0 := (hx.below (hB.trans hu).below).cell d1; have y0 := (hy.below (hB.trans hu).below).cell d2; go_simp; try with_reducible rfl)
        try simp only [Act.put, gzD, gzE, gzF]
        refine wd_pureZ 6 (some 16) (v := ?_) ?_ ?_; rotate_left; · (intro u; go_simp; try with_reducible rfl)
        try simp only [Act.put, gzD, gzE, gzF]
        refine wd_done (by kernel_rfl) ?_ _
        go_wp2_with fail
        refine wd_begin [] (by kernel_rfl) (fun u0 hb0' hz0' => ?_)
        replace hB := hB.trans hb0'
        clear hb0' hz0'
        refine wd_pureZ 0 (some 17) (v := ?_) ?_ ?_; rotate_left; · (intro u; go_simp; try with_reducible rfl)
        try simp only [Act.put, gzD, gzE, gzF]
        refine wd_pureZ 1 (some 18) (v := ?_) ?_ ?_; rotate_left; · (intro u; go_simp; try with_reducible rfl)
        try simp only [Act.put, gzD, gzE, gzF]
        refine wd_takeZ 2 (some 19) (v := ?_) ?_ ?_; rotate_left; · (intro u hu; have x0 := (hx.below (hB.trans hu).below).cell d1; have y0 := (hy.below (hB.trans hu).below).cell d2; go_simp; try with_reducible rfl)
        try simp only [Act.put, gzD, gzE, gzF]
        refine wd_pureZ 3 (some 20) (v := ?_) ?_ ?_; rotate_left; · (intro u; go_simp; try with_reducible rfl)
        try simp only [Act.put, gzD, gzE, gzF]
        refine wd_pureZ 4 (some 21) (v := ?_) ?_ ?_; rotate_left; · (intro u; go_simp; try with_reducible rfl)
        try simp only [Act.put, gzD, gzE, gzF]
        refine wd_takeZ 5 (some 22) (v := ?_) ?_ ?_; rotate_left; · (intro u hu; have x0 := (hx.below (hB.trans hu).below).cell d1; have y0 := (hy.below (hB.trans hu).below).cell d2; go_simp; try with_reducible rfl)
        try simp only [Act.put, gzD, gzE, gzF]
        refine wd_pureZ 6 (some 23) (v := ?_) ?_ ?_; rotate_left; · (intro u; go_simp; try with_reducible rfl)
        try simp only [Act.put, gzD, gzE, gzF]
        refine wd_oneZ 7 (fun K hK => ?_)
        go_simp
        refine (sign_any _ _).mono ?_
        rintro e w' ⟨rfl, rfl⟩
        refine hK _ _ (Gd.refl _) ?_
        clear hK K
        try simp only [Act.put, gzD, gzE, gzF]
        refine wd_pureZ 8 (some 4) (v := ?_) ?_ ?_; rotate_left; · (intro u; go_simp; try with_reducible rfl)
        try simp only [Act.put, gzD, gzE, gzF]
        refine wd_done (by kernel_rfl) ?_ _
        go_wp2_with fail
        go_ret
        exact ⟨ret_i64 H.out, hb.trans hB⟩

set_option maxHeartbeats 1000000 in
theorem joined1_d (x y : Ad × Ad) (w : World) (hx : x.1.U) (hy : y.1.U) :
    Calls Tryz.prog 104 #[spA x, spA y] w (GivesD (.int .i64 (cmpN x.1.n y.1.n)) w) := by
  have HC := fun w' => Lib.hid (wcmp_d x.1.n y.1.n w' (Nat.lt_trans hx.n_lt (by decide)) (Nat.lt_trans hy.n_lt (by decide)))
  obtain ⟨h1, h2⟩ := two_new w (spC x) (spC y) 106 106
  have l1 := h1.ldAt rowW 0 (digN x.1.n) (digN x.2.n) rfl rfl
  have l2 := h2.ldAt rowW 0 (digN y.1.n) (digN y.2.n) rfl rfl
  have hG : Gd w ((w.alloc (.cells (spC x).toArray 106)).alloc (.cells (spC y).toArray 106)) := ((Gd.refl w).alloc _).alloc _
  clear h1 h2 hx hy
  go_enter Tryz.func104, Tryz.ntmps104
  go_wp2_with fail
  refine (HC _).out.mono ?_
  rintro e w1 ⟨rfl, hg1⟩
  go_wp2_with fail
  go_ret
  exact ⟨rfl, hG.trans hg1⟩
end Go.Proofs.YtkldcmmlllkhkaaGreatDoor
namespace Go.Proofs.YtkldcmmlllkhkaaGreatDoor
open Go.RowKit Go.Shelf

def zPf : Value := .agg #[.bool false, .int .u64 0, .int .u64 0, .int .i64 0]
def zSp : Value := .agg #[.int .i64 0, .int .i64 0, .int .i64 0, .int .i64 0, .int .i64 0, .int .i64 0, .int .i64 0, .int .i64 0, .int .i64 0, .int .i64 0, .int .i64 0, .int .i64 0, .int .i64 0, .int .i64 0, .int .i64 0, .int .i64 0, .int .i64 0, .int .i64 0]
theorem infoPf : (Tryz.prog.info? 41).map (fun i => (i.zero, i.size, i.bytes)) = some (some zPf, 4, 32) := by kernel_rfl
theorem infoSp : (Tryz.prog.info? 106).map (fun i => (i.zero, i.size, i.bytes)) = some (some zSp, 18, 144) := by kernel_rfl
def bsT (t : TypeId) (x : Value) : Sem Next := do
  let v ← Instr.buildSlice t 1 #[(0, x)]
  pure (.value v)
section
variable (ρ : Operand → Value) (dst : Option Tmp) (x : Operand) (ty : TypeId) (pos : String) (after : Array Edge) (guard : Option (Nat × Bool))
@[go_sem ↓ high] theorem execOp_bsPf : execOp ρ ⟨dst, .buildSlice 26 1 #[(0, x)], ty, pos, after, guard⟩ = bsT 26 (ρ x) := by
  simp only [execOp, bsT, List.map_toArray, List.map_cons, List.map_nil]
@[go_sem high] theorem execOp_bsPf' : execOp ρ ⟨dst, .buildSlice 26 1 #[(0, x)], ty, pos, after, guard⟩ = bsT 26 (ρ x) := by
  simp only [execOp, bsT, List.map_toArray, List.map_cons, List.map_nil]
@[go_sem ↓ high] theorem execOp_bsSp : execOp ρ ⟨dst, .buildSlice 86 1 #[(0, x)], ty, pos, after, guard⟩ = bsT 86 (ρ x) := by
  simp only [execOp, bsT, List.map_toArray, List.map_cons, List.map_nil]
@[go_sem high] theorem execOp_bsSp' : execOp ρ ⟨dst, .buildSlice 86 1 #[(0, x)], ty, pos, after, guard⟩ = bsT 86 (ρ x) := by
  simp only [execOp, bsT, List.map_toArray, List.map_cons, List.map_nil]
end
theorem bsT_run {st t : TypeId} {k bytes : Nat} {z : Value} {cs : Array Value} (hu : Tryz.prog.underlying st = some (.slice t)) (hi : (Tryz.prog.info? t).map (fun i => (i.zero, i.size, i.bytes)) = some (some z, k, bytes)) (hk : ¬ 1 * k > 2 ^ 24) (hk0 : ¬ 1 * k = 0)
    (hf : Instr.fill (fun i => some (i * k, k)) ((Array.range (1 * k)).map (z.cells[· % z.cells.size]!)) [(0, .agg cs)] = some cs) (w : World) :
    (bsT st (.agg cs)).run Tryz.prog w = .ok (.value (.slice (some ⟨w.heap.size, 0, none⟩) 1 1)) (w.alloc (.cells cs t)) := by
  obtain ⟨i0, hi0, hz0, hz1, hz2⟩ := info_parts hi
  subst hz1
  unfold bsT
  simp only [Sem.run_bind, run_buildSlice (P := Tryz.prog) w st t 1 #[(0, .agg cs)] cs i0 z hu hi0 hz0 hk hk0 hf, Result.andThen_ok, Sem.run_pure]
@[go_sem] theorem run_bsPf (x : Pf) (w : World) : (bsT 26 (.agg (pfC x).toArray)).run Tryz.prog w = .ok (.value (.slice (some ⟨w.heap.size, 0, none⟩) 1 1)) (w.alloc (.cells (pfC x).toArray 41)) :=
  bsT_run Tryz.underlying26 infoPf (by decide) (by decide) (by kernel_rfl) w
@[go_sem] theorem run_bsSp (x : Ad × Ad) (w : World) : (bsT 86 (.agg (spC x).toArray)).run Tryz.prog w = .ok (.value (.slice (some ⟨w.heap.size, 0, none⟩) 1 1)) (w.alloc (.cells (spC x).toArray 106)) :=
  bsT_run Tryz.underlying86 infoSp (by decide) (by decide) (by kernel_rfl) w
@[go_sem] theorem run_bsSp2 (A B : Nat) (w : World) : (bsT 86 (.agg (digN A ++ digN B).toArray)).run Tryz.prog w = .ok (.value (.slice (some ⟨w.heap.size, 0, none⟩) 1 1)) (w.alloc (.cells (digN A ++ digN B).toArray 106)) :=
  bsT_run Tryz.underlying86 infoSp (by decide) (by decide) (by kernel_rfl) w
theorem tyePf : Ty ePf 41 26 zPf 32 := ⟨Tryz.underlying26, infoPf, rfl, by decide⟩
theorem tyeSp : Ty eSp 106 86 zSp 144 := ⟨Tryz.underlying86, infoSp, rfl, by decide⟩

set_option maxHeartbeats 4000000 in
theorem cloneSp_any (A : Option Addr) (n cap : Nat) (xs : List (Ad × Ad)) (w : World) (hS : SlE eSp w A n cap xs) (hn : n ≤ 100000) :
    Calls Tryz.prog 102 #[.slice A n cap] w fun e w' => ∃ v', e = .returned v' ∧ OwnE eSp 106 w.heap.size w' v' xs ∧ Below w.heap.size w w' := by
  have q22 : ∀ (w : World) (a : Option Addr) (n c n' c' : Nat), (binOp .eql 86 (.slice a n c) (.slice none n' c')).run Tryz.prog w = .ok (.bool a.isNone) w := fun w a n c n' c' => Lib.run_eql_slice_nil w _ _ a n c n' c' Tryz.underlying86
  have hlen := Lib.hid hS.1
  have hS := Lib.hid hS
  cases A with
  | none =>
    have hxs : xs = [] := by
      rcases hS.out.2.2.2 with h | ⟨g, off, h, _⟩
      · exact List.length_eq_zero_iff.1 (by have := hlen.out; omega)
      · cases h
    subst hxs
    obtain rfl : n = 0 := by simpa using hlen.out
    clear hlen
    go_enter Tryz.func102, Tryz.ntmps102
    go_wp2_with fail
    go_ret
    exact ⟨_, rfl, OwnE.nil _ _, Below.refl _ _⟩
  | some a =>
    have hc := Lib.hid (fun j u (hj : (Enc.cells eSp xs)[j]? = some u) => hS.out.cells j u hj)
    go_enter Tryz.func102, Tryz.ntmps102
    go_wp2_with (at_builtin; refine wpList_app tyeSp rfl _ _ rfl w.heap.size _ [] xs rfl (World.ownsRow_made w #[] 0 (Nat.le_refl _) (Nat.zero_le _) (by simp)) a n cap rfl ?c1 ?c2 ?c3 ?c4 ?_)
    case c1 => exact hlen.out
    case c2 =>
      intro j u hj
      exact Lib.cell?_alloc_some _ (hc.out j u hj)
    case c3 => rw [← hlen.out]; simp; omega
    case c4 => simp
    intro v' w1 hown hgrow _
    have hB := ((Below.refl _ w).alloc (Nat.le_refl _) _).grown hgrow (by simp) (by intro k hk; simp [Value.ownBlock] at hk; omega)
    clear hgrow
    go_wp2_with fail
    go_ret
    exact ⟨v', rfl, by simpa using hown, hB⟩

abbrev U2 := {x : Ad × Ad // x.1.U ∧ x.2.U}
instance : Inhabited U2 := ⟨⟨(⟨false, 0, 0⟩, ⟨false, 0, 0⟩), ⟨⟨by decide, by decide⟩, ⟨by decide, by decide⟩⟩, ⟨⟨by decide, by decide⟩, ⟨by decide, by decide⟩⟩⟩⟩

def onU (E : Enc (Ad × Ad)) : Enc U2 := ⟨fun x => E.enc x.1, E.k, E.pos, fun x => E.len x.1, fun x => E.one x.1⟩
theorem lift_U : ∀ xs : List (Ad × Ad), (∀ x ∈ xs, x.1.U ∧ x.2.U) → ∃ ys : List U2, xs = ys.map (·.1)
  | [], _ => ⟨[], rfl⟩
  | x :: r, h => by
    obtain ⟨ys, hy⟩ := lift_U r (fun z hz => h z (List.mem_cons_of_mem _ hz))
    exact ⟨⟨x, h x List.mem_cons_self⟩ :: ys, by show x :: r = x :: ys.map _; rw [← hy]⟩
theorem cells_onU (E : Enc (Ad × Ad)) : ∀ ys : List U2, E.cells (ys.map (·.1)) = (onU E).cells ys
  | [] => rfl
  | y :: r => by rw [List.map_cons, E.cells_cons, (onU E).cells_cons, cells_onU E r]; rfl
def cmpU2 (x y : U2) : Int := cmpN x.1.1.n y.1.1.n
theorem ltU2_iff (x y : U2) : ltOf cmpU2 x y = true ↔ x.1.1.n < y.1.1.n := by
  unfold ltOf cmpU2 cmpN
  by_cases h : x.1.1.n < y.1.1.n
  · rw [if_pos h]; exact ⟨fun _ => h, fun _ => by decide⟩
  · rw [if_neg h]
    refine ⟨fun a => ?_, fun a => absurd a h⟩
    exfalso
    by_cases h2 : x.1.1.n = y.1.1.n
    · rw [if_pos h2] at a; cases a
    · rw [if_neg h2] at a; cases a
theorem ltU2_le (x y : U2) (h : ltOf cmpU2 x y = false) : y.1.1.n ≤ x.1.1.n := by
  have := mt (ltU2_iff x y).2 (by rw [h]; decide)
  omega
theorem ltU2_not (x y : U2) (h : y.1.1.n ≤ x.1.1.n) : ltOf cmpU2 x y = false := by
  cases e : ltOf cmpU2 x y
  · rfl
  · have := (ltU2_iff x y).1 e; omega
theorem swo_cmpU2 : Sort.SWO (ltOf cmpU2) where
  irrefl := fun x => ltU2_not x x (Nat.le_refl _)
  trans := fun x y z a b => (ltU2_iff x z).2 (Nat.lt_trans ((ltU2_iff x y).1 a) ((ltU2_iff y z).1 b))
  ntrans := fun x y z a b => ltU2_not x z (Nat.le_trans (ltU2_le y z b) (ltU2_le x y a))

theorem flatK_cells (E : Enc (Ad × Ad)) (ys : List U2) (j : Nat) (hj : j < (ys.toArray.size) * E.k) : ∃ u, ((onU E).cells ys)[j]? = some u ∧ ((onU E).enc ys.toArray[j / E.k]!)[j % E.k]? = some u := by
  have hp := E.pos
  have hq : j / E.k < ys.length := Nat.div_lt_of_lt_mul (by rw [Nat.mul_comm]; simpa using hj)
  have hm : j % E.k < E.k := Nat.mod_lt _ hp
  have hx : ys[j / E.k]? = some ys[j / E.k] := List.getElem?_eq_getElem hq
  have hl : j % E.k < ((onU E).enc ys[j / E.k]).length := by rw [(onU E).len]; exact hm
  refine ⟨((onU E).enc ys[j / E.k])[j % E.k], ?_, ?_⟩
  · have := (onU E).cells_get ys (j / E.k) _ hx (j % E.k) _ (List.getElem?_eq_getElem hl)
    rwa [show j / E.k * (onU E).k + j % E.k = j by rw [Nat.mul_comm]; exact Nat.div_add_mod j E.k] at this
  · rw [getElem!_pos ys.toArray (j / E.k) (by simpa using hq)]
    simp

theorem holdsK_own {E : Enc (Ad × Ad)} {t : TypeId} {w : World} {B g n cap : Nat} {ys : List U2} (h : OwnE E t B w (.slice (some ⟨g, 0, none⟩) n cap) (ys.map (·.1))) : Sort.HoldsK (onU E).enc (onU E).k w g 0 ys.toArray := by
  intro j hj
  have hj' := hj
  rw [Sort.size_flatK] at hj'
  obtain ⟨u, h1, h2⟩ := flatK_cells E ys j (by simpa [onU] using hj')
  rw [Sort.get_flatK _ _ _ _ hj']
  have hc := World.ownsRow.cells h (g := g) rfl j u (by rw [cells_onU]; exact h1)
  rw [Addr.add_lit, Nat.zero_add] at hc
  refine ⟨?_, ?_⟩
  · rw [Nat.zero_add, hc]
    show some u = some (((onU E).enc ys.toArray[j / E.k]!)[j % E.k]!)
    rw [List.getElem!_eq_getElem?_getD, h2]; rfl
  · rcases h.2 with ⟨hv, _⟩ | ⟨g', cap', cur, hv, hg, hh, _⟩
    · cases hv
    · cases hv; exact frozen_of_row w g _ _ _ hh
theorem below_sortK {enc : U2 → List Value} {k : Nat} {w : World} {B g off m : Nat} {d : Array U2} {os : Array Obj} (hg : B ≤ g) (hB : B ≤ w.heap.size) : Below B w (sortWorldK enc k w g off m d os) := by
  refine ⟨rfl, rfl, rfl, size_sortWorldK_c _ _ _ _ _ _ _ _, fun k hk => ?_⟩
  unfold sortWorldK Sort.grow Sort.putRowK Sort.putRow Sort.mapBlock Sort.ahead
  show (w.heap.modify g _ ++ os)[k]? = _
  rw [Array.getElem?_append_left (by simp; omega), Array.getElem?_modify, if_neg (by omega)]
theorem sorted_slE {E : Enc (Ad × Ad)} {w : World} {g cap : Nat} {d : Array U2} (h : Sort.HoldsK (onU E).enc (onU E).k w g 0 d) (hg : g < w.heap.size) (hc : d.size ≤ cap) : SlE E w (some ⟨g, 0, none⟩) (d.toList.map (·.1)).length cap (d.toList.map (·.1)) := by
  refine ⟨rfl, by simpa using hc, (fun e => by cases e), .inr ⟨g, 0, rfl, hg, fun j x hx i v hv => ?_⟩⟩
  obtain ⟨y, hy, rfl⟩ := Option.map_eq_some_iff.1 (by rw [List.getElem?_map] at hx; exact hx)
  have hj : j < d.size := by simpa using (List.getElem?_eq_some_iff.1 hy).1
  have hi : i < (onU E).k := by rw [← (onU E).len y]; exact (List.getElem?_eq_some_iff.1 hv).1
  have e : d[j]! = y := by
    rw [getElem!_pos d j hj]
    have := (List.getElem?_eq_some_iff.1 hy).2
    simpa using this
  have a := (h.cell hj hi).1
  rw [e] at a
  rw [show 0 + j * E.k + i = 0 + j * (onU E).k + i from rfl, a, List.getElem!_eq_getElem?_getD]
  rw [show ((onU E).enc y)[i]? = some v from hv]; rfl
theorem perm_ofU {d d' : Array U2} (h : Sort.PermIn 0 d.size d d') : d'.toList.Perm d.toList := by
  obtain ⟨h1, _, h3⟩ := h
  have a : d'.extract 0 d.size = d' := by rw [← h1]; simp
  have b : d.extract 0 d.size = d := by simp
  rw [a, b] at h3
  exact h3
theorem pairwise_ofU {d : Array U2} {n : Nat} (hn : d.size = n) (h : Sort.SortedIn (ltOf cmpU2) 0 n d) : (d.toList.map (·.1)).Pairwise (fun x y => x.1.n ≤ y.1.n) := by
  rw [List.pairwise_map, List.pairwise_iff_getElem]
  intro i j hi hj hij
  have := ltU2_le _ _ (h i j (Nat.zero_le _) hij (by rw [← hn]; simpa using hj))
  rw [getElem!_pos d i (by simpa using hi), getElem!_pos d j (by simpa using hj)] at this
  simpa using this

def OwnS (E : Enc (Ad × Ad)) (B : Nat) (w : World) (v : Value) (xs : List (Ad × Ad)) : Prop :=
  ∃ A cap, v = .slice A xs.length cap ∧ SlE E w A xs.length cap xs ∧ ∀ g off, A = some ⟨g, off, none⟩ → B ≤ g ∧ g < w.heap.size
theorem none_any {ρ : Go.Shelf.Ren} (L : SlLaysF0.n6 Tryz.prog ρ) (p : Option Addr) (cap : Nat) (fv : Value) (w : World) :
    Calls Tryz.prog (ρ.f 6) #[.slice p 0 cap, fv] w fun e w' => e = .returned (.tuple #[]) ∧ w' = w := AnyF.slices_SortFunc_none L p cap fv w

theorem lays_sortSp_any (blk off size : Nat) (w : World) : CmpLays Tryz.prog 104 #[] (onU eSp).enc (onU eSp).k cmpU2 blk off size w :=
  fun _ _ _ _ x y => (joined1_d x.1 y.1 _ x.2.1 y.2.1).mono fun _ _ h => ⟨h.1, h.2.grows⟩

set_option maxHeartbeats 2000000 in
theorem sortSp_any (B : Nat) (v : Value) (xs : List (Ad × Ad)) (w : World) (hown : OwnE eSp 106 B w v xs) (hU : ∀ x ∈ xs, x.1.U ∧ x.2.U) (hb : B ≤ w.heap.size) (hn : xs.length ≤ 1000000) :
    Calls Tryz.prog 103 #[v, .func (.func 104) #[] #[]] w fun e w' => e = .returned (.tuple #[]) ∧ ∃ qs : List (Ad × Ad), qs.Perm xs ∧ qs.Pairwise (fun x y => x.1.n ≤ y.1.n) ∧ OwnS eSp B w' v qs ∧ Below B w w' := by
  by_cases h0 : xs = []
  · subst h0
    obtain ⟨A, cap, rfl, hS⟩ := hown.sl
    refine (none_any Tryz.sortSpan A cap _ w).mono ?_
    rintro e w' ⟨rfl, rfl⟩
    exact ⟨rfl, [], List.Perm.refl _, List.Pairwise.nil, ⟨A, cap, rfl, hS, fun g off hA => by cases A with | none => cases hA | some a => exact (by have := hown.lt a.block rfl; cases hA; exact this)⟩, Below.refl _ _⟩
  · obtain ⟨ys, rfl⟩ := lift_U xs hU
    obtain ⟨g, cap, rfl, hg1, hg2, hcap, _⟩ := hown.form h0
    have hH := holdsK_own (E := eSp) hown
    have eg : ∀ args w, (callFunc 104 args).run Tryz.prog w = .ok (.enter 104 args) w := enters_of Tryz.func104 (by kernel_rfl) rfl
    have hcon := AnyQ.slices_SortFunc Tryz.sortSpan 18 Tryz.isAgg106 Tryz.sizeOf106 (onU eSp).enc (onU eSp).len (onU eSp).one cmpU2 swo_cmpU2 104 #[] g 0 cap ys.toArray w eg (lays_sortSp_any g 0 ys.toArray.size w) hH hg2 (by simp at hn ⊢; omega)
    change Calls Tryz.prog 103 _ _ _ at hcon
    have e0 : ys.toArray.size = ys.length := by simp
    rw [e0] at hcon
    rw [List.length_map]
    refine hcon.mono ?_
    rintro e w' ⟨rfl, d', m, os, hp, hs, rfl⟩
    rw [← e0] at hp
    have hsz : d'.size = ys.length := hp.1.trans e0
    refine ⟨rfl, d'.toList.map (·.1), (perm_ofU hp).map _, pairwise_ofU hsz hs, ?_, below_sortK hg1 hb⟩
    refine ⟨some ⟨g, 0, none⟩, cap, by simp [hsz], ?_, fun g' off hA => by cases hA; exact ⟨hg1, Nat.lt_of_lt_of_le hg2 (size_sortWorldK_c _ _ _ _ _ _ _ _)⟩⟩
    exact sorted_slE (holdsK_sortWorldK_c _ _ _ _ _ _ _ _ _ hH hg2 hp.1) (Nat.lt_of_lt_of_le hg2 (size_sortWorldK_c _ _ _ _ _ _ _ _)) (by simp at hcap; omega)
end Go.Proofs.YtkldcmmlllkhkaaGreatDoor
