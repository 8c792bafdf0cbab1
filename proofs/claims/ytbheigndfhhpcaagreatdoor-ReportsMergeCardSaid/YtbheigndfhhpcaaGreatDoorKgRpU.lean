/- Rows: several values are put in; 'clear' of a slice. -/
import Derived.Test.YtbheigndfhhpcaaGreatDoorKgRpT
import Derived.Test.YtbheigndfhhpcaaGreatDoorKgShelf
import Derived.Lib.AppendZerosOnto
import Derived.Laws.AppendOwnNone
import Derived.Great.BuildSlice
import Derived.Lib.SliceRun
namespace Go.Proofs.YtbheigndfhhpcaaGreatDoor
open Go.RowKit
set_option linter.unusedVariables false
set_option linter.unusedSimpArgs false

def zRp : Value := .agg #[.string ⟨#[]⟩, .int .i64 0, .bool false, .int .i64 0, .bool false, .int .u64 0, .int .u64 0, .bool false, .int .u64 0, .int .u64 0, .int .i64 0, .int .i64 0, .int .i64 0, .int .i64 0]
theorem infoRp : (Tryz.prog.info? 37).map (fun i => (i.zero, i.size, i.bytes)) = some (some zRp, 14, 120) := by kernel_rfl
theorem tyeRp : Ty eRp 37 26 zRp 120 := ⟨Tryz.underlying26, infoRp, rfl, by decide⟩
def GivesR {α : Type} (E : Enc α) (t : TypeId) (B : Nat) (ys : List α) (e : Ending) (w' : World) : Prop := ∃ v, e = .returned v ∧ OwnE E t B w' v ys
theorem wpList_appR {ps : List Rp} {w : World} {ops : Array Oper} {rest : List Oper} {o : Oper} {a : Act} {Q : Exit → Act → World → Prop} (hgd : o.guard = none) (s x : Operand)
    (ho : o.op = .call { callee := .builtin .append, args := #[s, x], argTypes := #[26, 26] })
    (B : Nat) (v : Value) (xs : List Rp) (hs : a.eval s = v) (hown : OwnE eRp 37 B w v xs)
    (A : Option Addr) (m c : Nat) (hx : a.eval x = .slice A m c) (hS : SlE eRp w A m c ps) (hn : xs.length + ps.length ≤ 1000000) (hbase : B ≤ w.heap.size)
    (h : ∀ v' w', OwnE eRp 37 B w' v' (xs ++ ps) → w.grownBy w' v.ownBlock → wpList Tryz.prog ops Q rest (a.put o.dst v') w') : wpList Tryz.prog ops Q (o :: rest) a w := by
  cases A with
  | none =>
    obtain rfl := hS.2.2.1 rfl
    have hm : m = 0 := by have := hS.2.1; omega
    subst hm
    have hp : ps = [] := List.eq_nil_of_length_eq_zero hS.1.symm
    subst hp
    obtain ⟨i0, hi0, hz0, hz1, hz2⟩ := info_parts infoRp
    have hown' := hown
    unfold OwnE at hown'
    refine wpList_append_own_none hgd s x 26 ho B 37 i0 14 Tryz.underlying26 hi0 v xs.length (eRp.cells xs) hs hown' hx ?_
    refine h v w (by simpa using hown) ?_
    exact World.grownBy.refl _ _
  | some ad =>
    exact wpList_app tyeRp hgd s x ho B v xs ps hs hown ad m c hx hS.1 (fun j u hj => hS.cells j u hj) hn hbase (fun v' w' h1 h2 _ => h v' w' h1 h2)

set_option maxHeartbeats 2000000 in
set_option maxRecDepth 100000 in
theorem growRp_any (t : Nat) (w : World) (ht : t ≤ 100000) :
    Calls Tryz.prog 67 #[.slice none 0 0, .int .i64 t] w fun e w' => ∃ v, e = .returned v ∧ OwnE eRp 37 w.heap.size w' v [] ∧ Below w.heap.size w w' := by
  by_cases h0 : t = 0
  · subst h0
    go_enter Tryz.func67, Tryz.ntmps67
    go_wp2_with fail
    go_ret
    exact ⟨_, rfl, OwnE.nil _ _, Below.refl _ _⟩
  · have h1t : 1 ≤ t := by omega
    clear h0
    obtain ⟨i0, hi0, hz0, hz1, hz2⟩ := info_parts infoRp
    have hrz : ∀ ty, (Builtin.append_ #[26, 3] ty #[.slice none 0 0, .int .i64 t]).run Tryz.prog w =
        .ok (.slice (some ⟨w.heap.size, 0, none⟩) (0 + t) (grownCap w (0 + t) 0 37)) (w.drew.alloc (.cells (#[] ++ Builtin.zeroCells zRp.cells t ++ Builtin.zeroCells zRp.cells (grownCap w (0 + t) 0 37 - (0 + t))) 37)) := fun ty => by
      have h := Lib.run_append_grow_zeros w 26 3 ty 37 i0 zRp .i64 .i64 Tryz.underlying26 Tryz.underlying3 hi0 hz0 none 0 0 [] (run_firstCells_none w.drew i0.size 0 0 0) t (by first | omega | (rw [hz2]; omega) | (rw [hz1]; omega)) (by first | omega | (rw [hz2]; omega) | (rw [hz1]; omega)) (by first | omega | (rw [hz2]; omega) | (rw [hz1]; omega)) (by first | omega | (rw [hz2]; omega) | (rw [hz1]; omega)) (by first | omega | (rw [hz2]; omega) | (rw [hz1]; omega)) (growslice_fits (by first | omega | (rw [hz2]; omega)) (by first | omega | (rw [hz2]; omega)))
      exact h
    obtain ⟨G, hG⟩ : ∃ G, G = grownCap w (0 + t) 0 37 := ⟨_, rfl⟩
    have hG8 : t ≤ G := by rw [hG]; have := grownCap_ge w (0 + t) 0 37; omega
    have hG63 : G ≤ maxLen := by rw [hG]; exact grownCap_le_maxLen w (0 + t) 0 37 (by unfold maxLen; omega)
    rw [← hG] at hrz
    have hzc : zRp.cells.size = 14 := rfl
    have hZ : (#[] ++ Builtin.zeroCells zRp.cells t ++ Builtin.zeroCells zRp.cells (G - (0 + t))).size = G * 14 := by
      simp only [Builtin.zeroCells, Array.size_append, Array.size_map, Array.size_range, hzc, List.size_toArray, List.length_nil]
      omega
    obtain ⟨Z, hZ0⟩ : ∃ Z, Z = (#[] ++ Builtin.zeroCells zRp.cells t ++ Builtin.zeroCells zRp.cells (G - (0 + t))) := ⟨_, rfl⟩
    rw [← hZ0] at hrz hZ
    have hW : OwnE eRp 37 w.heap.size (w.drew.alloc (.cells Z 37)) (.slice (some ⟨w.heap.size, 0, none⟩) 0 G) [] := by
      refine ⟨rfl, .inr ⟨w.heap.size, G, Z, rfl, Nat.le_refl _, ?_, Nat.zero_le _, hG63, hZ, by simp [Enc.cells]⟩⟩
      simp [World.alloc, World.drew, -World.alloc_eq, -World.drew_eq]
    have hb : Below w.heap.size w (w.drew.alloc (.cells Z 37)) := (Below.drew (Below.refl _ w)).alloc (Nat.le_refl _) _
    have hG63' : G ≤ 9223372036854775807 := by unfold maxLen at hG63; omega
    clear hZ0 hZ hG hG63
    replace hW := Lib.hid hW
    replace hb := Lib.hid hb
    go_enter Tryz.func67, Tryz.ntmps67
    go_wp2_with (at_builtin; refine Lib.wpList_append_run _ rfl _ _ _ _ rfl _ _ rfl rfl _ _ (hrz _) ?_)
    go_ret
    exact ⟨_, rfl, hW.out, hb.out⟩

set_option maxHeartbeats 4000000 in
set_option maxRecDepth 100000 in
theorem concatRp_any (q n1 c1 n2 c2 : Nat) (A1 A2 : Option Addr) (ps qs : List Rp) (w : World) (hQ : Blk w q [.slice A1 n1 c1, .slice A2 n2 c2] 26) (s1 : SlE eRp w A1 n1 c1 ps) (s2 : SlE eRp w A2 n2 c2 qs) (h1 : n1 ≤ 50000) (h2 : n2 ≤ 50000) :
    Calls Tryz.prog 40 #[.slice (some ⟨q, 0, none⟩) 2 2] w fun e w' => GivesR eRp 37 w.heap.size (ps ++ qs) e w' ∧ Below w.heap.size w w' := by
  have HG := Lib.hid (growRp_any (n1 + n2) w (by omega))
  have m1 := Lib.hid s1.1
  have m2 := Lib.hid s2.1
  have hql := hQ.lt
  have q1 := hQ.cell (i := 0) rfl
  have q2 := hQ.cell (i := 1) rfl
  replace hQ := Lib.hid hQ
  replace s1 := Lib.hid s1
  replace s2 := Lib.hid s2
  have hw0 : ¬ (n1 : Int) < 0 := by omega
  have hw1 : ¬ (n1 : Int) + n2 < 0 := by omega
  have r1 : IntKind.i64.wrap ((n1 : Int) + n2) = (n1 : Int) + n2 := IntWalk.i64_in _ (by omega)
  go_enter Tryz.func40, Tryz.ntmps40
  go_wp2_with fail
  refine wp_loop_rounds 3 ?_
  rw [rounds_succ]
  go_wp2_with fail
  rw [rounds_succ]
  go_wp2_with fail
  rw [rounds_succ]
  go_wp2_with fail
  refine HG.out.mono ?_
  rintro e w1 ⟨v, rfl, hown, hb1⟩
  clear HG q1 q2
  have hQ1 := Blk.below hQ.out hb1
  have q1 := hQ1.cell (i := 0) rfl
  have q2 := hQ1.cell (i := 1) rfl
  have t1 := Lib.hid (s1.out.below hb1)
  have hz1 := hb1.size
  clear hQ1
  go_wp2_with fail
  refine wp_loop_rounds 3 ?_
  rw [rounds_succ]
  go_wp2_with (at_builtin; refine wpList_appR rfl _ _ rfl w.heap.size _ [] rfl hown A1 n1 c1 rfl t1.out ?c1 hz1 ?_)
  case c1 => have := m1.out; simp; omega
  intro v2 w2 hown2 hg2
  have hb2 : Below w.heap.size w w2 := hb1.grown hg2 hz1 (fun k h => (hown.lt k h).1)
  have hQ2 := Blk.below hQ.out hb2
  clear hown hg2 q1 q2
  have q2 := hQ2.cell (i := 1) rfl
  have t2 := Lib.hid (s2.out.below hb2)
  have hz2 := hb2.size
  clear hQ2
  go_wp2_with fail
  rw [rounds_succ]
  go_wp2_with (at_builtin; refine wpList_appR rfl _ _ rfl w.heap.size _ _ rfl hown2 A2 n2 c2 rfl t2.out ?d1 hz2 ?_)
  case d1 => have := m1.out; have := m2.out; simp; omega
  intro v3 w3 hown3 hg3
  have hb3 : Below w.heap.size w w3 := hb2.grown hg3 hz2 (fun k h => (hown2.lt k h).1)
  clear hown2 hg3 q2
  go_wp2_with fail
  rw [rounds_succ]
  go_wp2_with fail
  go_ret
  exact ⟨⟨v3, rfl, by simpa using hown3⟩, hb3⟩

set_option maxHeartbeats 4000000 in
set_option maxRecDepth 100000 in
theorem cloneRp_any (A : Option Addr) (n cap : Nat) (xs : List Rp) (w : World) (hS : SlE eRp w A n cap xs) (hn : n ≤ 100000) :
    Calls Tryz.prog 8 #[.slice A n cap] w fun e w' => ∃ v', e = .returned v' ∧ OwnE eRp 37 w.heap.size w' v' xs ∧ Below w.heap.size w w' := by
  have q22 : ∀ (w : World) (a : Option Addr) (n c n' c' : Nat), (binOp .eql 26 (.slice a n c) (.slice none n' c')).run Tryz.prog w = .ok (.bool a.isNone) w := fun w a n c n' c' => Lib.run_eql_slice_nil w _ _ a n c n' c' Tryz.underlying26
  have hlen := Lib.hid hS.1
  have hS := Lib.hid hS
  cases A with
  | none =>
    have hxs : xs = [] := by
      rcases hS.out.2.2.2 with h | ⟨g, off, h, _⟩
      · exact List.length_eq_zero_iff.1 (by have := hlen.out; omega)
      · cases h
    subst hxs
    obtain rfl : n = 0 := by simpa using hlen.out
    clear hlen
    go_enter Tryz.func8, Tryz.ntmps8
    go_wp2_with fail
    go_ret
    exact ⟨_, rfl, OwnE.nil _ _, Below.refl _ _⟩
  | some a =>
    have hc := Lib.hid (fun j u (hj : (Enc.cells eRp xs)[j]? = some u) => hS.out.cells j u hj)
    go_enter Tryz.func8, Tryz.ntmps8
    go_wp2_with (at_builtin; refine wpList_app tyeRp rfl _ _ rfl w.heap.size _ [] xs rfl (World.ownsRow_made w #[] 0 (Nat.le_refl _) (Nat.zero_le _) (by simp)) a n cap rfl ?c1 ?c2 ?c3 ?c4 ?_)
    case c1 => exact hlen.out
    case c2 =>
      intro j u hj
      exact Lib.cell?_alloc_some _ (hc.out j u hj)
    case c3 => rw [← hlen.out]; simp; omega
    case c4 => simp
    intro v' w1 hown hgrow _
    have hB := ((Below.refl _ w).alloc (Nat.le_refl _) _).grown hgrow (by simp) (by intro k hk; simp [Value.ownBlock] at hk; omega)
    clear hgrow
    go_wp2_with fail
    go_ret
    exact ⟨v', rfl, by simpa using hown, hB⟩
end Go.Proofs.YtbheigndfhhpcaaGreatDoor
namespace Go.Proofs.YtbheigndfhhpcaaGreatDoor
open Go.RowKit
set_option linter.unusedVariables false
set_option linter.unusedSimpArgs false

/-- Several values are put in. -/
def setL : List Value → Nat → List Value → List Value
  | l, _, [] => l
  | l, o, v :: r => setL (l.set o v) (o + 1) r
theorem setL_mid : ∀ (cs old a b : List Value), old.length = cs.length → setL (a ++ (old ++ b)) a.length cs = a ++ (cs ++ b)
  | [], [], a, b, _ => rfl
  | [], _ :: _, _, _, h => by simp at h
  | _ :: _, [], _, _, h => by simp at h
  | c :: cs, o :: old, a, b, h => by
    unfold setL
    rw [List.set_append_right _ _ (Nat.le_refl _), Nat.sub_self, List.cons_append, List.set_cons_zero]
    have := setL_mid cs old (a ++ [c]) b (by simpa using h)
    simpa using this
theorem own_setL {B : Nat} {e : TypeId} {size n cap g : Nat} : ∀ (vs : List Value) (o : Nat) (w : World) (xs : List Value), w.ownsRow B e size (.slice (some ⟨g, 0, none⟩) n cap) n xs → (w.setCells g o vs).ownsRow B e size (.slice (some ⟨g, 0, none⟩) n cap) n (setL xs o vs)
  | [], _, _, _, h => h
  | v :: r, o, w, xs, h => by
    unfold World.setCells setL
    exact own_setL r (o + 1) _ _ (own_setV h o v)
section
variable {α : Type} {E : Enc α} {t : TypeId}
theorem OwnE.ld {k : Nat} (T : RowT t k) (hk : E.k = k) {w : World} {B g n cap : Nat} {xs : List α} (h : OwnE E t B w (.slice (some ⟨g, 0, none⟩) n cap) xs) {j : Nat} {x : α} (hx : xs[j]? = some x) :
    (ldT t (.pointer (some ⟨g, j * k, none⟩))).run Tryz.prog w = .ok (.value (.agg (E.enc x).toArray)) w := by
  have h0 := h
  subst hk
  refine ldT_run T (E.len x) (fun i v hv => ?_)
  have := World.ownsRow.cells h0 (g := g) rfl _ _ (E.cells_get xs j x hx i v hv)
  rwa [Addr.add_lit, Nat.zero_add] at this
theorem OwnE.ldAt {t' : TypeId} {k m : Nat} (T : RowT t' m) (hk : E.k = k) {w : World} {B g n cap : Nat} {xs : List α} (h : OwnE E t B w (.slice (some ⟨g, 0, none⟩) n cap) xs) {j : Nat} {x : α} (hx : xs[j]? = some x) (o : Nat) (ds rest : List Value) (hl : ds.length = m) (hd : (E.enc x).drop o = ds ++ rest) :
    (ldT t' (.pointer (some ⟨g, j * k + o, none⟩))).run Tryz.prog w = .ok (.value (.agg ds.toArray)) w := by
  have h0 := h
  subst hk
  refine ldT_run T hl (fun i v hv => ?_)
  have hi := (List.getElem?_eq_some_iff.1 hv).1
  have h1 : ((E.enc x).drop o)[i]? = some v := by rw [hd, List.getElem?_append_left hi]; exact hv
  rw [List.getElem?_drop] at h1
  have := World.ownsRow.cells h0 (g := g) rfl _ _ (E.cells_get xs j x hx (o + i) v h1)
  rw [Addr.add_lit, Nat.zero_add, ← Nat.add_assoc] at this
  exact this
theorem OwnE.cell {w : World} {B g n cap : Nat} {xs : List α} (h : OwnE E t B w (.slice (some ⟨g, 0, none⟩) n cap) xs) {j : Nat} {x : α} (hx : xs[j]? = some x) {i : Nat} {v : Value} (hv : (E.enc x)[i]? = some v) : w.cell? ⟨g, j * E.k + i, none⟩ = some v := by
  have := World.ownsRow.cells h (g := g) rfl _ _ (E.cells_get xs j x hx i v hv)
  rwa [Addr.add_lit, Nat.zero_add] at this
/-- The store of a part of the last element, as one step. -/
theorem stT_own {t' : TypeId} {m : Nat} (T : RowT t' m) {w : World} {B g n cap : Nat} {xs : List α} {x : α} (h : OwnE E t B w (.slice (some ⟨g, 0, none⟩) n cap) xs) {j : Nat} (hx : xs[j]? = some x) (o : Nat) (cs : List Value) (ho : o + m ≤ E.k) (hl : cs.length = m) (h1 : ∀ v ∈ cs, v.oneCell' = true) :
    (stT t' (.pointer (some ⟨g, j * E.k + o, none⟩)) (.agg cs.toArray)).run Tryz.prog w = .ok .skip (w.setCells g (j * E.k + o) cs) := by
  unfold stT
  have hf : ∀ q, w.frozen? ⟨g, q, none⟩ = false := by
    have h0 := h
    rcases h0.2 with ⟨hv, _⟩ | ⟨g', cap', cur, hv, hg, hh, _⟩
    · cases hv
    · cases hv; exact fun q => frozen_of_row w g q _ _ hh
  have ht : w.there g (j * E.k + o) cs.toArray.size := by
    intro i hi
    have hi' : i < m := by rw [← hl]; simpa using hi
    have hb : o + i < (E.enc x).length := by rw [E.len]; omega
    refine ⟨?_, hf _⟩
    rw [show j * E.k + o + i = j * E.k + (o + i) by omega, h.cell hx (List.getElem?_eq_getElem hb)]
    rfl
  have hs := run_storeAt_mid (P := Tryz.prog) w g (j * E.k + o) t' cs.toArray ht (by rw [T.size]; simp [hl]) (all_oneCell_toArray h1)
  simp only [Sem.run_bind, hs, Result.andThen_ok, Sem.run_pure]
theorem below_setC {B b : Nat} {a : World} (hb : B ≤ b) : ∀ (vs : List Value) (o : Nat) (w : World), Below B a w → Below B a (w.setCells b o vs)
  | [], _, _, h => h
  | v :: r, o, w, h => by
    unfold World.setCells
    exact below_setC hb r (o + 1) _ (h.setCell (p := ⟨b, o, none⟩) hb v)
end
theorem stT_own' {α : Type} {E : Enc α} {t t' : TypeId} {m k : Nat} (T : RowT t' m) (hk : E.k = k) {w : World} {B g n cap : Nat} {xs : List α} {x : α} (h : OwnE E t B w (.slice (some ⟨g, 0, none⟩) n cap) xs) {j : Nat} (hx : xs[j]? = some x) (o : Nat) (cs : List Value) (ho : o + m ≤ k) (hl : cs.length = m) (h1 : ∀ v ∈ cs, v.oneCell' = true) :
    (stT t' (.pointer (some ⟨g, j * k + o, none⟩)) (.agg cs.toArray)).run Tryz.prog w = .ok .skip (w.setCells g (j * k + o) cs) := by
  subst hk; exact stT_own T h hx o cs ho hl h1
theorem own_setAt {α : Type} {E : Enc α} {t : TypeId} {k : Nat} (hk : E.k = k) {w : World} {B g n cap : Nat} {xs : List α} {j : Nat} {x x' : α} (h : OwnE E t B w (.slice (some ⟨g, 0, none⟩) n cap) xs) (hn : n = xs.length) (hx : xs[j]? = some x) :
    OwnE E t B (w.setCells g (j * k) (E.enc x')) (.slice (some ⟨g, 0, none⟩) n cap) (xs.set j x') := by
  subst hk
  obtain ⟨hj, hxe⟩ := List.getElem?_eq_some_iff.1 hx
  have e1 : xs = xs.take j ++ x :: xs.drop (j + 1) := by rw [← hxe, List.getElem_cons_drop, List.take_append_drop]
  have e2 : xs.set j x' = xs.take j ++ x' :: xs.drop (j + 1) := List.set_eq_take_append_cons_drop.trans (if_pos hj)
  have hl : (xs.take j).length = j := by rw [List.length_take]; omega
  unfold OwnE at *
  have hs : (xs.set j x').length = xs.length := List.length_set
  rw [hs, ← hn]
  rw [← hn] at h
  have h2 := own_setL (E.enc x') (j * E.k) w _ h
  have c1 : E.cells xs = E.cells (xs.take j) ++ (E.enc x ++ E.cells (xs.drop (j + 1))) := by
    have := congrArg E.cells e1
    rwa [E.cells_app, E.cells_cons] at this
  have c2 : E.cells (xs.set j x') = E.cells (xs.take j) ++ (E.enc x' ++ E.cells (xs.drop (j + 1))) := by rw [e2, E.cells_app, E.cells_cons]
  rw [c2]
  have h3 := setL_mid (E.enc x') (E.enc x) (E.cells (xs.take j)) (E.cells (xs.drop (j + 1))) (by rw [E.len, E.len])
  rw [E.cells_len, hl, ← c1] at h3
  rwa [h3] at h2
theorem setL_lt : ∀ (vs : List Value) (o : Nat) (xs : List Value) (i : Nat), i < o → (setL xs o vs)[i]? = xs[i]?
  | [], _, _, _, _ => rfl
  | v :: r, o, xs, i, h => by
    unfold setL
    rw [setL_lt r (o + 1) _ i (by omega), List.getElem?_set_ne (by omega)]

/-- 'clear' of a slice of elements of some cells. -/
theorem run_clear_row {P : Program} (w : World) (t e ty : TypeId) (z : Value) (ht : P.underlying t = some (.slice e)) (hv : ∀ w, (zeroValue e).run P w = .ok z w) (b o n c : Nat) (hn : 0 < n) (L : List Value) (hL : (Builtin.zeroCells z.cells n).toList = L) (h1 : ∀ v ∈ L, v.oneCell' = true)
    (hc : ∀ j, j < L.length → (w.cell? ⟨b, o + j, none⟩).isSome = true) (hf : ∀ j, j < L.length → w.frozen? ⟨b, o + j, none⟩ = false) :
    (Builtin.clear_ #[t] ty #[.slice (some ⟨b, o, none⟩) n c]).run P w = .ok (.tuple #[]) (w.setCells b o L) := by
  have hst := run_storeCells_cells (P := P) b o L 0 w (by simpa using hc) (by simpa using hf) h1
  simp only [Nat.add_zero] at hst
  obtain ⟨m, rfl⟩ : ∃ m, n = m + 1 := ⟨n - 1, by omega⟩
  simp [Builtin.clear_, run_underlying ht, hv, hL, hst]
end Go.Proofs.YtbheigndfhhpcaaGreatDoor
