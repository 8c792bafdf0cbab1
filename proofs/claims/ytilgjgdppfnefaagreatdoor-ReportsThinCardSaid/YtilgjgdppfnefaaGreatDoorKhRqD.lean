/- Reports: Merge. -/
import Derived.Test.YtilgjgdppfnefaaGreatDoorKhRpT
import Derived.Test.YtilgjgdppfnefaaGreatDoorKhShelf
import Derived.Lib.AppendZerosOnto
import Derived.Laws.AppendOwnNone
import Derived.Great.BuildSlice
import Derived.Lib.SliceRun
namespace Go.Proofs.YtilgjgdppfnefaaGreatDoor
open Go.RowKit
set_option linter.unusedVariables false
set_option linter.unusedSimpArgs false

def zRp : Value := .agg #[.string ⟨#[]⟩, .int .i64 0, .bool false, .int .i64 0, .bool false, .int .u64 0, .int .u64 0, .bool false, .int .u64 0, .int .u64 0, .int .i64 0, .int .i64 0, .int .i64 0, .int .i64 0]
theorem infoRp : (Tryz.prog.info? 37).map (fun i => (i.zero, i.size, i.bytes)) = some (some zRp, 14, 120) := by kernel_rfl
theorem tyeRp : Ty eRp 37 26 zRp 120 := ⟨Tryz.underlying26, infoRp, rfl, by decide⟩
theorem wpList_appR {ps : List Rp} {w : World} {ops : Array Oper} {rest : List Oper} {o : Oper} {a : Act} {Q : Exit → Act → World → Prop} (hgd : o.guard = none) (s x : Operand)
    (ho : o.op = .call { callee := .builtin .append, args := #[s, x], argTypes := #[26, 26] })
    (B : Nat) (v : Value) (xs : List Rp) (hs : a.eval s = v) (hown : OwnE eRp 37 B w v xs)
    (A : Option Addr) (m c : Nat) (hx : a.eval x = .slice A m c) (hS : SlE eRp w A m c ps) (hn : xs.length + ps.length ≤ 1000000) (hbase : B ≤ w.heap.size)
    (h : ∀ v' w', OwnE eRp 37 B w' v' (xs ++ ps) → w.grownBy w' v.ownBlock → wpList Tryz.prog ops Q rest (a.put o.dst v') w') : wpList Tryz.prog ops Q (o :: rest) a w := by
  cases A with
  | none =>
    obtain rfl := hS.2.2.1 rfl
    have hm : m = 0 := by have := hS.2.1; omega
    subst hm
    have hp : ps = [] := List.eq_nil_of_length_eq_zero hS.1.symm
    subst hp
    obtain ⟨i0, hi0, hz0, hz1, hz2⟩ := info_parts infoRp
    have hown' := hown
    unfold OwnE at hown'
    refine wpList_append_own_none hgd s x 26 ho B 37 i0 14 Tryz.underlying26 hi0 v xs.length (eRp.cells xs) hs hown' hx ?_
    refine h v w (by simpa using hown) ?_
    exact World.grownBy.refl _ _
  | some ad =>
    exact wpList_app tyeRp hgd s x ho B v xs ps hs hown ad m c hx hS.1 (fun j u hj => hS.cells j u hj) hn hbase (fun v' w' h1 h2 _ => h v' w' h1 h2)

end Go.Proofs.YtilgjgdppfnefaaGreatDoor
namespace Go.Proofs.YtilgjgdppfnefaaGreatDoor
open Go.RowKit
set_option linter.unusedVariables false
set_option linter.unusedSimpArgs false

/-- Several values are put in. -/
def setL : List Value → Nat → List Value → List Value
  | l, _, [] => l
  | l, o, v :: r => setL (l.set o v) (o + 1) r
theorem setL_mid : ∀ (cs old a b : List Value), old.length = cs.length → setL (a ++ (old ++ b)) a.length cs = a ++ (cs ++ b)
  | [], [], a, b, _ => rfl
  | [], _ :: _, _, _, h => by simp at h
  | _ :: _, [], _, _, h => by simp at h
  | c :: cs, o :: old, a, b, h => by
    unfold setL
    rw [List.set_append_right _ _ (Nat.le_refl _), Nat.sub_self, List.cons_append, List.set_cons_zero]
    have := setL_mid cs old (a ++ [c]) b (by simpa using h)
    simpa using this
theorem own_setL {B : Nat} {e : TypeId} {size n cap g : Nat} : ∀ (vs : List Value) (o : Nat) (w : World) (xs : List Value), w.ownsRow B e size (.slice (some ⟨g, 0, none⟩) n cap) n xs → (w.setCells g o vs).ownsRow B e size (.slice (some ⟨g, 0, none⟩) n cap) n (setL xs o vs)
  | [], _, _, _, h => h
  | v :: r, o, w, xs, h => by
    unfold World.setCells setL
    exact own_setL r (o + 1) _ _ (own_setV h o v)
section
variable {α : Type} {E : Enc α} {t : TypeId}
theorem OwnE.ld {k : Nat} (T : RowT t k) (hk : E.k = k) {w : World} {B g n cap : Nat} {xs : List α} (h : OwnE E t B w (.slice (some ⟨g, 0, none⟩) n cap) xs) {j : Nat} {x : α} (hx : xs[j]? = some x) :
    (ldT t (.pointer (some ⟨g, j * k, none⟩))).run Tryz.prog w = .ok (.value (.agg (E.enc x).toArray)) w := by
  have h0 := h
  subst hk
  refine ldT_run T (E.len x) (fun i v hv => ?_)
  have := World.ownsRow.cells h0 (g := g) rfl _ _ (E.cells_get xs j x hx i v hv)
  rwa [Addr.add_lit, Nat.zero_add] at this
theorem OwnE.ldAt {t' : TypeId} {k m : Nat} (T : RowT t' m) (hk : E.k = k) {w : World} {B g n cap : Nat} {xs : List α} (h : OwnE E t B w (.slice (some ⟨g, 0, none⟩) n cap) xs) {j : Nat} {x : α} (hx : xs[j]? = some x) (o : Nat) (ds rest : List Value) (hl : ds.length = m) (hd : (E.enc x).drop o = ds ++ rest) :
    (ldT t' (.pointer (some ⟨g, j * k + o, none⟩))).run Tryz.prog w = .ok (.value (.agg ds.toArray)) w := by
  have h0 := h
  subst hk
  refine ldT_run T hl (fun i v hv => ?_)
  have hi := (List.getElem?_eq_some_iff.1 hv).1
  have h1 : ((E.enc x).drop o)[i]? = some v := by rw [hd, List.getElem?_append_left hi]; exact hv
  rw [List.getElem?_drop] at h1
  have := World.ownsRow.cells h0 (g := g) rfl _ _ (E.cells_get xs j x hx (o + i) v h1)
  rw [Addr.add_lit, Nat.zero_add, ← Nat.add_assoc] at this
  exact this
theorem OwnE.cell {w : World} {B g n cap : Nat} {xs : List α} (h : OwnE E t B w (.slice (some ⟨g, 0, none⟩) n cap) xs) {j : Nat} {x : α} (hx : xs[j]? = some x) {i : Nat} {v : Value} (hv : (E.enc x)[i]? = some v) : w.cell? ⟨g, j * E.k + i, none⟩ = some v := by
  have := World.ownsRow.cells h (g := g) rfl _ _ (E.cells_get xs j x hx i v hv)
  rwa [Addr.add_lit, Nat.zero_add] at this
/-- The store of a part of the last element, as one step. -/
theorem stT_own {t' : TypeId} {m : Nat} (T : RowT t' m) {w : World} {B g n cap : Nat} {xs : List α} {x : α} (h : OwnE E t B w (.slice (some ⟨g, 0, none⟩) n cap) xs) {j : Nat} (hx : xs[j]? = some x) (o : Nat) (cs : List Value) (ho : o + m ≤ E.k) (hl : cs.length = m) (h1 : ∀ v ∈ cs, v.oneCell' = true) :
    (stT t' (.pointer (some ⟨g, j * E.k + o, none⟩)) (.agg cs.toArray)).run Tryz.prog w = .ok .skip (w.setCells g (j * E.k + o) cs) := by
  unfold stT
  have hf : ∀ q, w.frozen? ⟨g, q, none⟩ = false := by
    have h0 := h
    rcases h0.2 with ⟨hv, _⟩ | ⟨g', cap', cur, hv, hg, hh, _⟩
    · cases hv
    · cases hv; exact fun q => frozen_of_row w g q _ _ hh
  have ht : w.there g (j * E.k + o) cs.toArray.size := by
    intro i hi
    have hi' : i < m := by rw [← hl]; simpa using hi
    have hb : o + i < (E.enc x).length := by rw [E.len]; omega
    refine ⟨?_, hf _⟩
    rw [show j * E.k + o + i = j * E.k + (o + i) by omega, h.cell hx (List.getElem?_eq_getElem hb)]
    rfl
  have hs := run_storeAt_mid (P := Tryz.prog) w g (j * E.k + o) t' cs.toArray ht (by rw [T.size]; simp [hl]) (all_oneCell_toArray h1)
  simp only [Sem.run_bind, hs, Result.andThen_ok, Sem.run_pure]
theorem below_setC {B b : Nat} {a : World} (hb : B ≤ b) : ∀ (vs : List Value) (o : Nat) (w : World), Below B a w → Below B a (w.setCells b o vs)
  | [], _, _, h => h
  | v :: r, o, w, h => by
    unfold World.setCells
    exact below_setC hb r (o + 1) _ (h.setCell (p := ⟨b, o, none⟩) hb v)
end
theorem stT_own' {α : Type} {E : Enc α} {t t' : TypeId} {m k : Nat} (T : RowT t' m) (hk : E.k = k) {w : World} {B g n cap : Nat} {xs : List α} {x : α} (h : OwnE E t B w (.slice (some ⟨g, 0, none⟩) n cap) xs) {j : Nat} (hx : xs[j]? = some x) (o : Nat) (cs : List Value) (ho : o + m ≤ k) (hl : cs.length = m) (h1 : ∀ v ∈ cs, v.oneCell' = true) :
    (stT t' (.pointer (some ⟨g, j * k + o, none⟩)) (.agg cs.toArray)).run Tryz.prog w = .ok .skip (w.setCells g (j * k + o) cs) := by
  subst hk; exact stT_own T h hx o cs ho hl h1
theorem own_setAt {α : Type} {E : Enc α} {t : TypeId} {k : Nat} (hk : E.k = k) {w : World} {B g n cap : Nat} {xs : List α} {j : Nat} {x x' : α} (h : OwnE E t B w (.slice (some ⟨g, 0, none⟩) n cap) xs) (hn : n = xs.length) (hx : xs[j]? = some x) :
    OwnE E t B (w.setCells g (j * k) (E.enc x')) (.slice (some ⟨g, 0, none⟩) n cap) (xs.set j x') := by
  subst hk
  obtain ⟨hj, hxe⟩ := List.getElem?_eq_some_iff.1 hx
  have e1 : xs = xs.take j ++ x :: xs.drop (j + 1) := by rw [← hxe, List.getElem_cons_drop, List.take_append_drop]
  have e2 : xs.set j x' = xs.take j ++ x' :: xs.drop (j + 1) := List.set_eq_take_append_cons_drop.trans (if_pos hj)
  have hl : (xs.take j).length = j := by rw [List.length_take]; omega
  unfold OwnE at *
  have hs : (xs.set j x').length = xs.length := List.length_set
  rw [hs, ← hn]
  rw [← hn] at h
  have h2 := own_setL (E.enc x') (j * E.k) w _ h
  have c1 : E.cells xs = E.cells (xs.take j) ++ (E.enc x ++ E.cells (xs.drop (j + 1))) := by
    have := congrArg E.cells e1
    rwa [E.cells_app, E.cells_cons] at this
  have c2 : E.cells (xs.set j x') = E.cells (xs.take j) ++ (E.enc x' ++ E.cells (xs.drop (j + 1))) := by rw [e2, E.cells_app, E.cells_cons]
  rw [c2]
  have h3 := setL_mid (E.enc x') (E.enc x) (E.cells (xs.take j)) (E.cells (xs.drop (j + 1))) (by rw [E.len, E.len])
  rw [E.cells_len, hl, ← c1] at h3
  rwa [h3] at h2
theorem setL_lt : ∀ (vs : List Value) (o : Nat) (xs : List Value) (i : Nat), i < o → (setL xs o vs)[i]? = xs[i]?
  | [], _, _, _, _ => rfl
  | v :: r, o, xs, i, h => by
    unfold setL
    rw [setL_lt r (o + 1) _ i (by omega), List.getElem?_set_ne (by omega)]

/-- 'clear' of a slice of elements of some cells. -/
theorem run_clear_row {P : Program} (w : World) (t e ty : TypeId) (z : Value) (ht : P.underlying t = some (.slice e)) (hv : ∀ w, (zeroValue e).run P w = .ok z w) (b o n c : Nat) (hn : 0 < n) (L : List Value) (hL : (Builtin.zeroCells z.cells n).toList = L) (h1 : ∀ v ∈ L, v.oneCell' = true)
    (hc : ∀ j, j < L.length → (w.cell? ⟨b, o + j, none⟩).isSome = true) (hf : ∀ j, j < L.length → w.frozen? ⟨b, o + j, none⟩ = false) :
    (Builtin.clear_ #[t] ty #[.slice (some ⟨b, o, none⟩) n c]).run P w = .ok (.tuple #[]) (w.setCells b o L) := by
  have hst := run_storeCells_cells (P := P) b o L 0 w (by simpa using hc) (by simpa using hf) h1
  simp only [Nat.add_zero] at hst
  obtain ⟨m, rfl⟩ : ∃ m, n = m + 1 := ⟨n - 1, by omega⟩
  simp [Builtin.clear_, run_underlying ht, hv, hL, hst]
end Go.Proofs.YtilgjgdppfnefaaGreatDoor
namespace Go.Proofs.YtilgjgdppfnefaaGreatDoor
open Go.RowKit
set_option linter.unusedVariables false
set_option linter.unusedSimpArgs false

open Classical in
/-- The first ones of a list, without those that are as the one ahead. -/
noncomputable def sqz (xs : List Rp) : Nat → List Rp
  | 0 => []
  | 1 => xs.take 1
  | j + 2 => if xs[j + 1]? = xs[j]? then sqz xs (j + 1) else sqz xs (j + 1) ++ (xs[j + 1]?).toList
def CpI (xs : List Rp) (j : Nat) (zs : List Rp) : Prop := zs = sqz xs j
theorem CpI.same {xs : List Rp} {j : Nat} {zs : List Rp} (h : CpI xs (j + 1) zs) {y : Rp} (hy : xs[j + 1]? = some y) (hy' : xs[j]? = some y) : CpI xs (j + 2) zs := by
  unfold CpI sqz
  rw [if_pos (by rw [hy, hy'])]
  exact h
theorem CpI.next {xs : List Rp} {j : Nat} {zs : List Rp} (h : CpI xs (j + 1) zs) {y z : Rp} (hy : xs[j + 1]? = some y) (hy' : xs[j]? = some z) (hne : y ≠ z) : CpI xs (j + 2) (zs ++ [y]) := by
  unfold CpI sqz
  rw [if_neg (by rw [hy, hy']; intro e; injection e with e; exact hne e), hy]
  rw [show zs = sqz xs (j + 1) from h]
  rfl
theorem CpI.one {xs : List Rp} {x : Rp} (hx : xs[0]? = some x) : CpI xs 1 [x] := by
  unfold CpI sqz
  rw [List.take_add_one, hx]
  rfl

/-- The row while it is compacted: what is kept ahead, what is still to be looked at behind. -/
def CpR (xs : List Rp) (c j : Nat) (ys : List Rp) : Prop := ys.length = xs.length ∧ c ≤ j ∧ CpI xs (j + 1) (ys.take c) ∧ ys.drop j = xs.drop j
theorem CpR.skip {xs : List Rp} {c j : Nat} {ys : List Rp} (h : CpR xs c j ys) {y : Rp} (hy : xs[j + 1]? = some y) (hy' : xs[j]? = some y) : CpR xs c (j + 1) ys := by
  refine ⟨h.1, by have := h.2.1; omega, h.2.2.1.same hy hy', ?_⟩
  have := congrArg (List.drop 1) h.2.2.2
  rwa [List.drop_drop, List.drop_drop] at this
theorem CpR.put {xs : List Rp} {c j : Nat} {ys : List Rp} (h : CpR xs c j ys) {y z : Rp} (hy : xs[j + 1]? = some y) (hy' : xs[j]? = some z) (hne : y ≠ z) : CpR xs (c + 1) (j + 1) (ys.set c y) := by
  have hj : j + 1 < xs.length := (List.getElem?_eq_some_iff.1 hy).1
  have hc := h.2.1
  have hl := h.1
  refine ⟨by rw [List.length_set]; exact h.1, by omega, ?_, ?_⟩
  · have e : (ys.set c y).take (c + 1) = ys.take c ++ [y] := by
      rw [List.take_add_one, List.take_set, List.getElem?_set_self (by omega)]
      rw [List.set_eq_of_length_le (by rw [List.length_take]; omega)]
      rfl
    rw [e]
    exact h.2.2.1.next hy hy' hne
  · rw [List.drop_set, if_pos (by omega)]
    have := congrArg (List.drop 1) h.2.2.2
    rwa [List.drop_drop, List.drop_drop] at this

/-- The rest of a row is cleared. -/
theorem clear_rest {w : World} {B g n cap c : Nat} {ys : List Rp} (h : OwnE eRp 37 B w (.slice (some ⟨g, 0, none⟩) n cap) ys) (hn : n = ys.length) (hc : c < n) (hz : ∀ w, (zeroValue 37).run Tryz.prog w = .ok zRp w) (m : Nat) :
    ∃ L, ∀ ty, (Builtin.clear_ #[26] ty #[.slice (some ⟨g, c * 14, none⟩) (n - c) m]).run Tryz.prog w = .ok (.tuple #[]) (w.setCells g (c * 14) L) := by
  obtain ⟨L, hL⟩ : ∃ L, (Builtin.zeroCells zRp.cells (n - c)).toList = L := ⟨_, rfl⟩
  have e3 : eRp.k = 14 := rfl
  have hLl : L.length = (n - c) * 14 := by rw [← hL]; simp [Builtin.zeroCells]; rfl
  refine ⟨L, fun ty => run_clear_row w _ _ ty zRp Tryz.underlying26 hz g (c * 14) (n - c) m (by omega) L hL ?_ ?_ ?_⟩
  · intro v hv
    rw [← hL] at hv
    simp only [Builtin.zeroCells, Array.toList_map, List.mem_map] at hv
    obtain ⟨i, _, rfl⟩ := hv
    have hs : zRp.cells.size = 14 := rfl
    have hi : i % zRp.cells.size < 14 := by rw [hs]; exact Nat.mod_lt _ (by decide)
    have hall : ∀ j, j < 14 → (zRp.cells[j]!).oneCell' = true := by decide
    exact hall _ hi
  · intro j hj
    rw [hLl] at hj
    have hlen : c * 14 + j < (eRp.cells ys).length := by rw [eRp.cells_len, e3, ← hn]; omega
    have h4 := World.ownsRow.cells h (g := g) rfl (c * 14 + j) _ (List.getElem?_eq_getElem hlen)
    rw [Addr.add_lit, Nat.zero_add] at h4
    rw [h4]; rfl
  · intro j _
    rcases h.2 with ⟨hv, _⟩ | ⟨g', cap', cur, hv, hB, hh, _⟩
    · cases hv
    · cases hv; exact frozen_of_row w g _ _ _ hh

theorem zeroRp_run (w : World) : (zeroValue 37).run Tryz.prog w = .ok zRp w := by
  kernel_rfl

end Go.Proofs.YtilgjgdppfnefaaGreatDoor
namespace Go.Proofs.YtilgjgdppfnefaaGreatDoor
open Go.RowKit
set_option linter.unusedVariables false
set_option linter.unusedSimpArgs false

def LtR (x y : Rp) : Prop := cmpRp x y < 0
theorem LtR.irrefl (x : Rp) : ¬ LtR x x := by unfold LtR; rw [cm_rp.self]; decide
theorem LtR.trans {x y z : Rp} (a : LtR x y) (b : LtR y z) : LtR x z := cm_rp.lt (Int.le_of_lt a) (Int.le_of_lt b) (.inl a)
theorem strict_unique : ∀ l m : List Rp, l.Pairwise LtR → m.Pairwise LtR → (∀ x, x ∈ l ↔ x ∈ m) → l = m
  | [], [], _, _, _ => rfl
  | [], y :: m, _, _, h => absurd ((h y).2 List.mem_cons_self) List.not_mem_nil
  | x :: l, [], _, _, h => absurd ((h x).1 List.mem_cons_self) List.not_mem_nil
  | x :: l, y :: m, hl, hm, h => by
    rw [List.pairwise_cons] at hl hm
    have e : x = y := by
      rcases List.mem_cons.1 ((h x).1 List.mem_cons_self) with e | e
      · exact e
      · rcases List.mem_cons.1 ((h y).2 List.mem_cons_self) with f | f
        · exact f.symm
        · exact absurd (LtR.trans (hm.1 x e) (hl.1 y f)) (LtR.irrefl y)
    subst e
    rw [strict_unique l m hl.2 hm.2 (fun z => ⟨fun hz => by
      rcases List.mem_cons.1 ((h z).1 (List.mem_cons_of_mem _ hz)) with e | e
      · subst e; exact absurd (hl.1 z hz) (LtR.irrefl z)
      · exact e, fun hz => by
      rcases List.mem_cons.1 ((h z).2 (List.mem_cons_of_mem _ hz)) with e | e
      · subst e; exact absurd (hm.1 z hz) (LtR.irrefl z)
      · exact e⟩)]

end Go.Proofs.YtilgjgdppfnefaaGreatDoor
namespace Go.Proofs.YtilgjgdppfnefaaGreatDoor
open Go.RowKit
set_option linter.unusedVariables false
set_option linter.unusedSimpArgs false

/-- Two different reports stand in one place. -/
def Conf (ms : List Rp) : Prop := ∃ x ∈ ms, ∃ y ∈ ms, x ≠ y ∧ cmpRp x y = 0
/-- What two lists are made: nothing if two different reports stand in one place. -/
def Mg (ms : List Rp) (zs : List Rp) : Prop := ¬ Conf ms ∧ zs.Pairwise LtR ∧ ∀ x, x ∈ zs ↔ x ∈ ms
theorem Mg.unique {ms zs zs' : List Rp} (h : Mg ms zs) (h' : Mg ms zs') : zs = zs' := strict_unique _ _ h.2.1 h'.2.1 (fun x => (h.2.2 x).trans (h'.2.2 x).symm)
end Go.Proofs.YtilgjgdppfnefaaGreatDoor
namespace Go.Proofs.YtilgjgdppfnefaaGreatDoor
open Go.RowKit
set_option linter.unusedVariables false
set_option linter.unusedSimpArgs false

end Go.Proofs.YtilgjgdppfnefaaGreatDoor
namespace Go.Proofs.YtilgjgdppfnefaaGreatDoor
open Go.RowKit
set_option linter.unusedVariables false
set_option linter.unusedSimpArgs false

/-- What a merge gives. -/
def MgP (w : World) (ms : List Rp) (e : Ending) (w' : World) : Prop := Below w.heap.size w w' ∧ ((Conf ms ∧ e = .returned (.tuple #[.slice none 0 0, .int .i64 13])) ∨ ∃ A m cap zs, Mg ms zs ∧ SlE eRp w' A m cap zs ∧ m ≤ 100000 ∧ ((3000 < m ∧ e = .returned (.tuple #[.slice none 0 0, .int .i64 2])) ∨ (m ≤ 3000 ∧ e = .returned (.tuple #[.slice A m cap, .int .i64 0]))))

end Go.Proofs.YtilgjgdppfnefaaGreatDoor
namespace Go.Proofs.YtilgjgdppfnefaaGreatDoor
open Go.RowKit
set_option linter.unusedVariables false
set_option linter.unusedSimpArgs false

end Go.Proofs.YtilgjgdppfnefaaGreatDoor
namespace Go.Proofs.YtilgjgdppfnefaaGreatDoor
open Go.RowKit
set_option linter.unusedVariables false
set_option linter.unusedSimpArgs false

theorem MgP.ahead {w w1 : World} {ms : List Rp} {e : Ending} {w' : World} (hb : Below w.heap.size w w1) (h : MgP w1 ms e w') : MgP w ms e w' := ⟨hb.trans (h.1.mono hb.size), h.2⟩

end Go.Proofs.YtilgjgdppfnefaaGreatDoor
