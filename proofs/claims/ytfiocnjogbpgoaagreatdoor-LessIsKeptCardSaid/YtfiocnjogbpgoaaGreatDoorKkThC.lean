/- Reports that are put together: one that is thinned. -/
import Derived.Test.YtfiocnjogbpgoaaGreatDoorKkRpT
import Derived.Test.YtfiocnjogbpgoaaGreatDoorKkShelf
import Derived.Lib.AppendZerosOnto
import Derived.Laws.AppendOwnNone
import Derived.Great.BuildSlice
import Derived.Lib.SliceRun
import Derived.Test.YtfiocnjogbpgoaaGreatDoorKkFltY
import Derived.Test.YtfiocnjogbpgoaaGreatDoorKkWaysI
namespace Go.Proofs.YtfiocnjogbpgoaaGreatDoor
open Go.RowKit
set_option linter.unusedVariables false
set_option linter.unusedSimpArgs false

def zRp : Value := .agg #[.string ⟨#[]⟩, .int .i64 0, .bool false, .int .i64 0, .bool false, .int .u64 0, .int .u64 0, .bool false, .int .u64 0, .int .u64 0, .int .i64 0, .int .i64 0, .int .i64 0, .int .i64 0]
theorem infoRp : (Tryz.prog.info? 56).map (fun i => (i.zero, i.size, i.bytes)) = some (some zRp, 14, 120) := by kernel_rfl
theorem tyeRp : Ty eRp 56 49 zRp 120 := ⟨Tryz.underlying49, infoRp, rfl, by decide⟩
end Go.Proofs.YtfiocnjogbpgoaaGreatDoor
namespace Go.Proofs.YtfiocnjogbpgoaaGreatDoor
open Go.RowKit
set_option linter.unusedVariables false
set_option linter.unusedSimpArgs false

/-- Several values are put in. -/
def setL : List Value → Nat → List Value → List Value
  | l, _, [] => l
  | l, o, v :: r => setL (l.set o v) (o + 1) r
theorem setL_mid : ∀ (cs old a b : List Value), old.length = cs.length → setL (a ++ (old ++ b)) a.length cs = a ++ (cs ++ b)
  | [], [], a, b, _ => rfl
  | [], _ :: _, _, _, h => by simp at h
  | _ :: _, [], _, _, h => by simp at h
  | c :: cs, o :: old, a, b, h => by
    unfold setL
    rw [List.set_append_right _ _ (Nat.le_refl _), Nat.sub_self, List.cons_append, List.set_cons_zero]
    have := setL_mid cs old (a ++ [c]) b (by simpa using h)
    simpa using this
theorem own_setL {B : Nat} {e : TypeId} {size n cap g : Nat} : ∀ (vs : List Value) (o : Nat) (w : World) (xs : List Value), w.ownsRow B e size (.slice (some ⟨g, 0, none⟩) n cap) n xs → (w.setCells g o vs).ownsRow B e size (.slice (some ⟨g, 0, none⟩) n cap) n (setL xs o vs)
  | [], _, _, _, h => h
  | v :: r, o, w, xs, h => by
    unfold World.setCells setL
    exact own_setL r (o + 1) _ _ (own_setV h o v)
section
variable {α : Type} {E : Enc α} {t : TypeId}
theorem OwnE.ld {k : Nat} (T : RowT t k) (hk : E.k = k) {w : World} {B g n cap : Nat} {xs : List α} (h : OwnE E t B w (.slice (some ⟨g, 0, none⟩) n cap) xs) {j : Nat} {x : α} (hx : xs[j]? = some x) :
    (ldT t (.pointer (some ⟨g, j * k, none⟩))).run Tryz.prog w = .ok (.value (.agg (E.enc x).toArray)) w := by
  have h0 := h
  subst hk
  refine ldT_run T (E.len x) (fun i v hv => ?_)
  have := World.ownsRow.cells h0 (g := g) rfl _ _ (E.cells_get xs j x hx i v hv)
  rwa [Addr.add_lit, Nat.zero_add] at this
theorem OwnE.ldAt {t' : TypeId} {k m : Nat} (T : RowT t' m) (hk : E.k = k) {w : World} {B g n cap : Nat} {xs : List α} (h : OwnE E t B w (.slice (some ⟨g, 0, none⟩) n cap) xs) {j : Nat} {x : α} (hx : xs[j]? = some x) (o : Nat) (ds rest : List Value) (hl : ds.length = m) (hd : (E.enc x).drop o = ds ++ rest) :
    (ldT t' (.pointer (some ⟨g, j * k + o, none⟩))).run Tryz.prog w = .ok (.value (.agg ds.toArray)) w := by
  have h0 := h
  subst hk
  refine ldT_run T hl (fun i v hv => ?_)
  have hi := (List.getElem?_eq_some_iff.1 hv).1
  have h1 : ((E.enc x).drop o)[i]? = some v := by rw [hd, List.getElem?_append_left hi]; exact hv
  rw [List.getElem?_drop] at h1
  have := World.ownsRow.cells h0 (g := g) rfl _ _ (E.cells_get xs j x hx (o + i) v h1)
  rw [Addr.add_lit, Nat.zero_add, ← Nat.add_assoc] at this
  exact this
theorem OwnE.cell {w : World} {B g n cap : Nat} {xs : List α} (h : OwnE E t B w (.slice (some ⟨g, 0, none⟩) n cap) xs) {j : Nat} {x : α} (hx : xs[j]? = some x) {i : Nat} {v : Value} (hv : (E.enc x)[i]? = some v) : w.cell? ⟨g, j * E.k + i, none⟩ = some v := by
  have := World.ownsRow.cells h (g := g) rfl _ _ (E.cells_get xs j x hx i v hv)
  rwa [Addr.add_lit, Nat.zero_add] at this
/-- The store of a part of the last element, as one step. -/
theorem stT_own {t' : TypeId} {m : Nat} (T : RowT t' m) {w : World} {B g n cap : Nat} {xs : List α} {x : α} (h : OwnE E t B w (.slice (some ⟨g, 0, none⟩) n cap) xs) {j : Nat} (hx : xs[j]? = some x) (o : Nat) (cs : List Value) (ho : o + m ≤ E.k) (hl : cs.length = m) (h1 : ∀ v ∈ cs, v.oneCell' = true) :
    (stT t' (.pointer (some ⟨g, j * E.k + o, none⟩)) (.agg cs.toArray)).run Tryz.prog w = .ok .skip (w.setCells g (j * E.k + o) cs) := by
  unfold stT
  have hf : ∀ q, w.frozen? ⟨g, q, none⟩ = false := by
    have h0 := h
    rcases h0.2 with ⟨hv, _⟩ | ⟨g', cap', cur, hv, hg, hh, _⟩
    · cases hv
    · cases hv; exact fun q => frozen_of_row w g q _ _ hh
  have ht : w.there g (j * E.k + o) cs.toArray.size := by
    intro i hi
    have hi' : i < m := by rw [← hl]; simpa using hi
    have hb : o + i < (E.enc x).length := by rw [E.len]; omega
    refine ⟨?_, hf _⟩
    rw [show j * E.k + o + i = j * E.k + (o + i) by omega, h.cell hx (List.getElem?_eq_getElem hb)]
    rfl
  have hs := run_storeAt_mid (P := Tryz.prog) w g (j * E.k + o) t' cs.toArray ht (by rw [T.size]; simp [hl]) (all_oneCell_toArray h1)
  simp only [Sem.run_bind, hs, Result.andThen_ok, Sem.run_pure]
theorem below_setC {B b : Nat} {a : World} (hb : B ≤ b) : ∀ (vs : List Value) (o : Nat) (w : World), Below B a w → Below B a (w.setCells b o vs)
  | [], _, _, h => h
  | v :: r, o, w, h => by
    unfold World.setCells
    exact below_setC hb r (o + 1) _ (h.setCell (p := ⟨b, o, none⟩) hb v)
end
theorem stT_own' {α : Type} {E : Enc α} {t t' : TypeId} {m k : Nat} (T : RowT t' m) (hk : E.k = k) {w : World} {B g n cap : Nat} {xs : List α} {x : α} (h : OwnE E t B w (.slice (some ⟨g, 0, none⟩) n cap) xs) {j : Nat} (hx : xs[j]? = some x) (o : Nat) (cs : List Value) (ho : o + m ≤ k) (hl : cs.length = m) (h1 : ∀ v ∈ cs, v.oneCell' = true) :
    (stT t' (.pointer (some ⟨g, j * k + o, none⟩)) (.agg cs.toArray)).run Tryz.prog w = .ok .skip (w.setCells g (j * k + o) cs) := by
  subst hk; exact stT_own T h hx o cs ho hl h1
theorem own_setAt {α : Type} {E : Enc α} {t : TypeId} {k : Nat} (hk : E.k = k) {w : World} {B g n cap : Nat} {xs : List α} {j : Nat} {x x' : α} (h : OwnE E t B w (.slice (some ⟨g, 0, none⟩) n cap) xs) (hn : n = xs.length) (hx : xs[j]? = some x) :
    OwnE E t B (w.setCells g (j * k) (E.enc x')) (.slice (some ⟨g, 0, none⟩) n cap) (xs.set j x') := by
  subst hk
  obtain ⟨hj, hxe⟩ := List.getElem?_eq_some_iff.1 hx
  have e1 : xs = xs.take j ++ x :: xs.drop (j + 1) := by rw [← hxe, List.getElem_cons_drop, List.take_append_drop]
  have e2 : xs.set j x' = xs.take j ++ x' :: xs.drop (j + 1) := List.set_eq_take_append_cons_drop.trans (if_pos hj)
  have hl : (xs.take j).length = j := by rw [List.length_take]; omega
  unfold OwnE at *
  have hs : (xs.set j x').length = xs.length := List.length_set
  rw [hs, ← hn]
  rw [← hn] at h
  have h2 := own_setL (E.enc x') (j * E.k) w _ h
  have c1 : E.cells xs = E.cells (xs.take j) ++ (E.enc x ++ E.cells (xs.drop (j + 1))) := by
    have := congrArg E.cells e1
    rwa [E.cells_app, E.cells_cons] at this
  have c2 : E.cells (xs.set j x') = E.cells (xs.take j) ++ (E.enc x' ++ E.cells (xs.drop (j + 1))) := by rw [e2, E.cells_app, E.cells_cons]
  rw [c2]
  have h3 := setL_mid (E.enc x') (E.enc x) (E.cells (xs.take j)) (E.cells (xs.drop (j + 1))) (by rw [E.len, E.len])
  rw [E.cells_len, hl, ← c1] at h3
  rwa [h3] at h2
theorem setL_lt : ∀ (vs : List Value) (o : Nat) (xs : List Value) (i : Nat), i < o → (setL xs o vs)[i]? = xs[i]?
  | [], _, _, _, _ => rfl
  | v :: r, o, xs, i, h => by
    unfold setL
    rw [setL_lt r (o + 1) _ i (by omega), List.getElem?_set_ne (by omega)]

/-- 'clear' of a slice of elements of some cells. -/
theorem run_clear_row {P : Program} (w : World) (t e ty : TypeId) (z : Value) (ht : P.underlying t = some (.slice e)) (hv : ∀ w, (zeroValue e).run P w = .ok z w) (b o n c : Nat) (hn : 0 < n) (L : List Value) (hL : (Builtin.zeroCells z.cells n).toList = L) (h1 : ∀ v ∈ L, v.oneCell' = true)
    (hc : ∀ j, j < L.length → (w.cell? ⟨b, o + j, none⟩).isSome = true) (hf : ∀ j, j < L.length → w.frozen? ⟨b, o + j, none⟩ = false) :
    (Builtin.clear_ #[t] ty #[.slice (some ⟨b, o, none⟩) n c]).run P w = .ok (.tuple #[]) (w.setCells b o L) := by
  have hst := run_storeCells_cells (P := P) b o L 0 w (by simpa using hc) (by simpa using hf) h1
  simp only [Nat.add_zero] at hst
  obtain ⟨m, rfl⟩ : ∃ m, n = m + 1 := ⟨n - 1, by omega⟩
  simp [Builtin.clear_, run_underlying ht, hv, hL, hst]
end Go.Proofs.YtfiocnjogbpgoaaGreatDoor
namespace Go.Proofs.YtfiocnjogbpgoaaGreatDoor
open Go.RowKit
set_option linter.unusedVariables false
set_option linter.unusedSimpArgs false

open Classical in
/-- The first ones of a list, without those that are as the one ahead. -/
noncomputable def sqz (xs : List Rp) : Nat → List Rp
  | 0 => []
  | 1 => xs.take 1
  | j + 2 => if xs[j + 1]? = xs[j]? then sqz xs (j + 1) else sqz xs (j + 1) ++ (xs[j + 1]?).toList
def CpI (xs : List Rp) (j : Nat) (zs : List Rp) : Prop := zs = sqz xs j
theorem CpI.same {xs : List Rp} {j : Nat} {zs : List Rp} (h : CpI xs (j + 1) zs) {y : Rp} (hy : xs[j + 1]? = some y) (hy' : xs[j]? = some y) : CpI xs (j + 2) zs := by
  unfold CpI sqz
  rw [if_pos (by rw [hy, hy'])]
  exact h
theorem CpI.next {xs : List Rp} {j : Nat} {zs : List Rp} (h : CpI xs (j + 1) zs) {y z : Rp} (hy : xs[j + 1]? = some y) (hy' : xs[j]? = some z) (hne : y ≠ z) : CpI xs (j + 2) (zs ++ [y]) := by
  unfold CpI sqz
  rw [if_neg (by rw [hy, hy']; intro e; injection e with e; exact hne e), hy]
  rw [show zs = sqz xs (j + 1) from h]
  rfl
theorem CpI.one {xs : List Rp} {x : Rp} (hx : xs[0]? = some x) : CpI xs 1 [x] := by
  unfold CpI sqz
  rw [List.take_add_one, hx]
  rfl

/-- The row while it is compacted: what is kept ahead, what is still to be looked at behind. -/
def CpR (xs : List Rp) (c j : Nat) (ys : List Rp) : Prop := ys.length = xs.length ∧ c ≤ j ∧ CpI xs (j + 1) (ys.take c) ∧ ys.drop j = xs.drop j
theorem CpR.skip {xs : List Rp} {c j : Nat} {ys : List Rp} (h : CpR xs c j ys) {y : Rp} (hy : xs[j + 1]? = some y) (hy' : xs[j]? = some y) : CpR xs c (j + 1) ys := by
  refine ⟨h.1, by have := h.2.1; omega, h.2.2.1.same hy hy', ?_⟩
  have := congrArg (List.drop 1) h.2.2.2
  rwa [List.drop_drop, List.drop_drop] at this
theorem CpR.put {xs : List Rp} {c j : Nat} {ys : List Rp} (h : CpR xs c j ys) {y z : Rp} (hy : xs[j + 1]? = some y) (hy' : xs[j]? = some z) (hne : y ≠ z) : CpR xs (c + 1) (j + 1) (ys.set c y) := by
  have hj : j + 1 < xs.length := (List.getElem?_eq_some_iff.1 hy).1
  have hc := h.2.1
  have hl := h.1
  refine ⟨by rw [List.length_set]; exact h.1, by omega, ?_, ?_⟩
  · have e : (ys.set c y).take (c + 1) = ys.take c ++ [y] := by
      rw [List.take_add_one, List.take_set, List.getElem?_set_self (by omega)]
      rw [List.set_eq_of_length_le (by rw [List.length_take]; omega)]
      rfl
    rw [e]
    exact h.2.2.1.next hy hy' hne
  · rw [List.drop_set, if_pos (by omega)]
    have := congrArg (List.drop 1) h.2.2.2
    rwa [List.drop_drop, List.drop_drop] at this

/-- The rest of a row is cleared. -/
theorem clear_rest {w : World} {B g n cap c : Nat} {ys : List Rp} (h : OwnE eRp 56 B w (.slice (some ⟨g, 0, none⟩) n cap) ys) (hn : n = ys.length) (hc : c < n) (hz : ∀ w, (zeroValue 56).run Tryz.prog w = .ok zRp w) (m : Nat) :
    ∃ L, ∀ ty, (Builtin.clear_ #[49] ty #[.slice (some ⟨g, c * 14, none⟩) (n - c) m]).run Tryz.prog w = .ok (.tuple #[]) (w.setCells g (c * 14) L) := by
  obtain ⟨L, hL⟩ : ∃ L, (Builtin.zeroCells zRp.cells (n - c)).toList = L := ⟨_, rfl⟩
  have e3 : eRp.k = 14 := rfl
  have hLl : L.length = (n - c) * 14 := by rw [← hL]; simp [Builtin.zeroCells]; rfl
  refine ⟨L, fun ty => run_clear_row w _ _ ty zRp Tryz.underlying49 hz g (c * 14) (n - c) m (by omega) L hL ?_ ?_ ?_⟩
  · intro v hv
    rw [← hL] at hv
    simp only [Builtin.zeroCells, Array.toList_map, List.mem_map] at hv
    obtain ⟨i, _, rfl⟩ := hv
    have hs : zRp.cells.size = 14 := rfl
    have hi : i % zRp.cells.size < 14 := by rw [hs]; exact Nat.mod_lt _ (by decide)
    have hall : ∀ j, j < 14 → (zRp.cells[j]!).oneCell' = true := by decide
    exact hall _ hi
  · intro j hj
    rw [hLl] at hj
    have hlen : c * 14 + j < (eRp.cells ys).length := by rw [eRp.cells_len, e3, ← hn]; omega
    have h4 := World.ownsRow.cells h (g := g) rfl (c * 14 + j) _ (List.getElem?_eq_getElem hlen)
    rw [Addr.add_lit, Nat.zero_add] at h4
    rw [h4]; rfl
  · intro j _
    rcases h.2 with ⟨hv, _⟩ | ⟨g', cap', cur, hv, hB, hh, _⟩
    · cases hv
    · cases hv; exact frozen_of_row w g _ _ _ hh

theorem zeroRp_run (w : World) : (zeroValue 56).run Tryz.prog w = .ok zRp w := by
  kernel_rfl

end Go.Proofs.YtfiocnjogbpgoaaGreatDoor
namespace Go.Proofs.YtfiocnjogbpgoaaGreatDoor
open Go.RowKit
set_option linter.unusedVariables false
set_option linter.unusedSimpArgs false

def LtR (x y : Rp) : Prop := cmpRp x y < 0
theorem LtR.irrefl (x : Rp) : ¬ LtR x x := by unfold LtR; rw [cm_rp.self]; decide
theorem LtR.trans {x y z : Rp} (a : LtR x y) (b : LtR y z) : LtR x z := cm_rp.lt (Int.le_of_lt a) (Int.le_of_lt b) (.inl a)
theorem strict_unique : ∀ l m : List Rp, l.Pairwise LtR → m.Pairwise LtR → (∀ x, x ∈ l ↔ x ∈ m) → l = m
  | [], [], _, _, _ => rfl
  | [], y :: m, _, _, h => absurd ((h y).2 List.mem_cons_self) List.not_mem_nil
  | x :: l, [], _, _, h => absurd ((h x).1 List.mem_cons_self) List.not_mem_nil
  | x :: l, y :: m, hl, hm, h => by
    rw [List.pairwise_cons] at hl hm
    have e : x = y := by
      rcases List.mem_cons.1 ((h x).1 List.mem_cons_self) with e | e
      · exact e
      · rcases List.mem_cons.1 ((h y).2 List.mem_cons_self) with f | f
        · exact f.symm
        · exact absurd (LtR.trans (hm.1 x e) (hl.1 y f)) (LtR.irrefl y)
    subst e
    rw [strict_unique l m hl.2 hm.2 (fun z => ⟨fun hz => by
      rcases List.mem_cons.1 ((h z).1 (List.mem_cons_of_mem _ hz)) with e | e
      · subst e; exact absurd (hl.1 z hz) (LtR.irrefl z)
      · exact e, fun hz => by
      rcases List.mem_cons.1 ((h z).2 (List.mem_cons_of_mem _ hz)) with e | e
      · subst e; exact absurd (hm.1 z hz) (LtR.irrefl z)
      · exact e⟩)]

end Go.Proofs.YtfiocnjogbpgoaaGreatDoor
namespace Go.Proofs.YtfiocnjogbpgoaaGreatDoor
open Go.RowKit
set_option linter.unusedVariables false
set_option linter.unusedSimpArgs false

/-- Two different reports stand in one place. -/
def Conf (ms : List Rp) : Prop := ∃ x ∈ ms, ∃ y ∈ ms, x ≠ y ∧ cmpRp x y = 0
/-- What two lists are made: nothing if two different reports stand in one place. -/
def Mg (ms : List Rp) (zs : List Rp) : Prop := ¬ Conf ms ∧ zs.Pairwise LtR ∧ ∀ x, x ∈ zs ↔ x ∈ ms
theorem Mg.unique {ms zs zs' : List Rp} (h : Mg ms zs) (h' : Mg ms zs') : zs = zs' := strict_unique _ _ h.2.1 h'.2.1 (fun x => (h.2.2 x).trans (h'.2.2 x).symm)
end Go.Proofs.YtfiocnjogbpgoaaGreatDoor
namespace Go.Proofs.YtfiocnjogbpgoaaGreatDoor
open Go.RowKit
set_option linter.unusedVariables false
set_option linter.unusedSimpArgs false

end Go.Proofs.YtfiocnjogbpgoaaGreatDoor
namespace Go.Proofs.YtfiocnjogbpgoaaGreatDoor
open Go.RowKit
set_option linter.unusedVariables false
set_option linter.unusedSimpArgs false

/-- What a merge gives. -/
def MgP (w : World) (ms : List Rp) (e : Ending) (w' : World) : Prop := Below w.heap.size w w' ∧ ((Conf ms ∧ e = .returned (.tuple #[.slice none 0 0, .int .i64 13])) ∨ ∃ A m cap zs, Mg ms zs ∧ SlE eRp w' A m cap zs ∧ m ≤ 100000 ∧ ((3000 < m ∧ e = .returned (.tuple #[.slice none 0 0, .int .i64 2])) ∨ (m ≤ 3000 ∧ e = .returned (.tuple #[.slice A m cap, .int .i64 0]))))

end Go.Proofs.YtfiocnjogbpgoaaGreatDoor
namespace Go.Proofs.YtfiocnjogbpgoaaGreatDoor
open Go.RowKit
set_option linter.unusedVariables false
set_option linter.unusedSimpArgs false

end Go.Proofs.YtfiocnjogbpgoaaGreatDoor
namespace Go.Proofs.YtfiocnjogbpgoaaGreatDoor
open Go.RowKit
set_option linter.unusedVariables false
set_option linter.unusedSimpArgs false

theorem MgP.ahead {w w1 : World} {ms : List Rp} {e : Ending} {w' : World} (hb : Below w.heap.size w w1) (h : MgP w1 ms e w') : MgP w ms e w' := ⟨hb.trans (h.1.mono hb.size), h.2⟩

end Go.Proofs.YtfiocnjogbpgoaaGreatDoor
namespace Go.Proofs.YtfiocnjogbpgoaaGreatDoor
open Go.RowKit
set_option linter.unusedVariables false
set_option linter.unusedSimpArgs false

/-- The sum of those at one place of the order. -/
def sumAt (f : Rp → Int) (z : Rp) : List Rp → Int
  | [] => 0
  | x :: r => if cmpRp x z = 0 then f x + sumAt f z r else sumAt f z r
theorem sumAt_app (f : Rp → Int) (z : Rp) : ∀ xs ys : List Rp, sumAt f z (xs ++ ys) = sumAt f z xs + sumAt f z ys
  | [], ys => by simp [sumAt]
  | x :: r, ys => by
    simp only [List.cons_append, sumAt]
    rw [sumAt_app f z r ys]
    split <;> omega
theorem sumAt_perm {f : Rp → Int} {z : Rp} {xs ys : List Rp} (h : xs.Perm ys) : sumAt f z xs = sumAt f z ys := by
  induction h with
  | nil => rfl
  | cons x _ ih => simp only [sumAt, ih]
  | swap x y l => simp only [sumAt]; split <;> split <;> omega
  | trans _ _ ih1 ih2 => exact ih1.trans ih2
theorem sumAt_nonneg {f : Rp → Int} {z : Rp} : ∀ {xs : List Rp}, (∀ x ∈ xs, 0 ≤ f x) → 0 ≤ sumAt f z xs
  | [], _ => by simp [sumAt]
  | x :: r, h => by
    have h1 := sumAt_nonneg (f := f) (z := z) (xs := r) (fun y hy => h y (List.mem_cons_of_mem _ hy))
    have h2 := h x (List.mem_cons_self ..)
    simp only [sumAt]
    split <;> omega
/-- Two reports of one node, hour and flow, in or out. -/
def SameK (x y : Rp) : Prop := x.node = y.node ∧ x.hour = y.hour ∧ x.out = y.out ∧ x.fl = y.fl
theorem SameK.cmp {x y : Rp} (h : SameK x y) (z : Rp) : cmpRp z x = cmpRp z y := by
  obtain ⟨h1, h2, h3, h4⟩ := h
  unfold cmpRp
  rw [h1, h2, h3, h4]
theorem SameK.zero {x y : Rp} (h : SameK x y) : cmpRp x y = 0 := by rw [← h.cmp x]; exact cm_rp.self x
theorem n_inj {a b : Ad} (ha : a.U) (hb : b.U) (h : a.n = b.n) : a = b := by
  have h1 := ha.v_lt
  have h2 := hb.v_lt
  obtain ⟨⟨p1, p2⟩, ⟨p3, p4⟩⟩ := ha
  obtain ⟨⟨q1, q2⟩, ⟨q3, q4⟩⟩ := hb
  obtain ⟨s, hi, lo⟩ := a
  obtain ⟨s', hi', lo'⟩ := b
  have hv : s = s' ∧ num hi lo = num hi' lo' := by
    unfold Ad.n s2n Ad.v at h
    unfold Ad.v at h1 h2
    simp only at h h1 h2
    cases s <;> cases s' <;> simp at h ⊢ <;> omega
  obtain ⟨rfl, hv⟩ := hv
  unfold num at hv
  simp only at p1 p2 p3 p4 q1 q2 q3 q4
  have e : hi = hi' ∧ lo = lo' := by constructor <;> omega
  rw [e.1, e.2]
theorem cmp_zero {x y : Rp} (hx : x.U) (hy : y.U) (h : cmpRp x y = 0) : SameK x y := by
  have ci : ∀ a b : Int, Lib.compareInt a b = 0 → a = b := fun a b h => by
    unfold Lib.compareInt at h
    split at h
    · cases h
    · split at h
      · cases h
      · omega
  have cn : ∀ a b : Nat, cmpN a b = 0 → a = b := fun a b h => by
    by_cases e : a = b
    · exact e
    · exact absurd h (cmpN_ne e)
  have key : ∀ (a : Int) (l : List Int), firstZ (a :: l) = 0 → a = 0 ∧ firstZ l = 0 := fun a l h => by
    rw [firstZ_thn] at h
    by_cases e : a = 0
    · rw [if_pos e] at h; exact ⟨e, h⟩
    · rw [if_neg e] at h; exact absurd h e
  unfold cmpRp at h
  obtain ⟨h1, h⟩ := key _ _ h
  obtain ⟨h2, h⟩ := key _ _ h
  obtain ⟨h3, h⟩ := key _ _ h
  obtain ⟨h4, _⟩ := key _ _ h
  unfold cmpFl at h4
  obtain ⟨k1, h4⟩ := key _ _ h4
  obtain ⟨k2, h4⟩ := key _ _ h4
  obtain ⟨k3, h4⟩ := key _ _ h4
  obtain ⟨k4, h4⟩ := key _ _ h4
  obtain ⟨k5, _⟩ := key _ _ h4
  refine ⟨?_, ci _ _ h1, ?_, ?_⟩
  · by_cases e : x.node = y.node
    · exact e
    · exact absurd h2 (compareBytes_ne e)
  · have := ci _ _ h3
    unfold rank at this
    clear h h1 h2 h3 h4 k1 k2 k3 k4 k5 hx hy key cn ci
    revert this
    cases x.out <;> cases y.out <;> simp
  · have e1 := ci _ _ k1
    have e2 := n_inj hx.1.1 hy.1.1 (cn _ _ k2)
    have e3 := n_inj hx.1.2.1 hy.1.2.1 (cn _ _ k3)
    have e4 := ci _ _ k4
    have e5 := ci _ _ k5
    obtain ⟨_, _, _, ⟨p, f, t, fp, tp⟩, _, _⟩ := x
    obtain ⟨_, _, _, ⟨p', f', t', fp', tp'⟩, _, _⟩ := y
    simp only at e1 e2 e3 e4 e5
    subst e1 e2 e3 e4 e5
    rfl
theorem sumAt_key (f : Rp → Int) {z z' : Rp} (h : SameK z z') : ∀ xs : List Rp, sumAt f z xs = sumAt f z' xs
  | [] => rfl
  | x :: r => by simp only [sumAt]; rw [sumAt_key f h r, h.cmp x]

def sat (n : Int) : Int := min n 1000000000000
/-- What a list of reports comes to when those of one place are put together. -/
structure Tog (ms zs : List Rp) : Prop where
  srt : zs.Pairwise LtR
  key : ∀ z ∈ zs, ∃ x ∈ ms, SameK x z
  all : ∀ x ∈ ms, ∃ z ∈ zs, cmpRp x z = 0
  pk : ∀ z ∈ zs, z.pk = sat (sumAt Rp.pk z ms)
  by_ : ∀ z ∈ zs, z.by_ = sat (sumAt Rp.by_ z ms)
theorem Tog.sub {ms zs zs' : List Rp} (hU : ∀ x ∈ ms, x.U) (h : Tog ms zs) (h' : Tog ms zs') {z : Rp} (hz : z ∈ zs) : z ∈ zs' := by
  obtain ⟨x, hx, hxz⟩ := h.key z hz
  obtain ⟨z', hz', h0⟩ := h'.all x hx
  obtain ⟨x', hx', hxz'⟩ := h'.key z' hz'
  have h1 : cmpRp x x' = 0 := by rw [hxz'.cmp x]; exact h0
  have h2 := cmp_zero (hU x hx) (hU x' hx') h1
  have hk : SameK z z' := ⟨hxz.1.symm.trans (h2.1.trans hxz'.1), hxz.2.1.symm.trans (h2.2.1.trans hxz'.2.1), hxz.2.2.1.symm.trans (h2.2.2.1.trans hxz'.2.2.1), hxz.2.2.2.symm.trans (h2.2.2.2.trans hxz'.2.2.2)⟩
  have e1 : z.pk = z'.pk := by rw [h.pk z hz, h'.pk z' hz', sumAt_key _ hk]
  have e2 : z.by_ = z'.by_ := by rw [h.by_ z hz, h'.by_ z' hz', sumAt_key _ hk]
  have e : z = z' := by
    obtain ⟨k1, k2, k3, k4⟩ := hk
    cases z; cases z'
    simp_all
  rw [e]
  exact hz'
theorem Tog.unique {ms zs zs' : List Rp} (hU : ∀ x ∈ ms, x.U) (h : Tog ms zs) (h' : Tog ms zs') : zs = zs' :=
  strict_unique _ _ h.srt h'.srt (fun _ => ⟨fun k => h.sub hU h' k, fun k => h'.sub hU h k⟩)
theorem Tog.perm {ms ms' zs : List Rp} (hp : ms.Perm ms') (h : Tog ms zs) : Tog ms' zs :=
  ⟨h.srt, fun z hz => by obtain ⟨x, hx, k⟩ := h.key z hz; exact ⟨x, hp.mem_iff.1 hx, k⟩, fun x hx => h.all x (hp.mem_iff.2 hx), fun z hz => by rw [h.pk z hz, sumAt_perm hp], fun z hz => by rw [h.by_ z hz, sumAt_perm hp]⟩
theorem Tog.nil : Tog [] [] := ⟨List.Pairwise.nil, by simp, by simp, by simp, by simp⟩

/-- Packets and bytes of a right report. -/
def Rp.N (x : Rp) : Prop := 0 ≤ x.pk ∧ x.pk ≤ 1000000000000 ∧ 0 ≤ x.by_ ∧ x.by_ ≤ 1000000000000
theorem sumAt_none {f : Rp → Int} {z : Rp} : ∀ {xs : List Rp}, (∀ x ∈ xs, cmpRp x z ≠ 0) → sumAt f z xs = 0
  | [], _ => rfl
  | x :: r, h => by
    simp only [sumAt]
    rw [if_neg (h x (List.mem_cons_self ..)), sumAt_none (fun y hy => h y (List.mem_cons_of_mem _ hy))]
/-- One more, of a place behind. -/
theorem Tog.new {ps zs : List Rp} {r : Rp} (h : Tog ps zs) (hN : r.N) (hlt : ∀ z ∈ zs, LtR z r) : Tog (ps ++ [r]) (zs ++ [r]) := by
  have hz0 : ∀ z ∈ zs, cmpRp r z ≠ 0 := fun z hz e => by
    have h1 : cmpRp z r < 0 := hlt z hz
    have h2 := cm_rp.anti r z
    omega
  have hp0 : ∀ x ∈ ps, cmpRp x r ≠ 0 := fun x hx e => by
    obtain ⟨z, hz, hxz⟩ := h.all x hx
    have h1 : cmpRp z r < 0 := hlt z hz
    have h2 := cm_rp.anti x z
    have h3 := cm_rp.lt (x := x) (y := z) (z := r) (by omega) (by omega) (.inr h1)
    omega
  refine ⟨?_, ?_, ?_, ?_, ?_⟩
  · rw [List.pairwise_append]
    exact ⟨h.srt, List.pairwise_singleton _ _, fun a ha b hb => by rw [List.mem_singleton.1 hb]; exact hlt a ha⟩
  · intro z hz
    rcases List.mem_append.1 hz with k | k
    · obtain ⟨x, hx, hk⟩ := h.key z k
      exact ⟨x, List.mem_append_left _ hx, hk⟩
    · rw [List.mem_singleton.1 k]
      exact ⟨r, by simp, rfl, rfl, rfl, rfl⟩
  · intro x hx
    rcases List.mem_append.1 hx with k | k
    · obtain ⟨z, hz, h0⟩ := h.all x k
      exact ⟨z, List.mem_append_left _ hz, h0⟩
    · rw [List.mem_singleton.1 k]
      exact ⟨r, by simp, cm_rp.self r⟩
  · intro z hz
    rw [sumAt_app]
    rcases List.mem_append.1 hz with k | k
    · simp only [sumAt]
      rw [if_neg (hz0 z k), Int.add_zero]
      exact h.pk z k
    · rw [List.mem_singleton.1 k, sumAt_none hp0]
      simp only [sumAt]
      rw [if_pos (cm_rp.self r)]
      unfold sat
      have := hN.2.1
      omega
  · intro z hz
    rw [sumAt_app]
    rcases List.mem_append.1 hz with k | k
    · simp only [sumAt]
      rw [if_neg (hz0 z k), Int.add_zero]
      exact h.by_ z k
    · rw [List.mem_singleton.1 k, sumAt_none hp0]
      simp only [sumAt]
      rw [if_pos (cm_rp.self r)]
      unfold sat
      have := hN.2.2.2
      omega
/-- Two reports of one place put together. -/
def putT (x y : Rp) : Rp := { x with pk := sat (x.pk + y.pk), by_ := sat (x.by_ + y.by_) }
theorem putT_key (x y : Rp) : SameK (putT x y) x := ⟨rfl, rfl, rfl, rfl⟩
/-- One more, of the last place. -/
theorem Tog.last {ps zs : List Rp} {r z : Rp} (h : Tog ps (zs ++ [z])) (hN : r.N) (hP : ∀ x ∈ ps, x.N) (h0 : cmpRp z r = 0) : Tog (ps ++ [r]) (zs ++ [putT z r]) := by
  have hs := h.srt
  rw [List.pairwise_append] at hs
  obtain ⟨hs1, _, hs3⟩ := hs
  have hlt : ∀ w ∈ zs, LtR w z := fun w hw => hs3 w hw z (by simp)
  have hr0 : cmpRp r z = 0 := by rw [cm_rp.anti z r]; omega
  have hk := putT_key z r
  have hw0 : ∀ w ∈ zs, cmpRp r w ≠ 0 := fun w hw e => by
    have h1 : cmpRp w z < 0 := hlt w hw
    have h2 := cm_rp.anti r w
    have h3 := cm_rp.lt (x := w) (y := z) (z := r) (by omega) (by omega) (.inl h1)
    omega
  have hzN1 := sumAt_nonneg (f := Rp.pk) (z := z) (xs := ps) (fun x hx => (hP x hx).1)
  have hzN2 := sumAt_nonneg (f := Rp.by_) (z := z) (xs := ps) (fun x hx => (hP x hx).2.2.1)
  refine ⟨?_, ?_, ?_, ?_, ?_⟩
  · rw [List.pairwise_append]
    exact ⟨hs1, List.pairwise_singleton _ _, fun a ha b hb => by
      rw [List.mem_singleton.1 hb]
      show cmpRp a (putT z r) < 0
      rw [hk.cmp a]
      exact hlt a ha⟩
  · intro w hw
    rcases List.mem_append.1 hw with k | k
    · obtain ⟨x, hx, hkx⟩ := h.key w (List.mem_append_left _ k)
      exact ⟨x, List.mem_append_left _ hx, hkx⟩
    · rw [List.mem_singleton.1 k]
      obtain ⟨x, hx, hkx⟩ := h.key z (by simp)
      exact ⟨x, List.mem_append_left _ hx, hkx.1, hkx.2.1, hkx.2.2.1, hkx.2.2.2⟩
  · intro x hx
    rcases List.mem_append.1 hx with k | k
    · obtain ⟨w, hw, hxw⟩ := h.all x k
      rcases List.mem_append.1 hw with k2 | k2
      · exact ⟨w, List.mem_append_left _ k2, hxw⟩
      · rw [List.mem_singleton.1 k2] at hxw
        exact ⟨putT z r, by simp, by rw [hk.cmp x]; exact hxw⟩
    · rw [List.mem_singleton.1 k]
      exact ⟨putT z r, by simp, by rw [hk.cmp r]; exact hr0⟩
  · intro w hw
    rw [sumAt_app]
    rcases List.mem_append.1 hw with k | k
    · simp only [sumAt]
      rw [if_neg (hw0 w k), Int.add_zero]
      exact h.pk w (List.mem_append_left _ k)
    · rw [List.mem_singleton.1 k, sumAt_key _ hk, sumAt_key _ hk]
      simp only [sumAt]
      rw [if_pos hr0]
      have e := h.pk z (by simp)
      show sat (z.pk + r.pk) = _
      rw [e]
      unfold sat
      have := hN.1
      omega
  · intro w hw
    rw [sumAt_app]
    rcases List.mem_append.1 hw with k | k
    · simp only [sumAt]
      rw [if_neg (hw0 w k), Int.add_zero]
      exact h.by_ w (List.mem_append_left _ k)
    · rw [List.mem_singleton.1 k, sumAt_key _ hk, sumAt_key _ hk]
      simp only [sumAt]
      rw [if_pos hr0]
      have e := h.by_ z (by simp)
      show sat (z.by_ + r.by_) = _
      rw [e]
      unfold sat
      have := hN.2.2.1
      omega
/-- Lists of places that follow each other. -/
theorem Tog.app {ms zs ns : List Rp} (h : Tog ms zs) (hn : ns.Pairwise LtR) (hN : ∀ x ∈ ns, x.N) (hlt : ∀ z ∈ zs, ∀ x ∈ ns, LtR z x) : Tog (ms ++ ns) (zs ++ ns) := by
  induction ns generalizing ms zs with
  | nil => simpa using h
  | cons x r ih =>
    rw [List.pairwise_cons] at hn
    have h1 := h.new (hN x (List.mem_cons_self ..)) (fun z hz => hlt z hz x (List.mem_cons_self ..))
    have h2 := ih h1 hn.2 (fun y hy => hN y (List.mem_cons_of_mem _ hy)) (fun z hz y hy => by
      rcases List.mem_append.1 hz with k | k
      · exact hlt z k y (List.mem_cons_of_mem _ hy)
      · rw [List.mem_singleton.1 k]; exact hn.1 y hy)
    simpa using h2
end Go.Proofs.YtfiocnjogbpgoaaGreatDoor
namespace Go.Proofs.YtfiocnjogbpgoaaGreatDoor
open Go.RowKit
set_option linter.unusedVariables false
set_option linter.unusedSimpArgs false

/-- A string of at most m bytes. -/
def isStr (m : Nat) : Value → Bool
  | .string b => decide (b.size ≤ m)
  | _ => false
theorem isStr_get {m : Nat} {v : Value} (h : isStr m v = true) : ∃ l : List UInt8, l.length ≤ m ∧ v = .string ⟨l.toArray⟩ := by
  cases v with
  | string b => exact ⟨b.data.toList, by unfold isStr at h; simpa using h, by cases b; rfl⟩
  | _ => cases h
/-- A step of the stream b: a string of at most m bytes. -/
def StPost (m b R : Nat) (w : World) (e : Ending) (w' : World) : Prop :=
  ∃ l : List UInt8, l.length ≤ m ∧ e = .returned (.string ⟨l.toArray⟩) ∧ Str w' b R ∧ w.grownBy w' (some b)

set_option maxHeartbeats 400000 in
theorem some_any (w : World) (b R p cap n m : Nat) (vs : List Value) (t : TypeId) (hs : Str w b (R + 1)) (hb : b < p) (hB : Blk w p vs t) (hn : n = vs.length) (h1 : 1 ≤ vs.length) (h2 : vs.length ≤ 1000) (hP : vs.all (isStr m) = true) :
    Calls Tryz.prog 41 #[.pointer (some ⟨b, 0, none⟩), .slice (some ⟨p, 0, none⟩) n cap] w (StPost m b R w) := by
  subst hn
  go_enter Tryz.func41, Tryz.ntmps41
  go_wp2_with fail
  refine (next_any _ _ _ _ (by omega) (by omega) hs).mono ?_
  rintro e w' ⟨r, ⟨hr1, hr2⟩, rfl, hs', hg⟩
  obtain ⟨i, rfl⟩ := Int.eq_ofNat_of_zero_le hr1
  have hi : i < vs.length := by omega
  have hc := (hB.gb hg hb).cell (i := i) (v := vs[i]) (List.getElem?_eq_getElem hi)
  obtain ⟨l, hl, hv⟩ := isStr_get (List.all_eq_true.1 hP _ (List.getElem_mem hi))
  rw [hv] at hc
  clear hP hB hv
  go_wp2_with fail
  go_ret
  exact ⟨l, hl, rfl, hs', hg⟩
/-- Pick out of a block that is younger than the stream. -/
theorem pick_blk (w : World) (b R p n cap : Nat) (zs : List Int) (t : TypeId) (hs : Str w b (R + 1)) (hb : b < p) (hB : Blk w p (zs.map (Value.int .i64)) t) (hn : n = zs.length) (h1 : 1 ≤ zs.length) (h2 : zs.length ≤ 1000) (P : Int → Prop) (hP : ∀ z ∈ zs, P z) :
    Calls Tryz.prog 27 #[.pointer (some ⟨b, 0, none⟩), .slice (some ⟨p, 0, none⟩) n cap] w (NumPost P b R w) := by
  subst hn
  refine pick_any w b R p zs.length cap zs hs hb h1 h2 (fun i hi => hB.cell ?_) P (fun i hi => ?_)
  · rw [List.getElem?_map, List.getD_eq_getElem?_getD, List.getElem?_eq_getElem hi]; rfl
  · rw [List.getD_eq_getElem?_getD, List.getElem?_eq_getElem hi]; exact hP _ (List.getElem_mem hi)

/-- What has been written so far, and the stream. -/
structure Rd (w0 : World) (b R : Nat) (v : Value) (xs : List Rp) (w : World) : Prop where
  str : Str w b R
  own : OwnE eRp 56 w0.heap.size w v xs
  base : w0.grownBy w (some b)
  U : ∀ x ∈ xs, x.U
  lt : b < w0.heap.size
/-- A new block p beside it. -/
structure Nb (w0 : World) (b : Nat) (v : Value) (p : Nat) (cs : List Value) (t : TypeId) (w : World) : Prop where
  blk : Blk w p cs t
  lo : w0.heap.size ≤ p
  ap : v.ownBlock ≠ some p
  lt : b < w0.heap.size

theorem gb_over {a x y : World} {r : Option Nat} {p : Nat} (h : a.grownBy x r) (hg : x.grownBy y (some p)) (hp : a.heap.size ≤ p) : a.grownBy y r :=
  ⟨hg.os.trans h.os, hg.tape.trans h.tape, hg.output.trans h.output, Nat.le_trans h.size hg.size, fun k hk hne => (hg.block k (Nat.lt_of_lt_of_le hk h.size) (by intro e; cases e; omega)).trans (h.block k hk hne)⟩
theorem gb_bel {a x y : World} {r : Option Nat} {B : Nat} (h : a.grownBy x r) (hb : Below B x y) (hB : a.heap.size ≤ B) : a.grownBy y r :=
  ⟨hb.os.trans h.os, hb.tape.trans h.tape, hb.output.trans h.output, Nat.le_trans h.size hb.size, fun k hk hne => (hb.block k (Nat.lt_of_lt_of_le hk hB)).trans (h.block k hk hne)⟩
theorem gb_cell1 (w : World) (p i : Nat) (x : Value) : w.grownBy (w.setCell ⟨p, i, none⟩ x) (some p) :=
  ⟨rfl, rfl, rfl, by simp, fun k _ hne => Below.heap_setCell _ _ _ _ (by intro e; exact hne (by rw [e]))⟩
theorem gb_cellsN {g : Nat} : ∀ (vs : List Value) (o : Nat) (w : World), w.grownBy (w.setCells g o vs) (some g)
  | [], _, w => gb_refl w _
  | v :: vs, o, w => by
    unfold World.setCells
    exact gb_trans (gb_cell1 w g o v) (gb_cellsN vs (o + 1) _)
theorem gb_row (w : World) (p : Nat) (cs : List Value) : w.grownBy (w.setRow p cs.toArray) (some p) :=
  ⟨rfl, rfl, rfl, by simp [World.setRow], fun k _ hne => setRow_other _ _ _ _ (by intro e; exact hne (by rw [e]))⟩
theorem blk_cellsN {p : Nat} {t : TypeId} : ∀ (vs : List Value) (o : Nat) (w : World) (xs : List Value), Blk w p xs t → Blk (w.setCells p o vs) p (setL xs o vs) t
  | [], _, _, _, h => h
  | v :: vs, o, w, xs, h => by
    unfold World.setCells setL
    exact blk_cellsN vs (o + 1) _ _ (h.set o v)

theorem Rd.alloc {w0 w : World} {b R : Nat} {v : Value} {xs : List Rp} (h : Rd w0 b R v xs w) (o : Obj) : Rd w0 b R v xs (w.alloc o) := ⟨h.str.alloc o, h.own.below ((Below.refl _ _).alloc (Nat.le_refl _) _), gb_alloc h.base o, h.U, h.lt⟩
theorem Rd.step {w0 w w' : World} {b R R' : Nat} {v : Value} {xs : List Rp} (h : Rd w0 b R v xs w) (hs : Str w' b R') (hg : w.grownBy w' (some b)) : Rd w0 b R' v xs w' :=
  ⟨hs, h.own.gb hg (by
    cases hv : v.ownBlock with
    | none => exact .inl rfl
    | some k => exact .inr (by intro e; cases e; have := (h.own.lt _ hv).1; have := h.lt; omega)), gb_trans h.base hg, h.U, h.lt⟩
theorem Rd.below {w0 w w' : World} {b R : Nat} {v : Value} {xs : List Rp} (h : Rd w0 b R v xs w) (hb : Below w.heap.size w w') : Rd w0 b R v xs w' := ⟨h.str.below hb, h.own.below hb, gb_below h.base hb, h.U, h.lt⟩
theorem Rd.le {w0 w : World} {b R R' : Nat} {v : Value} {xs : List Rp} (h : Rd w0 b R v xs w) (hR : R' ≤ R) : Rd w0 b R' v xs w := ⟨h.str.le hR, h.own, h.base, h.U, h.lt⟩
/-- Something is written into a new block. -/
theorem Rd.turn {w0 w w' : World} {b R : Nat} {v : Value} {xs : List Rp} {p : Nat} {cs : List Value} {t : TypeId} (h : Rd w0 b R v xs w) (n : Nb w0 b v p cs t w) (hg : w.grownBy w' (some p)) : Rd w0 b R v xs w' :=
  ⟨h.str.grown hg (by have := n.lt; have := n.lo; omega), h.own.gb hg (.inr n.ap), gb_over h.base hg n.lo, h.U, h.lt⟩
theorem Nb.new {w0 w : World} {b R : Nat} {v : Value} {xs : List Rp} (h : Rd w0 b R v xs w) (cs : List Value) (t : TypeId) : Nb w0 b v w.heap.size cs t (w.alloc (.cells cs.toArray t)) :=
  ⟨Blk.new w cs t, h.base.size, by intro e; have := (h.own.lt _ e).2; omega, h.lt⟩
theorem Nb.alloc {w0 w : World} {b : Nat} {v : Value} {p : Nat} {cs : List Value} {t : TypeId} (n : Nb w0 b v p cs t w) (o : Obj) : Nb w0 b v p cs t (w.alloc o) := ⟨n.blk.alloc o, n.lo, n.ap, n.lt⟩
theorem Nb.step {w0 w w' : World} {b : Nat} {v : Value} {p : Nat} {cs : List Value} {t : TypeId} (n : Nb w0 b v p cs t w) (hg : w.grownBy w' (some b)) : Nb w0 b v p cs t w' := ⟨n.blk.gb hg (by have := n.lo; have := n.lt; omega), n.lo, n.ap, n.lt⟩
theorem Nb.below {w0 w w' : World} {b : Nat} {v : Value} {p : Nat} {cs : List Value} {t : TypeId} (n : Nb w0 b v p cs t w) (hb : Below w.heap.size w w') : Nb w0 b v p cs t w' := ⟨n.blk.below hb, n.lo, n.ap, n.lt⟩
/-- Something is written into another new block. -/
theorem Nb.turn {w0 w w' : World} {b : Nat} {v : Value} {p q : Nat} {cs : List Value} {t : TypeId} (n : Nb w0 b v p cs t w) (hg : w.grownBy w' (some q)) (hne : p ≠ q) : Nb w0 b v p cs t w' :=
  ⟨gb_heapAt hg n.blk (by intro e; cases e; exact hne rfl), n.lo, n.ap, n.lt⟩
theorem Nb.set {w0 w : World} {b : Nat} {v : Value} {p : Nat} {cs : List Value} {t : TypeId} (n : Nb w0 b v p cs t w) (i : Nat) (x : Value) : Nb w0 b v p (cs.set i x) t (w.setCell ⟨p, i, none⟩ x) := ⟨n.blk.set i x, n.lo, n.ap, n.lt⟩
theorem Nb.setC {w0 w : World} {b : Nat} {v : Value} {p : Nat} {cs : List Value} {t : TypeId} (n : Nb w0 b v p cs t w) (o : Nat) (vs : List Value) : Nb w0 b v p (setL cs o vs) t (w.setCells p o vs) := ⟨blk_cellsN vs o w cs n.blk, n.lo, n.ap, n.lt⟩
/-- The list grows. -/
theorem Rd.app {w0 w w' : World} {b R : Nat} {v v' : Value} {xs ys : List Rp} (h : Rd w0 b R v xs w) (hU : ∀ y ∈ ys, y.U) (o : Obj) (hown : OwnE eRp 56 w0.heap.size w' v' (xs ++ ys)) (hg : (w.alloc o).grownBy w' v.ownBlock) : Rd w0 b R v' (xs ++ ys) w' := by
  have hne : ∀ k, k < w0.heap.size → some k ≠ v.ownBlock := fun k hk e => by have := (h.own.lt _ e.symm).1; omega
  have hsz := h.base.size
  have hlt := h.lt
  refine ⟨h.str.upto fun j hj => (hg.block j (by simp; omega) (hne j (by omega))).trans (Below.heap_alloc _ _ _ (by omega)), hown, ?_, ?_, h.lt⟩
  · have h2 := gb_alloc h.base o
    exact ⟨hg.os.trans h2.os, hg.tape.trans h2.tape, hg.output.trans h2.output, Nat.le_trans h2.size hg.size, fun k hk hn => (hg.block k (by have := h2.size; omega) (hne k hk)).trans (h2.block k hk hn)⟩
  · intro x hx
    rcases List.mem_append.1 hx with k | k
    · exact h.U x k
    · exact hU x k
theorem Nb.app {w0 w w' : World} {b : Nat} {v v' : Value} {p : Nat} {cs : List Value} {t : TypeId} (n : Nb w0 b v p cs t w) (o : Obj) (hg : (w.alloc o).grownBy w' v.ownBlock) (hv : v'.ownBlock = v.ownBlock ∨ v'.ownBlock = some (w.heap.size + 1)) : Nb w0 b v' p cs t w' := by
  have hp := n.blk.lt
  refine ⟨?_, n.lo, ?_, n.lt⟩
  · have := hg.block p (by simp; omega) (fun e => n.ap e.symm)
    exact this.trans ((Below.heap_alloc _ _ _ hp).trans n.blk)
  · intro e
    rcases hv with h | h
    · rw [h] at e; exact n.ap e
    · rw [h] at e
      simp at e
      omega
end Go.Proofs.YtfiocnjogbpgoaaGreatDoor
namespace Go.Proofs.YtfiocnjogbpgoaaGreatDoor
open Go.RowKit
set_option linter.unusedVariables false
set_option linter.unusedSimpArgs false

def cnt9 (l : Array Bool) : Nat := (if l.getD 2 true then 0 else 1) + (if l.getD 5 true then 0 else 1) + (if l.getD 7 true then 0 else 1) + (if l.getD 11 true then 0 else 1) + (if l.getD 14 true then 0 else 1)
theorem cnt9_other {l : Array Bool} {i : Nat} (h : i ≠ 2 ∧ i ≠ 5 ∧ i ≠ 7 ∧ i ≠ 11 ∧ i ≠ 14) : cnt9 (l.setIfInBounds i true) = cnt9 l := by
  obtain ⟨h1, h2, h3, h4, h5⟩ := h
  unfold cnt9
  rw [getD_set_ne true h1, getD_set_ne true h2, getD_set_ne true h3, getD_set_ne true h4, getD_set_ne true h5]
theorem getD_set_self {l : Array Bool} {i : Nat} : (l.setIfInBounds i true).getD i true = true := by
  by_cases h : i < l.size
  · simp [Array.getD, h]
  · simp [Array.getD, h]
theorem cnt9_one {l : Array Bool} {i : Nat} (h : i = 2 ∨ i = 5 ∨ i = 7 ∨ i = 11 ∨ i = 14) (hi : l.getD i true = false) : cnt9 (l.setIfInBounds i true) + 1 = cnt9 l := by
  rcases h with rfl | rfl | rfl | rfl | rfl
  all_goals
    unfold cnt9
    rw [getD_set_self, hi]
    simp only [getD_set_ne true (show (2 : Nat) ≠ 5 by decide), getD_set_ne true (show (2 : Nat) ≠ 7 by decide), getD_set_ne true (show (2 : Nat) ≠ 11 by decide), getD_set_ne true (show (2 : Nat) ≠ 14 by decide),
      getD_set_ne true (show (5 : Nat) ≠ 2 by decide), getD_set_ne true (show (5 : Nat) ≠ 7 by decide), getD_set_ne true (show (5 : Nat) ≠ 11 by decide), getD_set_ne true (show (5 : Nat) ≠ 14 by decide),
      getD_set_ne true (show (7 : Nat) ≠ 2 by decide), getD_set_ne true (show (7 : Nat) ≠ 5 by decide), getD_set_ne true (show (7 : Nat) ≠ 11 by decide), getD_set_ne true (show (7 : Nat) ≠ 14 by decide),
      getD_set_ne true (show (11 : Nat) ≠ 2 by decide), getD_set_ne true (show (11 : Nat) ≠ 5 by decide), getD_set_ne true (show (11 : Nat) ≠ 7 by decide), getD_set_ne true (show (11 : Nat) ≠ 14 by decide),
      getD_set_ne true (show (14 : Nat) ≠ 2 by decide), getD_set_ne true (show (14 : Nat) ≠ 5 by decide), getD_set_ne true (show (14 : Nat) ≠ 7 by decide), getD_set_ne true (show (14 : Nat) ≠ 11 by decide), if_true, Bool.false_eq_true, if_false] <;> omega

/-- A slice that was made of a literal. -/
def Lit (b : Nat) (vs : List Value) (t : TypeId) (v : Value) (u : World) : Prop := ∃ p, v = .slice (some ⟨p, 0, none⟩) vs.length vs.length ∧ b < p ∧ Blk u p vs t
theorem Lit.gb {b : Nat} {vs : List Value} {t : TypeId} {v : Value} {u u' : World} (h : Lit b vs t v u) (hg : u.grownBy u' (some b)) : Lit b vs t v u' := by
  obtain ⟨p, h1, h2, h3⟩ := h
  exact ⟨p, h1, h2, h3.gb hg h2⟩
def zRpC : List Value := [.string ⟨#[]⟩, .int .i64 0, .bool false, .int .i64 0, .bool false, .int .u64 0, .int .u64 0, .bool false, .int .u64 0, .int .u64 0, .int .i64 0, .int .i64 0, .int .i64 0, .int .i64 0]
abbrev L1 : List Value := [.string ⟨#[110, 97]⟩, .string ⟨#[110, 98]⟩, .string ⟨#[110, 99]⟩, .string ⟨#[110, 100]⟩]
/-- What each operation of region 9 gives. -/
def Phi9 (w0 : World) (b : Nat) (vo : Value) (pf : Nat) (x : Fl) (i : Nat) (v : Value) (u : World) : Prop :=
  match i with
  | 0 | 3 | 6 | 9 | 12 => v = .pointer (some ⟨b, 0, none⟩)
  | 1 => Lit b L1 9 v u
  | 4 => Lit b (([0, 0, 1, 1, 2, 5, 23, 24, 30, 50, 720] : List Int).map (Value.int .i64)) 3 v u
  | 10 => Lit b (([1, 2, 10, 100] : List Int).map (Value.int .i64)) 3 v u
  | 13 => Lit b (([0, 50, 100, 110, 1000, 1000000000, 1000000001] : List Int).map (Value.int .i64)) 3 v u
  | 2 => ∃ l : List UInt8, l.length ≤ 40 ∧ v = .string ⟨l.toArray⟩
  | 5 => ∃ z : Int, i60 z ∧ v = .int .i64 z
  | 7 => ∃ r : Bool, v = .bool r
  | 8 => v = flA x
  | 11 | 14 => ∃ z : Int, v = .int .i64 z
  | 15 => ∃ r : Rp, r.fl = x ∧ r.U ∧ v = rpA r
  | 16 => ∃ p, v = .pointer (some ⟨p, 0, none⟩) ∧ p ≠ pf ∧ Nb w0 b vo p zRpC 56 u
  | _ => True
theorem Phi9.gb {w0 : World} {b : Nat} {vo : Value} {pf : Nat} {x : Fl} (i : Nat) (v : Value) (u u' : World) (hg : u.grownBy u' (some b)) (h : Phi9 w0 b vo pf x i v u) : Phi9 w0 b vo pf x i v u' := by
  unfold Phi9 at *
  split at h <;> first | exact h | exact h.gb hg | (obtain ⟨p, h1, h2, h3⟩ := h; exact ⟨p, h1, h2, h3.step hg⟩)
structure J9 (w0 : World) (b R : Nat) (vo : Value) (xs : List Rp) (pf : Nat) (x : Fl) (l : Array Bool) (u : World) : Prop where
  rd : Rd w0 b (R + cnt9 l) vo xs u
  f : Nb w0 b vo pf (flC x) 54 u
end Go.Proofs.YtfiocnjogbpgoaaGreatDoor
namespace Go.Proofs.YtfiocnjogbpgoaaGreatDoor
open Go.RowKit
set_option linter.unusedVariables false
set_option linter.unusedSimpArgs false

theorem below_row {B p : Nat} {w W : World} (h : Below B w W) (hp : B ≤ p) (cs : Array Value) : Below B w (W.setRow p cs) :=
  ⟨h.os, h.tape, h.output, Nat.le_trans h.size (by simp), fun k hk => (setRow_other W p k cs (by omega)).trans (h.block k hk)⟩

set_option maxHeartbeats 2000000 in
set_option maxRecDepth 100000 in
theorem putT_any (x y : Rp) (w : World) (hx : x.N) (hy : y.N) :
    Calls Tryz.prog 114 #[rpA x, rpA y] w (GivesV (rpA (putT x y)) w) := by
  obtain ⟨x0, x1, x2, x3⟩ := hx
  obtain ⟨y0, y1, y2, y3⟩ := hy
  obtain ⟨hA, hD⟩ := two_new w (rpC x) (rpC y) 56 56
  obtain ⟨wz, hwz⟩ : ∃ wz, wz = (w.alloc (.cells (rpC x).toArray 56)).alloc (.cells (rpC y).toArray 56) := ⟨_, rfl⟩
  have hz : wz.heap.size = w.heap.size + 1 + 1 := by rw [hwz]; simp
  have hbw : Below w.heap.size w wz := by rw [hwz]; exact ((Below.refl _ _).alloc (Nat.le_refl _) _).alloc (by simp) _
  rw [← hwz] at hA hD
  have hE := Blk.new wz zRpC 56
  rw [hz] at hE
  obtain ⟨wE, hwE⟩ : ∃ wE, wE = wz.alloc (.cells #[.string ⟨#[]⟩, .int .i64 0, .bool false, .int .i64 0, .bool false, .int .u64 0, .int .u64 0, .bool false, .int .u64 0, .int .u64 0, .int .i64 0, .int .i64 0, .int .i64 0, .int .i64 0] 56) := ⟨_, rfl⟩
  replace hA : Blk wE w.heap.size (rpC x) 56 := by rw [hwE]; exact hA.alloc _
  replace hD : Blk wE (w.heap.size + 1) (rpC y) 56 := by rw [hwE]; exact hD.alloc _
  replace hE : Blk wE (w.heap.size + 1 + 1) zRpC 56 := by rw [hwE]; exact hE
  replace hbw : Below w.heap.size w wE := by rw [hwE]; exact hbw.alloc hbw.size _
  have e1 : IntKind.i64.wrap (x.pk + y.pk) = x.pk + y.pk := IntWalk.i64_in _ (by omega)
  have e2 : IntKind.i64.wrap (x.by_ + y.by_) = x.by_ + y.by_ := IntWalk.i64_in _ (by omega)
  have cx1 := hA.cell (i := 12) (v := .int .i64 x.pk) rfl
  have cy1 := hD.cell (i := 12) (v := .int .i64 y.pk) rfl
  have cx2 := hA.cell (i := 13) (v := .int .i64 x.by_) rfl
  have cy2 := hD.cell (i := 13) (v := .int .i64 y.by_) rfl
  have f1 := hA.free 12
  have f2 := hA.free 13
  obtain ⟨s1, hs1⟩ : ∃ s, s = min (x.pk + y.pk) 1000000000000 := ⟨_, rfl⟩
  obtain ⟨s2, hs2⟩ : ∃ s, s = min (x.by_ + y.by_) 1000000000000 := ⟨_, rfl⟩
  have hT : rpC (putT x y) = ((rpC x).set 12 (.int .i64 s1)).set 13 (.int .i64 s2) := by rw [hs1, hs2]; rfl
  have hA2 := (hA.set 12 (.int .i64 s1)).set 13 (.int .i64 s2)
  rw [← hT] at hA2
  have hE2 := (hE.other (a := ⟨w.heap.size, 12, none⟩) (by simp; omega) (.int .i64 s1)).other (a := ⟨w.heap.size, 13, none⟩) (by simp; omega) (.int .i64 s2)
  have lA := hA2.ld rowRp (rpC_len _)
  have S := stT_row rowRp hE2 rfl (rpC_len (putT x y)) (rpC_one (putT x y))
  have hbF := (hbw.setCell (p := ⟨w.heap.size, 12, none⟩) (Nat.le_refl _) (.int .i64 s1)).setCell (p := ⟨w.heap.size, 13, none⟩) (Nat.le_refl _) (.int .i64 s2)
  generalize putT x y = t at *
  subst hs1 hs2
  clear hA hD hE hT
  go_enter Tryz.func114, Tryz.ntmps114
  go_upto_region 1 with fail
  rw [← hwz, ← hwE]
  generalize hp : w.heap.size = p at *
  replace hp := Lib.hid hp
  clear hwz hwE hz
  go_upto_region 2 with fail
  go_upto_region 3 with fail
  go_wp2_with fail
  refine bodyPost_ret (v := rpA t) (results_cell_row rfl _ _ (p + 1 + 1) _ _ (0, 0) _ rfl (setRow_heap _ (p + 1 + 1) _ _ _ _ hE2) Tryz.underlying56 rfl (by rw [rowRp.size]; rfl)) rfl ⟨rfl, ?_⟩
  rw [hp.out]
  exact below_row (p := p + 1 + 1) hbF (by omega) _
end Go.Proofs.YtfiocnjogbpgoaaGreatDoor
namespace Go.Proofs.YtfiocnjogbpgoaaGreatDoor
open Go.RowKit
set_option linter.unusedVariables false
set_option linter.unusedSimpArgs false

/-- One that is thinned, whatever its hour. -/
def dayR (r : Rp) : Rp := { r with hour := r.hour - r.hour % 24, fl := { r.fl with fp := 0, tp := 0 } }
def thinR (d : Int) (r : Rp) : Rp := if r.hour < d * 24 then dayR r else r

set_option maxHeartbeats 2000000 in
set_option maxRecDepth 100000 in
theorem thin1_any (bs : Nat) (d : Int) (r : Rp) (w : World) (hB : Blk w bs [.int .i64 d] 3) (hd : 0 ≤ d ∧ d ≤ 4001) (hr : 0 ≤ r.hour ∧ r.hour ≤ 96023) :
    Calls Tryz.prog 64 #[rpA r, .pointer (some ⟨bs, 0, none⟩)] w (GivesV (rpA (thinR d r)) w) := by
  have hbl := hB.lt
  have hA := (Blk.new w (rpC r) 56).alloc (.cells #[.string ⟨#[]⟩, .int .i64 0, .bool false, .int .i64 0, .bool false, .int .u64 0, .int .u64 0, .bool false, .int .u64 0, .int .u64 0, .int .i64 0, .int .i64 0, .int .i64 0, .int .i64 0] 56)
  have hE := Blk.new (w.alloc (.cells (rpC r).toArray 56)) zRpC 56
  rw [World.size_alloc] at hE
  obtain ⟨wE, hwE⟩ : ∃ wE, wE = (w.alloc (.cells (rpC r).toArray 56)).alloc (.cells #[.string ⟨#[]⟩, .int .i64 0, .bool false, .int .i64 0, .bool false, .int .u64 0, .int .u64 0, .bool false, .int .u64 0, .int .u64 0, .int .i64 0, .int .i64 0, .int .i64 0, .int .i64 0] 56) := ⟨_, rfl⟩
  have hbw : Below w.heap.size w wE := by rw [hwE]; exact ((Below.refl _ _).alloc (Nat.le_refl _) _).alloc (by simp) _
  replace hA : Blk wE w.heap.size (rpC r) 56 := by rw [hwE]; exact hA
  replace hE : Blk wE (w.heap.size + 1) zRpC 56 := by rw [hwE]; exact hE
  have hB2 := hB.below hbw
  have q1 := hB2.cell (i := 0) (v := .int .i64 d) rfl
  have m0 := Int.emod_nonneg r.hour (show (24 : Int) ≠ 0 by decide)
  have m1 := Int.emod_lt_of_pos r.hour (show (0 : Int) < 24 by decide)
  have e1 : IntKind.i64.wrap (d * 24) = d * 24 := IntWalk.i64_in _ (by omega)
  have e2 : IntKind.i64.wrap (r.hour % 24) = r.hour % 24 := IntWalk.i64_in _ (by omega)
  have e3 : IntKind.i64.wrap (r.hour - r.hour % 24) = r.hour - r.hour % 24 := IntWalk.i64_in _ (by omega)
  have c1 := hA.cell (i := 1) (v := .int .i64 r.hour) rfl
  have c10 := hA.cell (i := 10) (v := .int .i64 r.fl.fp) rfl
  have c11 := hA.cell (i := 11) (v := .int .i64 r.fl.tp) rfl
  have f1 := hA.free 1
  have f10 := hA.free 10
  have f11 := hA.free 11
  have hA2 := ((hA.set 1 (.int .i64 (r.hour - r.hour % 24))).set 10 (.int .i64 0)).set 11 (.int .i64 0)
  replace hA2 : Blk _ _ (rpC (dayR r)) _ := hA2
  have hE2 := ((hE.other (a := ⟨w.heap.size, 1, none⟩) (by simp) (.int .i64 (r.hour - r.hour % 24))).other (a := ⟨w.heap.size, 10, none⟩) (by simp) (.int .i64 0)).other (a := ⟨w.heap.size, 11, none⟩) (by simp) (.int .i64 0)
  have hbF := ((hbw.setCell (p := ⟨w.heap.size, 1, none⟩) (Nat.le_refl _) (.int .i64 (r.hour - r.hour % 24))).setCell (p := ⟨w.heap.size, 10, none⟩) (Nat.le_refl _) (.int .i64 0)).setCell (p := ⟨w.heap.size, 11, none⟩) (Nat.le_refl _) (.int .i64 0)
  by_cases h : r.hour < d * 24
  · have ht : Hid (thinR d r = dayR r) := Lib.hid (if_pos h)
    have l1 := hA2.ld rowRp (rpC_len (dayR r))
    have S := stT_row rowRp hE2 rfl (rpC_len (dayR r)) (rpC_one (dayR r))
    rw [ht.out]
    generalize dayR r = t at *
    clear hA hA2 hE hB hB2 ht m0 m1
    go_enter Tryz.func64, Tryz.ntmps64
    go_upto_region 1 with fail
    rw [← hwE]
    generalize hp : w.heap.size = p at *
    replace hp := Lib.hid hp
    clear hwE
    go_wp2_with fail
    refine bodyPost_ret (v := rpA t) (results_cell_row rfl _ _ (p + 1) _ _ (0, 0) _ rfl (setRow_heap _ (p + 1) _ _ _ _ hE2) Tryz.underlying56 rfl (by rw [rowRp.size]; rfl)) rfl ⟨rfl, ?_⟩
    rw [hp.out]
    exact below_row (p := p + 1) hbF (by omega) _
  · have ht : Hid (thinR d r = r) := Lib.hid (if_neg h)
    have l1 := hA.ld rowRp (rpC_len r)
    have S := stT_row rowRp hE rfl (rpC_len r) (rpC_one r)
    rw [ht.out]
    clear hA2 hE2 hbF hB hB2 ht m0 m1 hA
    go_enter Tryz.func64, Tryz.ntmps64
    go_upto_region 1 with fail
    rw [← hwE]
    generalize hp : w.heap.size = p at *
    replace hp := Lib.hid hp
    clear hwE
    go_wp2_with fail
    refine bodyPost_ret (v := rpA r) (results_cell_row rfl _ _ (p + 1) _ _ (0, 0) _ rfl (setRow_heap _ (p + 1) _ _ _ _ hE) Tryz.underlying56 rfl (by rw [rowRp.size]; rfl)) rfl ⟨rfl, ?_⟩
    rw [hp.out]
    exact below_row (p := p + 1) hbw (by omega) _
end Go.Proofs.YtfiocnjogbpgoaaGreatDoor
