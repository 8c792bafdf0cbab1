/- Numbers as rows; what is wrong with them. -/
import Derived.Test.YtfpcalgkfagjkaaGreatDoorKrLaneB
import Derived.OwnWalk
import Derived.Maps.AppendAt
import Derived.Laws.AppendOwnNone
import Derived.Deep.Onto
set_option linter.unusedVariables false
set_option linter.unusedSimpArgs false
namespace Go.Proofs.YtfpcalgkfagjkaaGreatDoor
open Go.RowKit

theorem below_two (w : World) (o o' : Obj) : Below w.heap.size w ((w.alloc o).alloc o') := ((Below.refl _ _).alloc (Nat.le_refl _) _).alloc (by simp) _
theorem gbB {u u' : World} {r : Option Nat} (h : Below u.heap.size u u') : u.grownBy u' r := gb_below (gb_refl u r) h
theorem gb2B {w u : World} (h : w.grownBy u none) : Below w.heap.size w u := ⟨h.os, h.tape, h.output, h.size, fun k hk => h.block k hk (by simp)⟩
theorem Blk.gn {w u : World} {p : Nat} {cs : List Value} {t : TypeId} (h : Blk w p cs t) (hg : w.grownBy u none) : Blk u p cs t := h.below (gb2B hg)
theorem blk2 (w : World) (xs ys : List Value) (t t' : TypeId) : Blk ((w.alloc (.cells xs.toArray t)).alloc (.cells ys.toArray t')) w.heap.size xs t ∧ Blk ((w.alloc (.cells xs.toArray t)).alloc (.cells ys.toArray t')) (w.heap.size + 1) ys t' := by
  refine ⟨(Blk.new w xs t).alloc _, ?_⟩
  have := Blk.new (w.alloc (.cells xs.toArray t)) ys t'
  simpa using this
theorem below_gb2 {w u : World} {o o' : Obj} (h : ((w.alloc o).alloc o').grownBy u none) : Below w.heap.size w u := (below_two w o o').trans ((gb2B h).mono (by simp; omega))


structure Enc (α : Type) where
  enc : α → List Value
  k : Nat
  pos : 0 < k
  len : ∀ x, (enc x).length = k
  one : ∀ x, ∀ v ∈ enc x, v.oneCell' = true

section
variable {α : Type} (E : Enc α)
def Enc.cells (xs : List α) : List Value := xs.flatMap E.enc
theorem Enc.cells_nil : E.cells [] = [] := rfl
theorem Enc.cells_cons (x : α) (xs : List α) : E.cells (x :: xs) = E.enc x ++ E.cells xs := rfl
theorem Enc.cells_app (xs ys : List α) : E.cells (xs ++ ys) = E.cells xs ++ E.cells ys := List.flatMap_append
theorem Enc.cells_len : ∀ xs : List α, (E.cells xs).length = xs.length * E.k
  | [] => by rw [E.cells_nil]; simp
  | x :: r => by rw [E.cells_cons, List.length_append, Enc.cells_len r, E.len, List.length_cons, Nat.succ_mul, Nat.add_comm]
theorem Enc.cells_get : ∀ (xs : List α) (j : Nat) (x : α), xs[j]? = some x → ∀ (i : Nat) (v : Value), (E.enc x)[i]? = some v → (E.cells xs)[j * E.k + i]? = some v
  | [], j, x, h, _, _, _ => by simp at h
  | y :: r, 0, x, h, i, v, hv => by
    simp at h; subst h
    have hi := (List.getElem?_eq_some_iff.1 hv).1
    rw [E.cells_cons, Nat.zero_mul, Nat.zero_add, List.getElem?_append_left hi]; exact hv
  | y :: r, j + 1, x, h, i, v, hv => by
    have h' : r[j]? = some x := by simpa using h
    have ih := Enc.cells_get r j x h' i v hv
    rw [E.cells_cons, List.getElem?_append_right (by rw [E.len, Nat.succ_mul]; omega), E.len, Nat.succ_mul, show j * E.k + E.k + i - E.k = j * E.k + i by omega]
    exact ih
theorem Enc.cells_at : ∀ (xs : List α) (m : Nat) (u : Value), (E.cells xs)[m]? = some u → ∃ j x i, xs[j]? = some x ∧ m = j * E.k + i ∧ i < E.k ∧ (E.enc x)[i]? = some u
  | [], m, u, h => by rw [E.cells_nil] at h; simp at h
  | y :: r, m, u, h => by
    rw [E.cells_cons] at h
    by_cases hm : m < E.k
    · rw [List.getElem?_append_left (by rw [E.len]; exact hm)] at h
      exact ⟨0, y, m, rfl, by omega, hm, h⟩
    · rw [List.getElem?_append_right (by rw [E.len]; omega), E.len] at h
      obtain ⟨j, x, i, h1, h2, h3, h4⟩ := Enc.cells_at r _ u h
      exact ⟨j + 1, x, i, by simpa using h1, by rw [Nat.succ_mul]; omega, h3, h4⟩
theorem Enc.cells_one : ∀ (xs : List α), ∀ u ∈ E.cells xs, u.oneCell' = true
  | [], u, h => by rw [E.cells_nil] at h; cases h
  | x :: r, u, h => by
    rw [E.cells_cons] at h
    rcases List.mem_append.1 h with h | h
    · exact E.one x u h
    · exact Enc.cells_one r u h

def SlE (w : World) (A : Option Addr) (n cap : Nat) (xs : List α) : Prop :=
  n = xs.length ∧ n ≤ cap ∧ (A = none → cap = 0) ∧ (n = 0 ∨ ∃ g off, A = some ⟨g, off, none⟩ ∧ g < w.heap.size ∧ ∀ j x, xs[j]? = some x → ∀ i v, (E.enc x)[i]? = some v → w.cell? ⟨g, off + j * E.k + i, none⟩ = some v)
variable {E}
theorem SlE.keep {w w' : World} {A : Option Addr} {n cap : Nat} {xs : List α} (h : SlE E w A n cap xs) (hz : w.heap.size ≤ w'.heap.size) (hb : ∀ j, j < w.heap.size → w'.heap[j]? = w.heap[j]?) : SlE E w' A n cap xs := by
  obtain ⟨h1, h2, h3, h4⟩ := h
  refine ⟨h1, h2, h3, ?_⟩
  rcases h4 with h4 | ⟨g, off, hA, hg, hc⟩
  · exact .inl h4
  · refine .inr ⟨g, off, hA, by omega, fun j x hj i v hv => ?_⟩
    rw [World.cell?_of_block (w := w) (hb g hg)]
    exact hc j x hj i v hv
theorem SlE.below {w w' : World} {A : Option Addr} {n cap : Nat} {xs : List α} (h : SlE E w A n cap xs) (hb : Below w.heap.size w w') : SlE E w' A n cap xs := h.keep hb.size hb.block
theorem SlE.from' {w w' : World} {A : Option Addr} {n cap B : Nat} {xs : List α} (h : SlE E w A n cap xs) (hlt : ∀ g off, A = some ⟨g, off, none⟩ → g < B) (hb : Below B w w') : SlE E w' A n cap xs := by
  obtain ⟨h1, h2, h3, h4⟩ := h
  refine ⟨h1, h2, h3, ?_⟩
  rcases h4 with h4 | ⟨g, off, hA, hg, hc⟩
  · exact .inl h4
  · refine .inr ⟨g, off, hA, by have := hb.size; omega, fun j x hj i v hv => ?_⟩
    rw [World.cell?_of_block (w := w) (hb.block g (hlt g off hA))]
    exact hc j x hj i v hv
theorem SlE.nil (w : World) : SlE E w none 0 0 [] := ⟨rfl, Nat.le_refl _, fun _ => rfl, .inl rfl⟩
theorem SlE.len {w : World} {A : Option Addr} {n cap : Nat} {xs : List α} (h : SlE E w A n cap xs) : n = xs.length := h.1
theorem SlE.at' {w : World} {A : Option Addr} {n cap : Nat} {xs : List α} (h : SlE E w A n cap xs) {k : Nat} (hk : k < n) :
    ∃ g off, A = some ⟨g, off, none⟩ ∧ g < w.heap.size ∧ ∀ j x, xs[j]? = some x → ∀ i v, (E.enc x)[i]? = some v → w.cell? ⟨g, off + j * E.k + i, none⟩ = some v := by
  rcases h.2.2.2 with h | h
  · omega
  · exact h
theorem SlE.cells {w : World} {a : Addr} {n cap : Nat} {xs : List α} (h : SlE E w (some a) n cap xs) : ∀ j u, (E.cells xs)[j]? = some u → w.cell? (a.add j) = some u := by
  intro m u hm
  obtain ⟨j, x, i, h1, h2, h3, h4⟩ := E.cells_at xs m u hm
  obtain ⟨_, _, _, h5⟩ := h
  have hj := (List.getElem?_eq_some_iff.1 h1).1
  rcases h5 with h5 | ⟨g, off, hA, _, hc⟩
  · omega
  · cases hA
    rw [Addr.add_lit, h2, ← Nat.add_assoc]
    exact hc j x h1 i u h4
theorem cell_row_at (w : World) (cs : List Value) (t : TypeId) (b : Nat) (hb : b = w.heap.size) : ∀ (j : Nat) (u : Value), cs[j]? = some u → (w.alloc (.cells cs.toArray t)).cell? ((⟨b, 0, none⟩ : Addr).add j) = some u := by
  subst hb
  intro j u hj
  rw [Addr.add_lit, World.cell?_alloc_at _ _ _ _ rfl]
  simpa using hj

def OwnE (E : Enc α) (t : TypeId) (B : Nat) (w : World) (v : Value) (xs : List α) : Prop := w.ownsRow B t E.k v xs.length (E.cells xs)
variable {t : TypeId}
theorem OwnE.nil (B : Nat) (w : World) : OwnE E t B w (.slice none 0 0) [] := World.ownsRow_nil _ _ _ _
theorem OwnE.mono {B B' : Nat} {w : World} {v : Value} {xs : List α} (h : OwnE E t B' w v xs) (hb : B ≤ B') : OwnE E t B w v xs := World.ownsRow.mono h hb
theorem OwnE.gb {B : Nat} {w w' : World} {v : Value} {xs : List α} {r : Option Nat} (h : OwnE E t B w v xs) (hg : w.grownBy w' r) (hr : v.ownBlock = none ∨ v.ownBlock ≠ r) : OwnE E t B w' v xs := World.ownsRow.kept h hg hr
theorem OwnE.below {B : Nat} {w w' : World} {v : Value} {xs : List α} (h : OwnE E t B w v xs) (hb : Below w.heap.size w w') : OwnE E t B w' v xs :=
  h.gb (gbB (r := none) hb) (by
    cases hv : v.ownBlock with
    | none => exact .inl rfl
    | some k => exact .inr (by intro e; cases e))
theorem OwnE.lt {B : Nat} {w : World} {v : Value} {xs : List α} (h : OwnE E t B w v xs) : ∀ k, v.ownBlock = some k → B ≤ k ∧ k < w.heap.size := World.ownsRow.lt h
theorem OwnE.sl {B : Nat} {w : World} {v : Value} {xs : List α} (h : OwnE E t B w v xs) : ∃ A cap, v = .slice A xs.length cap ∧ SlE E w A xs.length cap xs := by
  have h0 := h
  rcases h.2 with ⟨rfl, h1⟩ | ⟨g, cap, cur, rfl, hg, hh, hle, _⟩
  · exact ⟨none, 0, by rw [h1], rfl, by omega, fun _ => rfl, .inl h1⟩
  · refine ⟨_, cap, rfl, rfl, hle, (fun e => by cases e), .inr ⟨g, 0, rfl, (Array.getElem?_eq_some_iff.1 hh).1, fun j x hj i v hv => ?_⟩⟩
    have := World.ownsRow.cells h0 (g := g) rfl _ _ (E.cells_get xs j x hj i v hv)
    rw [Addr.add_lit] at this
    rw [Nat.zero_add]
    simpa using this
theorem OwnE.next {B : Nat} {w w' : World} {v : Value} {xs : List α} (h : OwnE E t B w v xs) (hg : w.grownBy w' v.ownBlock) (hB : B ≤ w.heap.size) : Below B w w' :=
  (Below.refl _ _).grown hg hB (fun k hk => (h.lt k hk).1)
theorem OwnE.form {B : Nat} {w : World} {v : Value} {xs : List α} (h : OwnE E t B w v xs) (hx : xs ≠ []) :
    ∃ g cap, v = .slice (some ⟨g, 0, none⟩) xs.length cap ∧ B ≤ g ∧ g < w.heap.size ∧ xs.length ≤ cap ∧ (∀ j x, xs[j]? = some x → ∀ i u, (E.enc x)[i]? = some u → w.cell? ⟨g, j * E.k + i, none⟩ = some u) ∧ (∀ j, w.frozen? ⟨g, j, none⟩ = false) := by
  have h0 := h
  rcases h.2 with ⟨rfl, h1⟩ | ⟨g, cap, cur, rfl, hg, hh, hle, _⟩
  · exact absurd (List.eq_nil_of_length_eq_zero h1) hx
  · refine ⟨g, cap, rfl, hg, (Array.getElem?_eq_some_iff.1 hh).1, hle, fun j x hj i u hu => ?_, fun j => frozen_of_row w g j _ _ hh⟩
    have := World.ownsRow.cells h0 (g := g) rfl _ _ (E.cells_get xs j x hj i u hu)
    rw [Addr.add_lit] at this
    simpa using this
theorem own_setV {w : World} {B : Nat} {e : TypeId} {size n cap g : Nat} {xs : List Value} (h : w.ownsRow B e size (.slice (some ⟨g, 0, none⟩) n cap) n xs) (i : Nat) (u : Value) :
    (w.setCell ⟨g, i, none⟩ u).ownsRow B e size (.slice (some ⟨g, 0, none⟩) n cap) n (xs.set i u) := by
  obtain ⟨h1, h2⟩ := h
  refine ⟨by rw [List.length_set]; exact h1, ?_⟩
  rcases h2 with ⟨hv, _⟩ | ⟨g', cap', cur, hv, hg, hh, hle, hmx, hsz, ht⟩
  · cases hv
  · cases hv
    refine .inr ⟨g, cap, cur.set! i u, rfl, hg, ?_, hle, hmx, by simpa using hsz, ?_⟩
    · simp only [World.setCell, Array.getElem?_modify, if_pos, hh, Option.map_some]
      simp
    · rw [← ht]
      simp only [Array.set!_eq_setIfInBounds, Array.toList_setIfInBounds]
      rw [List.take_set]
structure Ty (E : Enc α) (t st : TypeId) (z : Value) (bytes : Nat) : Prop where
  sl : Tryz.prog.underlying st = some (.slice t)
  info : (Tryz.prog.info? t).map (fun i => (i.zero, i.size, i.bytes)) = some (some z, E.k, bytes)
  zs : z.cells.size = E.k
  small : bytes ≤ 1000

theorem run_app {st : TypeId} {z : Value} {bytes : Nat} (T : Ty E t st z bytes) (ty : TypeId) {w : World} (B : Nat) (v : Value) (xs ys : List α) (hown : OwnE E t B w v xs)
    (ad : Addr) (m c : Nat) (hm : m = ys.length) (hnews : ∀ j u, (E.cells ys)[j]? = some u → w.cell? (ad.add j) = some u) (hn : xs.length + ys.length ≤ 1000000) (hbase : B ≤ w.heap.size) :
    ∃ v' w', (Builtin.append_ #[st, st] ty #[v, .slice (some ad) m c]).run Tryz.prog w = .ok v' w' ∧ OwnE E t B w' v' (xs ++ ys) ∧ w.grownBy w' v.ownBlock ∧ (v'.ownBlock = v.ownBlock ∨ v'.ownBlock = some w.heap.size) := by
  obtain ⟨i0, hi0, hz0, hz1, hz2⟩ := info_parts T.info
  subst hm
  have hb1 : (xs.length + ys.length) * bytes ≤ 1000000 * 1000 := Nat.mul_le_mul hn T.small
  obtain ⟨v', w', hr, h2, h3, _, h5⟩ := run_append_own_at (P := Tryz.prog) w B st ty t i0 z E.k bytes T.sl hi0 hz0 hz1 hz2 T.zs E.pos v xs.length (E.cells xs) hown ad ys.length c (E.cells ys) (E.cells_len ys) hnews (E.cells_one ys) (by unfold maxLen; omega) (by omega) hbase
  refine ⟨v', w', hr, ?_, h3, h5⟩
  unfold OwnE
  rw [List.length_append, E.cells_app]
  exact h2
theorem wp_app {st : TypeId} {z : Value} {bytes : Nat} (T : Ty E t st z bytes) {w : World} {o : Oper} {a : Act} {K : Act → World → Prop} {Q : Exit → Act → World → Prop} (s x : Operand)
    (ho : o.op = .call { callee := .builtin .append, args := #[s, x], argTypes := #[st, st] })
    (B : Nat) (v : Value) (xs ys : List α) (hs : a.eval s = v) (hown : OwnE E t B w v xs)
    (ad : Addr) (m c : Nat) (hx : a.eval x = .slice (some ad) m c) (hm : m = ys.length) (hnews : ∀ j u, (E.cells ys)[j]? = some u → w.cell? (ad.add j) = some u) (hn : xs.length + ys.length ≤ 1000000) (hbase : B ≤ w.heap.size)
    (h : ∀ v' w', OwnE E t B w' v' (xs ++ ys) → w.grownBy w' v.ownBlock → (v'.ownBlock = v.ownBlock ∨ v'.ownBlock = some w.heap.size) → K (a.put o.dst v') w') : Oper.wp Tryz.prog o a w K Q := by
  obtain ⟨v', w', hr, h2, h3, h4⟩ := run_app T o.type B v xs ys hown ad m c hm hnews hn hbase
  unfold Oper.wp execOp
  simp only [ho, resolve, invoke, builtin, Sem.run_bind, Sem.run_pure, Result.andThen_ok, List.map_toArray, List.map_cons, List.map_nil, hs, hx, hr]
  exact h v' w' h2 h3 h4
theorem wpList_app {st : TypeId} {z : Value} {bytes : Nat} (T : Ty E t st z bytes) {w : World} {ops : Array Oper} {rest : List Oper} {o : Oper} {a : Act} {Q : Exit → Act → World → Prop} (hgd : o.guard = none) (s x : Operand)
    (ho : o.op = .call { callee := .builtin .append, args := #[s, x], argTypes := #[st, st] })
    (B : Nat) (v : Value) (xs ys : List α) (hs : a.eval s = v) (hown : OwnE E t B w v xs)
    (ad : Addr) (m c : Nat) (hx : a.eval x = .slice (some ad) m c) (hm : m = ys.length) (hnews : ∀ j u, (E.cells ys)[j]? = some u → w.cell? (ad.add j) = some u) (hn : xs.length + ys.length ≤ 1000000) (hbase : B ≤ w.heap.size)
    (h : ∀ v' w', OwnE E t B w' v' (xs ++ ys) → w.grownBy w' v.ownBlock → (v'.ownBlock = v.ownBlock ∨ v'.ownBlock = some w.heap.size) → wpList Tryz.prog ops Q rest (a.put o.dst v') w') : wpList Tryz.prog ops Q (o :: rest) a w :=
  wpList_plain hgd fun _ hK => wp_app T s x ho B v xs ys hs hown ad m c hx hm hnews hn hbase fun v' w' h1 h2 h3 => hK _ _ (h v' w' h1 h2 h3)
end

def eInt : Enc Int := ⟨fun z => [.int .i64 z], 1, by decide, fun _ => rfl, fun x v hv => by rw [List.mem_singleton.1 hv]; rfl⟩
theorem SlE.num {w : World} {A : Option Addr} {n cap : Nat} {zs : List Int} (h : SlE eInt w A n cap zs) {k : Nat} {z : Int} (hz : zs[k]? = some z) : ∃ b off, A = some ⟨b, off, none⟩ ∧ b < w.heap.size ∧ w.cell? ⟨b, off + k, none⟩ = some (.int .i64 z) := by
  have hk : k < n := by rw [h.1]; exact (List.getElem?_eq_some_iff.1 hz).1
  obtain ⟨g, off, hA, hg, hc⟩ := h.at' hk
  refine ⟨g, off, hA, hg, ?_⟩
  have := hc k z hz 0 (.int .i64 z) rfl
  rw [show eInt.k = 1 from rfl, Nat.mul_one, Nat.add_zero] at this
  exact this

theorem all_takeB {α : Type} {p : α → Bool} {zs : List α} {k : Nat} {z : α} (hz : zs[k]? = some z) (h : (zs.take k).all p = true) (hq : p z = true) : (zs.take (k + 1)).all p = true := by
  rw [List.take_add_one, hz, List.all_append, h]
  simpa using hq
theorem all_badB {α : Type} {p : α → Bool} {zs : List α} {k : Nat} {z : α} (hz : zs[k]? = some z) (hq : p z = false) : zs.all p = false := by
  cases e : zs.all p
  · rfl
  · have := List.all_eq_true.1 e z (List.mem_of_getElem? hz)
    rw [hq] at this; cases this

end Go.Proofs.YtfpcalgkfagjkaaGreatDoor
