/- Numbers, one after the other. -/
import Derived.Test.YtfbggfpihiegpaaGreatDoorKpStB
import Derived.OwnWalk
import Derived.Maps.AppendAt
import Derived.Laws.AppendOwnNone
import Derived.Deep.Onto
import Derived.RangeFuncNested
import Derived.RangeFuncBound
import Derived.RangeFuncCalls
import Derived.RangeFuncLeaves
import Derived.Shelf.Abstract
import Derived.Shelf.RegionOpen
import Derived.WalkKit
import Derived.OwnWalkIn
import Derived.TacticsInMore
import Derived.LoopNIn
import Derived.LoopIn
set_option linter.unusedVariables false
set_option linter.unusedSimpArgs false
set_option maxRecDepth 100000
namespace Go.Proofs.YtfbggfpihiegpaaGreatDoor
open Go.RowKit

theorem below_two (w : World) (o o' : Obj) : Below w.heap.size w ((w.alloc o).alloc o') := ((Below.refl _ _).alloc (Nat.le_refl _) _).alloc (by simp) _
theorem gbB {u u' : World} {r : Option Nat} (h : Below u.heap.size u u') : u.grownBy u' r := gb_below (gb_refl u r) h
theorem gb2B {w u : World} (h : w.grownBy u none) : Below w.heap.size w u := ⟨h.os, h.tape, h.output, h.size, fun k hk => h.block k hk (by simp)⟩
theorem Blk.gn {w u : World} {p : Nat} {cs : List Value} {t : TypeId} (h : Blk w p cs t) (hg : w.grownBy u none) : Blk u p cs t := h.below (gb2B hg)
theorem blk2 (w : World) (xs ys : List Value) (t t' : TypeId) : Blk ((w.alloc (.cells xs.toArray t)).alloc (.cells ys.toArray t')) w.heap.size xs t ∧ Blk ((w.alloc (.cells xs.toArray t)).alloc (.cells ys.toArray t')) (w.heap.size + 1) ys t' := by
  refine ⟨(Blk.new w xs t).alloc _, ?_⟩
  have := Blk.new (w.alloc (.cells xs.toArray t)) ys t'
  simpa using this
theorem below_gb2 {w u : World} {o o' : Obj} (h : ((w.alloc o).alloc o').grownBy u none) : Below w.heap.size w u := (below_two w o o').trans ((gb2B h).mono (by simp; omega))

def srtI (zs : List Int) : List Int := zs.mergeSort (fun x y => decide (x ≤ y))
theorem srt_len (zs : List Int) : (srtI zs).length = zs.length := List.length_mergeSort ..
theorem srt_mem {zs : List Int} {z : Int} (h : z ∈ srtI zs) : z ∈ zs := List.mem_mergeSort.1 h
def midS (s : List Int) : Int := s.getD ((s.length - 1) / 2) 0 + s.getD (s.length / 2) 0
def twiceI (zs : List Int) : Int := midS (srtI zs)
theorem mid_bound {s : List Int} {B : Int} (hs : s ≠ []) (h : ∀ z ∈ s, 0 ≤ z ∧ z ≤ B) : 0 ≤ midS s ∧ midS s ≤ 2 * B := by
  have hl : 0 < s.length := List.length_pos_iff.2 hs
  have h1 : (s.length - 1) / 2 < s.length := by omega
  have h2 : s.length / 2 < s.length := by omega
  have a := h (s.getD ((s.length - 1) / 2) 0) (by rw [List.getD_eq_getElem?_getD, List.getElem?_eq_getElem h1]; exact List.getElem_mem _)
  have b := h (s.getD (s.length / 2) 0) (by rw [List.getD_eq_getElem?_getD, List.getElem?_eq_getElem h2]; exact List.getElem_mem _)
  unfold midS
  omega
theorem srt_ne {zs : List Int} (h : zs ≠ []) : srtI zs ≠ [] := by
  intro e
  have := srt_len zs
  rw [e] at this
  exact h (List.eq_nil_of_length_eq_zero this.symm)
theorem twice_bound {zs : List Int} {B : Int} (hs : zs ≠ []) (h : ∀ z ∈ zs, 0 ≤ z ∧ z ≤ B) : 0 ≤ twiceI zs ∧ twiceI zs ≤ 2 * B :=
  mid_bound (srt_ne hs) fun z hz => h z (srt_mem hz)
def fracV (n d : Nat) : Value := .agg #[.int .i64 ((n / Nat.gcd n d : Nat) : Int), .int .i64 ((d / Nat.gcd n d : Nat) : Int)]

def okNum (z : Int) : Bool := decide (0 ≤ z) && decide (z ≤ 2000000000000)
def numsF (zs : List Int) : Int := if zs = [] then 8 else if 3000 < zs.length then 2 else if zs.all okNum then 0 else 1
theorem okNum_iff {z : Int} : okNum z = true ↔ 0 ≤ z ∧ z ≤ 2000000000000 := by
  unfold okNum; rw [Bool.and_eq_true, decide_eq_true_iff, decide_eq_true_iff]
theorem numsF_zero {zs : List Int} (h : numsF zs = 0) : zs ≠ [] ∧ zs.length ≤ 3000 ∧ ∀ z ∈ zs, 0 ≤ z ∧ z ≤ 2000000000000 := by
  unfold numsF at h
  by_cases h1 : zs = []
  · rw [if_pos h1] at h; cases h
  · rw [if_neg h1] at h
    by_cases h2 : 3000 < zs.length
    · rw [if_pos h2] at h; cases h
    · rw [if_neg h2] at h
      by_cases h3 : zs.all okNum
      · exact ⟨h1, by omega, fun z hz => okNum_iff.1 (List.all_eq_true.1 h3 z hz)⟩
      · rw [if_neg h3] at h; cases h
theorem gcd_step (a b : Nat) : Nat.gcd b (a % b) = Nat.gcd a b := by
  rw [Nat.gcd_comm a b, Nat.gcd_rec b a, Nat.gcd_comm]

structure Enc (α : Type) where
  enc : α → List Value
  k : Nat
  pos : 0 < k
  len : ∀ x, (enc x).length = k
  one : ∀ x, ∀ v ∈ enc x, v.oneCell' = true

section
variable {α : Type} (E : Enc α)
def Enc.cells (xs : List α) : List Value := xs.flatMap E.enc
theorem Enc.cells_nil : E.cells [] = [] := rfl
theorem Enc.cells_cons (x : α) (xs : List α) : E.cells (x :: xs) = E.enc x ++ E.cells xs := rfl
theorem Enc.cells_app (xs ys : List α) : E.cells (xs ++ ys) = E.cells xs ++ E.cells ys := List.flatMap_append
theorem Enc.cells_single (x : α) : E.cells [x] = E.enc x := List.append_nil _
theorem Enc.cells_len : ∀ xs : List α, (E.cells xs).length = xs.length * E.k
  | [] => by rw [E.cells_nil]; simp
  | x :: r => by rw [E.cells_cons, List.length_append, Enc.cells_len r, E.len, List.length_cons, Nat.succ_mul, Nat.add_comm]
theorem Enc.cells_get : ∀ (xs : List α) (j : Nat) (x : α), xs[j]? = some x → ∀ (i : Nat) (v : Value), (E.enc x)[i]? = some v → (E.cells xs)[j * E.k + i]? = some v
  | [], j, x, h, _, _, _ => by simp at h
  | y :: r, 0, x, h, i, v, hv => by
    simp at h; subst h
    have hi := (List.getElem?_eq_some_iff.1 hv).1
    rw [E.cells_cons, Nat.zero_mul, Nat.zero_add, List.getElem?_append_left hi]; exact hv
  | y :: r, j + 1, x, h, i, v, hv => by
    have h' : r[j]? = some x := by simpa using h
    have ih := Enc.cells_get r j x h' i v hv
    rw [E.cells_cons, List.getElem?_append_right (by rw [E.len, Nat.succ_mul]; omega), E.len, Nat.succ_mul, show j * E.k + E.k + i - E.k = j * E.k + i by omega]
    exact ih
theorem Enc.cells_at : ∀ (xs : List α) (m : Nat) (u : Value), (E.cells xs)[m]? = some u → ∃ j x i, xs[j]? = some x ∧ m = j * E.k + i ∧ i < E.k ∧ (E.enc x)[i]? = some u
  | [], m, u, h => by rw [E.cells_nil] at h; simp at h
  | y :: r, m, u, h => by
    rw [E.cells_cons] at h
    by_cases hm : m < E.k
    · rw [List.getElem?_append_left (by rw [E.len]; exact hm)] at h
      exact ⟨0, y, m, rfl, by omega, hm, h⟩
    · rw [List.getElem?_append_right (by rw [E.len]; omega), E.len] at h
      obtain ⟨j, x, i, h1, h2, h3, h4⟩ := Enc.cells_at r _ u h
      exact ⟨j + 1, x, i, by simpa using h1, by rw [Nat.succ_mul]; omega, h3, h4⟩
theorem Enc.cells_one : ∀ (xs : List α), ∀ u ∈ E.cells xs, u.oneCell' = true
  | [], u, h => by rw [E.cells_nil] at h; cases h
  | x :: r, u, h => by
    rw [E.cells_cons] at h
    rcases List.mem_append.1 h with h | h
    · exact E.one x u h
    · exact Enc.cells_one r u h

def SlE (w : World) (A : Option Addr) (n cap : Nat) (xs : List α) : Prop :=
  n = xs.length ∧ n ≤ cap ∧ (A = none → cap = 0) ∧ (n = 0 ∨ ∃ g off, A = some ⟨g, off, none⟩ ∧ g < w.heap.size ∧ ∀ j x, xs[j]? = some x → ∀ i v, (E.enc x)[i]? = some v → w.cell? ⟨g, off + j * E.k + i, none⟩ = some v)
variable {E}
theorem SlE.keep {w w' : World} {A : Option Addr} {n cap : Nat} {xs : List α} (h : SlE E w A n cap xs) (hz : w.heap.size ≤ w'.heap.size) (hb : ∀ j, j < w.heap.size → w'.heap[j]? = w.heap[j]?) : SlE E w' A n cap xs := by
  obtain ⟨h1, h2, h3, h4⟩ := h
  refine ⟨h1, h2, h3, ?_⟩
  rcases h4 with h4 | ⟨g, off, hA, hg, hc⟩
  · exact .inl h4
  · refine .inr ⟨g, off, hA, by omega, fun j x hj i v hv => ?_⟩
    rw [World.cell?_of_block (w := w) (hb g hg)]
    exact hc j x hj i v hv
theorem SlE.below {w w' : World} {A : Option Addr} {n cap : Nat} {xs : List α} (h : SlE E w A n cap xs) (hb : Below w.heap.size w w') : SlE E w' A n cap xs := h.keep hb.size hb.block
theorem SlE.nil (w : World) : SlE E w none 0 0 [] := ⟨rfl, Nat.le_refl _, fun _ => rfl, .inl rfl⟩
theorem SlE.len {w : World} {A : Option Addr} {n cap : Nat} {xs : List α} (h : SlE E w A n cap xs) : n = xs.length := h.1
theorem SlE.at' {w : World} {A : Option Addr} {n cap : Nat} {xs : List α} (h : SlE E w A n cap xs) {k : Nat} (hk : k < n) :
    ∃ g off, A = some ⟨g, off, none⟩ ∧ g < w.heap.size ∧ ∀ j x, xs[j]? = some x → ∀ i v, (E.enc x)[i]? = some v → w.cell? ⟨g, off + j * E.k + i, none⟩ = some v := by
  rcases h.2.2.2 with h | h
  · omega
  · exact h
theorem SlE.cells {w : World} {a : Addr} {n cap : Nat} {xs : List α} (h : SlE E w (some a) n cap xs) : ∀ j u, (E.cells xs)[j]? = some u → w.cell? (a.add j) = some u := by
  intro m u hm
  obtain ⟨j, x, i, h1, h2, h3, h4⟩ := E.cells_at xs m u hm
  obtain ⟨_, _, _, h5⟩ := h
  have hj := (List.getElem?_eq_some_iff.1 h1).1
  rcases h5 with h5 | ⟨g, off, hA, _, hc⟩
  · omega
  · cases hA
    rw [Addr.add_lit, h2, ← Nat.add_assoc]
    exact hc j x h1 i u h4
theorem cell_row_at (w : World) (cs : List Value) (t : TypeId) (b : Nat) (hb : b = w.heap.size) : ∀ (j : Nat) (u : Value), cs[j]? = some u → (w.alloc (.cells cs.toArray t)).cell? ((⟨b, 0, none⟩ : Addr).add j) = some u := by
  subst hb
  intro j u hj
  rw [Addr.add_lit, World.cell?_alloc_at _ _ _ _ rfl]
  simpa using hj

def OwnE (E : Enc α) (t : TypeId) (B : Nat) (w : World) (v : Value) (xs : List α) : Prop := w.ownsRow B t E.k v xs.length (E.cells xs)
variable {t : TypeId}
theorem OwnE.nil (B : Nat) (w : World) : OwnE E t B w (.slice none 0 0) [] := World.ownsRow_nil _ _ _ _
theorem OwnE.mono {B B' : Nat} {w : World} {v : Value} {xs : List α} (h : OwnE E t B' w v xs) (hb : B ≤ B') : OwnE E t B w v xs := World.ownsRow.mono h hb
theorem OwnE.gb {B : Nat} {w w' : World} {v : Value} {xs : List α} {r : Option Nat} (h : OwnE E t B w v xs) (hg : w.grownBy w' r) (hr : v.ownBlock = none ∨ v.ownBlock ≠ r) : OwnE E t B w' v xs := World.ownsRow.kept h hg hr
theorem OwnE.below {B : Nat} {w w' : World} {v : Value} {xs : List α} (h : OwnE E t B w v xs) (hb : Below w.heap.size w w') : OwnE E t B w' v xs :=
  h.gb (gbB (r := none) hb) (by
    cases hv : v.ownBlock with
    | none => exact .inl rfl
    | some k => exact .inr (by intro e; cases e))
theorem OwnE.lt {B : Nat} {w : World} {v : Value} {xs : List α} (h : OwnE E t B w v xs) : ∀ k, v.ownBlock = some k → B ≤ k ∧ k < w.heap.size := World.ownsRow.lt h
theorem OwnE.sl {B : Nat} {w : World} {v : Value} {xs : List α} (h : OwnE E t B w v xs) : ∃ A cap, v = .slice A xs.length cap ∧ SlE E w A xs.length cap xs := by
  have h0 := h
  rcases h.2 with ⟨rfl, h1⟩ | ⟨g, cap, cur, rfl, hg, hh, hle, _⟩
  · exact ⟨none, 0, by rw [h1], rfl, by omega, fun _ => rfl, .inl h1⟩
  · refine ⟨_, cap, rfl, rfl, hle, (fun e => by cases e), .inr ⟨g, 0, rfl, (Array.getElem?_eq_some_iff.1 hh).1, fun j x hj i v hv => ?_⟩⟩
    have := World.ownsRow.cells h0 (g := g) rfl _ _ (E.cells_get xs j x hj i v hv)
    rw [Addr.add_lit] at this
    rw [Nat.zero_add]
    simpa using this
theorem OwnE.next {B : Nat} {w w' : World} {v : Value} {xs : List α} (h : OwnE E t B w v xs) (hg : w.grownBy w' v.ownBlock) (hB : B ≤ w.heap.size) : Below B w w' :=
  (Below.refl _ _).grown hg hB (fun k hk => (h.lt k hk).1)
theorem OwnE.form {B : Nat} {w : World} {v : Value} {xs : List α} (h : OwnE E t B w v xs) (hx : xs ≠ []) :
    ∃ g cap, v = .slice (some ⟨g, 0, none⟩) xs.length cap ∧ B ≤ g ∧ g < w.heap.size ∧ xs.length ≤ cap ∧ (∀ j x, xs[j]? = some x → ∀ i u, (E.enc x)[i]? = some u → w.cell? ⟨g, j * E.k + i, none⟩ = some u) ∧ (∀ j, w.frozen? ⟨g, j, none⟩ = false) := by
  have h0 := h
  rcases h.2 with ⟨rfl, h1⟩ | ⟨g, cap, cur, rfl, hg, hh, hle, _⟩
  · exact absurd (List.eq_nil_of_length_eq_zero h1) hx
  · refine ⟨g, cap, rfl, hg, (Array.getElem?_eq_some_iff.1 hh).1, hle, fun j x hj i u hu => ?_, fun j => frozen_of_row w g j _ _ hh⟩
    have := World.ownsRow.cells h0 (g := g) rfl _ _ (E.cells_get xs j x hj i u hu)
    rw [Addr.add_lit] at this
    simpa using this
theorem own_setV {w : World} {B : Nat} {e : TypeId} {size n cap g : Nat} {xs : List Value} (h : w.ownsRow B e size (.slice (some ⟨g, 0, none⟩) n cap) n xs) (i : Nat) (u : Value) :
    (w.setCell ⟨g, i, none⟩ u).ownsRow B e size (.slice (some ⟨g, 0, none⟩) n cap) n (xs.set i u) := by
  obtain ⟨h1, h2⟩ := h
  refine ⟨by rw [List.length_set]; exact h1, ?_⟩
  rcases h2 with ⟨hv, _⟩ | ⟨g', cap', cur, hv, hg, hh, hle, hmx, hsz, ht⟩
  · cases hv
  · cases hv
    refine .inr ⟨g, cap, cur.set! i u, rfl, hg, ?_, hle, hmx, by simpa using hsz, ?_⟩
    · simp only [World.setCell, Array.getElem?_modify, if_pos, hh, Option.map_some]
      simp
    · rw [← ht]
      simp only [Array.set!_eq_setIfInBounds, Array.toList_setIfInBounds]
      rw [List.take_set]
structure Ty (E : Enc α) (t st : TypeId) (z : Value) (bytes : Nat) : Prop where
  sl : Tryz.prog.underlying st = some (.slice t)
  info : (Tryz.prog.info? t).map (fun i => (i.zero, i.size, i.bytes)) = some (some z, E.k, bytes)
  zs : z.cells.size = E.k
  small : bytes ≤ 1000

theorem run_app {st : TypeId} {z : Value} {bytes : Nat} (T : Ty E t st z bytes) (ty : TypeId) {w : World} (B : Nat) (v : Value) (xs ys : List α) (hown : OwnE E t B w v xs)
    (ad : Addr) (m c : Nat) (hm : m = ys.length) (hnews : ∀ j u, (E.cells ys)[j]? = some u → w.cell? (ad.add j) = some u) (hn : xs.length + ys.length ≤ 1000000) (hbase : B ≤ w.heap.size) :
    ∃ v' w', (Builtin.append_ #[st, st] ty #[v, .slice (some ad) m c]).run Tryz.prog w = .ok v' w' ∧ OwnE E t B w' v' (xs ++ ys) ∧ w.grownBy w' v.ownBlock ∧ (v'.ownBlock = v.ownBlock ∨ v'.ownBlock = some w.heap.size) := by
  obtain ⟨i0, hi0, hz0, hz1, hz2⟩ := info_parts T.info
  subst hm
  have hb1 : (xs.length + ys.length) * bytes ≤ 1000000 * 1000 := Nat.mul_le_mul hn T.small
  obtain ⟨v', w', hr, h2, h3, _, h5⟩ := run_append_own_at (P := Tryz.prog) w B st ty t i0 z E.k bytes T.sl hi0 hz0 hz1 hz2 T.zs E.pos v xs.length (E.cells xs) hown ad ys.length c (E.cells ys) (E.cells_len ys) hnews (E.cells_one ys) (by unfold maxLen; omega) (by omega) hbase
  refine ⟨v', w', hr, ?_, h3, h5⟩
  unfold OwnE
  rw [List.length_append, E.cells_app]
  exact h2
theorem wp_app {st : TypeId} {z : Value} {bytes : Nat} (T : Ty E t st z bytes) {w : World} {o : Oper} {a : Act} {K : Act → World → Prop} {Q : Exit → Act → World → Prop} (s x : Operand)
    (ho : o.op = .call { callee := .builtin .append, args := #[s, x], argTypes := #[st, st] })
    (B : Nat) (v : Value) (xs ys : List α) (hs : a.eval s = v) (hown : OwnE E t B w v xs)
    (ad : Addr) (m c : Nat) (hx : a.eval x = .slice (some ad) m c) (hm : m = ys.length) (hnews : ∀ j u, (E.cells ys)[j]? = some u → w.cell? (ad.add j) = some u) (hn : xs.length + ys.length ≤ 1000000) (hbase : B ≤ w.heap.size)
    (h : ∀ v' w', OwnE E t B w' v' (xs ++ ys) → w.grownBy w' v.ownBlock → (v'.ownBlock = v.ownBlock ∨ v'.ownBlock = some w.heap.size) → K (a.put o.dst v') w') : Oper.wp Tryz.prog o a w K Q := by
  obtain ⟨v', w', hr, h2, h3, h4⟩ := run_app T o.type B v xs ys hown ad m c hm hnews hn hbase
  unfold Oper.wp execOp
  simp only [ho, resolve, invoke, builtin, Sem.run_bind, Sem.run_pure, Result.andThen_ok, List.map_toArray, List.map_cons, List.map_nil, hs, hx, hr]
  exact h v' w' h2 h3 h4
theorem wpList_app {st : TypeId} {z : Value} {bytes : Nat} (T : Ty E t st z bytes) {w : World} {ops : Array Oper} {rest : List Oper} {o : Oper} {a : Act} {Q : Exit → Act → World → Prop} (hgd : o.guard = none) (s x : Operand)
    (ho : o.op = .call { callee := .builtin .append, args := #[s, x], argTypes := #[st, st] })
    (B : Nat) (v : Value) (xs ys : List α) (hs : a.eval s = v) (hown : OwnE E t B w v xs)
    (ad : Addr) (m c : Nat) (hx : a.eval x = .slice (some ad) m c) (hm : m = ys.length) (hnews : ∀ j u, (E.cells ys)[j]? = some u → w.cell? (ad.add j) = some u) (hn : xs.length + ys.length ≤ 1000000) (hbase : B ≤ w.heap.size)
    (h : ∀ v' w', OwnE E t B w' v' (xs ++ ys) → w.grownBy w' v.ownBlock → (v'.ownBlock = v.ownBlock ∨ v'.ownBlock = some w.heap.size) → wpList Tryz.prog ops Q rest (a.put o.dst v') w') : wpList Tryz.prog ops Q (o :: rest) a w :=
  wpList_plain hgd fun _ hK => wp_app T s x ho B v xs ys hs hown ad m c hx hm hnews hn hbase fun v' w' h1 h2 h3 => hK _ _ (h v' w' h1 h2 h3)
end

attribute [local go_sem] Oper.semAt_some

theorem own_gbI {α : Type} {E : Enc α} {t : TypeId} {B : Nat} {w w' : World} {v : Value} {xs : List α} {row : Option Nat} (h : OwnE E t B w v xs) (hg : w.grownBy w' row) (hr : ∀ r, row = some r → v.ownBlock ≠ some r) : OwnE E t B w' v xs := by
  cases row with
  | none =>
    refine h.gb hg ?_
    cases v.ownBlock with
    | none => exact .inl rfl
    | some k => exact .inr (by intro e; cases e)
  | some r => exact h.gb hg (.inr (hr r rfl))
section
variable {α : Type} {E : Enc α} {t : TypeId}
theorem wpListIn_appI {st : TypeId} {z : Value} {bytes : Nat} (T : Ty E t st z bytes) {F : Fence} {n : Nat} {w : World} {ops : Array Oper} {rest : List Oper} {o : Oper} {a : Act} {Q : Exit → Act → World → Prop} (hgd : o.guard = none) (s x : Operand)
    (ho : o.op = .call { callee := .builtin .append, args := #[s, x], argTypes := #[st, st] })
    (B : Nat) (v : Value) (xs ys : List α) (hs : a.eval s = v) (hown : OwnE E t B w v xs)
    (ad : Addr) (m c : Nat) (hx : a.eval x = .slice (some ad) m c) (hm : m = ys.length) (hnews : ∀ j u, (E.cells ys)[j]? = some u → w.cell? (ad.add j) = some u) (hn : xs.length + ys.length ≤ 1000000) (hbase : B ≤ w.heap.size)
    (h : ∀ v' w', OwnE E t B w' v' (xs ++ ys) → w.grownBy w' v.ownBlock → (v'.ownBlock = v.ownBlock ∨ v'.ownBlock = some w.heap.size) → wpListIn F n Tryz.prog ops Q rest (a.put o.dst v') w') : wpListIn F n Tryz.prog ops Q (o :: rest) a w := by
  obtain ⟨v', w', hr, h2, h3, h4⟩ := run_app T o.type B v xs ys hown ad m c hm hnews hn hbase
  refine wpListIn_plain hgd fun K hK => ?_
  unfold Oper.wpIn
  refine ⟨?_, ?_⟩
  · simp [Oper.about, ho, resolve, Target.leads, Sem.run_pure]
  · rw [Oper.semAt_plain F _ _ (by rw [ho]; intro c hc; cases hc)]
    simp [execOp, ho, resolve, invoke, builtin, hs, hx, hr, Result.andThen]
    exact hK _ _ (h v' w' h2 h3 h4)
end
theorem range_enterI {P : Program} {n gf : Nat} {lb : Array Value} {g : Operand} {ps : Array Tmp} {assign body : Code} {Q : Exit → Act → World → Prop} {a : Act} {w : World} (h1 : 1 ≤ n) (hg : a.eval g = .func (.func gf) #[] lb) (eg : ∀ args w, (callFunc gf args).run P w = .ok (.enter gf args) w)
    (h : ∀ (fn : FuncId) (rc : LoopState → Option Code → Loop), rc = (fun st pe => { state := st, pending := pe, fn, tmps := a.tmps, params := ps, assign, body, defers := w.heap.size }) →
      CallsIn Fence.wide (n - 1) P gf (#[.func (.yield (w.heap.size + 1)) #[] #[]] ++ lb) ((w.alloc (.deferred (some []))).alloc (.loop (rc .ready none))) (rangePost Fence.wide n P (w.heap.size + 1) Q { a with defers := { target := .collected w.heap.size, args := #[] } :: a.defers })) :
    (Code.rangeFunc g ps assign body).wpIn Fence.wide n P Q a w := by
  refine wpIn_rangeFunc ?_
  intro fn _
  obtain ⟨rc, hrc⟩ : ∃ rc : LoopState → Option Code → Loop, rc = fun st pe => { state := st, pending := pe, fn, tmps := a.tmps, params := ps, assign, body, defers := w.heap.size } := ⟨_, rfl⟩
  have hc := h fn rc hrc
  obtain ⟨W1, hW1⟩ : ∃ W1, W1 = (w.alloc (.deferred (some []))).alloc (.loop (rc .ready none)) := ⟨_, rfl⟩
  rw [← hW1] at hc
  refine ⟨w.heap.size + 1, [{ target := .collected w.heap.size, args := #[] }], W1, { target := .fn (.func gf) lb, args := #[.func (.yield (w.heap.size + 1)) #[] #[]] }, W1, gf, #[.func (.yield (w.heap.size + 1)) #[] #[]] ++ lb, W1, ?_, ?_, ?_, ?_, fun _ => h1, ?_⟩
  · rw [hW1, hrc]; exact run_enterLoop_outer _ _ _ _ _
  · simp only [resolve, hg]
    simp [go_sem]
  · exact fun _ _ => trivial
  · simp [invoke, go_sem, eg]
  · exact hc
end Go.Proofs.YtfbggfpihiegpaaGreatDoor
namespace Go.Proofs.YtfbggfpihiegpaaGreatDoor
open Go.RowKit

def eInt : Enc Int := ⟨fun z => [.int .i64 z], 1, by decide, fun _ => rfl, fun x v hv => by rw [List.mem_singleton.1 hv]; rfl⟩
theorem infoInt : (Tryz.prog.info? 3).map (fun i => (i.zero, i.size, i.bytes)) = some (some (.int .i64 0), 1, 8) := by kernel_rfl
theorem tyeInt : Ty eInt 3 22 (.int .i64 0) 8 := ⟨Tryz.underlying22, infoInt, rfl, by decide⟩
theorem SlE.num {w : World} {A : Option Addr} {n cap : Nat} {zs : List Int} (h : SlE eInt w A n cap zs) {k : Nat} {z : Int} (hz : zs[k]? = some z) : ∃ b off, A = some ⟨b, off, none⟩ ∧ b < w.heap.size ∧ w.cell? ⟨b, off + k, none⟩ = some (.int .i64 z) := by
  have hk : k < n := by rw [h.1]; exact (List.getElem?_eq_some_iff.1 hz).1
  obtain ⟨g, off, hA, hg, hc⟩ := h.at' hk
  refine ⟨g, off, hA, hg, ?_⟩
  have := hc k z hz 0 (.int .i64 z) rfl
  rw [show eInt.k = 1 from rfl, Nat.mul_one, Nat.add_zero] at this
  exact this

theorem needI_any (q : Bool) (x : Int) (w : World) : Calls Tryz.prog 174 #[.bool q, .int .i64 x] w fun e w' => e = .returned (.int .i64 (if q then 0 else x)) ∧ w = w' := by
  cases q
  all_goals
    go_enter Tryz.func174, Tryz.ntmps174
    go_wp2_with fail
    go_ret
    exact ⟨rfl, rfl⟩
theorem numberI_any (n a b : Int) (w : World) : Calls Tryz.prog 96 #[.int .i64 n, .int .i64 a, .int .i64 b] w fun e w' => e = .returned (.int .i64 (if a ≤ n ∧ n ≤ b then 0 else 1)) ∧ w = w' := by
  have HN := fun q w' => Lib.hid (needI_any q 1 w')
  by_cases h1 : a ≤ n
  · by_cases h2 : n ≤ b
    · rw [if_pos ⟨h1, h2⟩]
      replace HN := fun w' => HN true w'
      go_enter Tryz.func96, Tryz.ntmps96
      go_wp2_with fail
      refine (HN _).out.mono ?_
      rintro e w1 ⟨rfl, rfl⟩
      go_wp2_with fail
      go_ret
      exact ⟨rfl, rfl⟩
    · rw [if_neg (fun h => h2 h.2)]
      replace HN := fun w' => HN false w'
      go_enter Tryz.func96, Tryz.ntmps96
      go_wp2_with fail
      refine (HN _).out.mono ?_
      rintro e w1 ⟨rfl, rfl⟩
      go_wp2_with fail
      go_ret
      exact ⟨rfl, rfl⟩
  · rw [if_neg (fun h => h1 h.1)]
    replace HN := fun w' => HN false w'
    go_enter Tryz.func96, Tryz.ntmps96
    go_wp2_with fail
    refine (HN _).out.mono ?_
    rintro e w1 ⟨rfl, rfl⟩
    go_wp2_with fail
    go_ret
    exact ⟨rfl, rfl⟩

theorem numOne_any (z : Int) (w : World) : Calls Tryz.prog 95 #[.int .i64 z] w fun e w' => e = .returned (.int .i64 (if okNum z then 0 else 1)) ∧ w = w' := by
  have HN := fun w' => Lib.hid (numberI_any z 0 2000000000000 w')
  have e : (if okNum z then (0 : Int) else 1) = if 0 ≤ z ∧ z ≤ 2000000000000 then 0 else 1 := by
    by_cases h : okNum z
    · rw [if_pos h, if_pos (okNum_iff.1 h)]
    · rw [if_neg h, if_neg (fun g => h (okNum_iff.2 g))]
  rw [e]
  generalize (if 0 ≤ z ∧ z ≤ 2000000000000 then (0 : Int) else 1) = r at HN
  go_enter Tryz.func95, Tryz.ntmps95
  go_wp2_with fail
  refine (HN _).out.mono ?_
  rintro e w1 ⟨rfl, rfl⟩
  go_wp2_with fail
  go_ret
  exact ⟨rfl, rfl⟩

theorem all_takeB {α : Type} {p : α → Bool} {zs : List α} {k : Nat} {z : α} (hz : zs[k]? = some z) (h : (zs.take k).all p = true) (hq : p z = true) : (zs.take (k + 1)).all p = true := by
  rw [List.take_add_one, hz, List.all_append, h]
  simpa using hq
theorem all_badB {α : Type} {p : α → Bool} {zs : List α} {k : Nat} {z : α} (hz : zs[k]? = some z) (hq : p z = false) : zs.all p = false := by
  cases e : zs.all p
  · rfl
  · have := List.all_eq_true.1 e z (List.mem_of_getElem? hz)
    rw [hq] at this; cases this

set_option maxHeartbeats 4000000 in
theorem eachI_any (r : Int) (A : Option Addr) (n cap : Nat) (zs : List Int) (w : World) (hS : SlE eInt w A n cap zs) (hn : n ≤ 1000000) (hr : r = if 3000 < zs.length then 2 else if zs.all okNum then 0 else 1) :
    Calls Tryz.prog 94 #[.slice A n cap, .int .i64 3000, .func (.func 95) #[] #[]] w fun e w' => e = .returned (.int .i64 r) ∧ w = w' := by
  have hl := hS.1
  by_cases h3 : 3000 < n
  · have hV := Lib.hid (show r = 2 by rw [hr, if_pos (by omega)])
    have h3' : (3000 : Int) < n := by omega
    clear h3 hS hl hn hr
    go_enter Tryz.func94, Tryz.ntmps94
    go_wp2_with fail
    go_ret
    exact ⟨by rw [hV.out]; rfl, rfl⟩
  · have hV := Lib.hid (show r = if zs.all okNum then 0 else 1 by rw [hr, if_neg (by omega)])
    have h3' : ¬ (3000 : Int) < n := by omega
    have HI := Lib.hid (fun z w' => numOne_any z w')
    replace hl := Lib.hid hl
    replace hS := Lib.hid hS
    clear h3 hr
    go_enter Tryz.func94, Tryz.ntmps94
    go_wp2_with fail
    go_loopw [16] (fun i wr => ∃ k : Nat, k ≤ n ∧ i = .int .i64 k ∧ w = wr ∧ Hid ((zs.take k).all okNum = true)) (fun i _ => n - (intOf i).toNat)
    case atStart => exact ⟨0, by omega, rfl, rfl, Lib.hid (by simp)⟩
    case round =>
      obtain ⟨k, hk, rfl, rfl, hG⟩ := hrel
      by_cases hlt : k < n
      · obtain ⟨z, hz⟩ : ∃ z, zs[k]? = some z := ⟨zs[k]'(by have := hl.out; omega), List.getElem?_eq_getElem _⟩
        obtain ⟨b, off, rfl, hb, hc⟩ := hS.out.num hz
        have hlt' : (k : Int) < n := by omega
        have hH := Lib.hid (all_takeB (p := okNum) hz hG.out)
        have hBad := Lib.hid (all_badB (p := okNum) hz)
        clear hb
        cases hq : okNum z
        · have HY := Lib.hid (hBad.out hq)
          have HI1 := fun w' => Lib.hid (show Calls Tryz.prog 95 #[.int .i64 z] w' fun e w2 => e = .returned (.int .i64 1) ∧ w' = w2 from by have := HI.out z w'; rw [hq] at this; exact this)
          clear hz hG hH hBad hq HI
          go_wp2_with fail
          refine (HI1 _).out.mono ?_
          rintro e w2 ⟨rfl, rfl⟩
          go_wp2_with fail
          go_ret
          exact ⟨by rw [hV.out, HY.out]; rfl, rfl⟩
        · have HI1 := fun w' => Lib.hid (show Calls Tryz.prog 95 #[.int .i64 z] w' fun e w2 => e = .returned (.int .i64 0) ∧ w' = w2 from by have := HI.out z w'; rw [hq] at this; exact this)
          replace hH := Lib.hid (hH.out hq)
          clear hz hG hBad hq HI
          go_wp2_with fail
          refine (HI1 _).out.mono ?_
          rintro e w2 ⟨rfl, rfl⟩
          go_wp2_with fail
          go_roundw
          case rel => exact ⟨k + 1, by omega, by go_num, trivial, hH⟩
          case measure => simp [intOf]; omega
      · have hall : Hid (zs.all okNum = true) := Lib.hid (by have := hG.out; rw [List.take_of_length_le (by have := hl.out; omega)] at this; exact this)
        clear hG
        go_wp2_with fail
        go_ret
        exact ⟨by rw [hV.out, hall.out]; rfl, rfl⟩

set_option maxHeartbeats 1000000 in
theorem checkNumbers_any (A : Option Addr) (n cap : Nat) (zs : List Int) (w : World) (hS : SlE eInt w A n cap zs) (hn : n ≤ 1000000) :
    Calls Tryz.prog 56 #[.slice A n cap] w fun e w' => e = .returned (.int .i64 (numsF zs)) ∧ w = w' := by
  have hl := hS.1
  obtain ⟨r, hr⟩ : ∃ r, r = numsF zs := ⟨_, rfl⟩
  rw [← hr]
  by_cases h0 : n = 0
  · have hV := Lib.hid (show r = 8 by rw [hr]; unfold numsF; rw [if_pos (List.eq_nil_of_length_eq_zero (by omega))])
    subst h0
    clear hS hl hn hr
    go_enter Tryz.func56, Tryz.ntmps56
    go_wp2_with fail
    go_ret
    exact ⟨by rw [hV.out]; rfl, rfl⟩
  · have HE := Lib.hid (eachI_any r A n cap zs w hS hn (by
      rw [hr]; unfold numsF; rw [if_neg]; rintro rfl; exact h0 hl))
    have h0' : ((n : Int) == 0) = false := by simpa using h0
    clear hS hl h0 hr
    go_enter Tryz.func56, Tryz.ntmps56
    go_wp2_with fail
    refine HE.out.mono ?_
    rintro e w1 ⟨rfl, rfl⟩
    go_wp2_with fail
    go_ret
    exact ⟨rfl, rfl⟩

attribute [local go_sem] Oper.semAt_some

theorem valuesI_any (A : Option Addr) (n cap : Nat) (w : World) :
    Calls Tryz.prog 98 #[.slice A n cap] w fun e w' => e = .returned (.func (.func 177) #[] #[.pointer (some ⟨w.heap.size, 0, none⟩)]) ∧ w' = w.alloc (.cells #[.slice A n cap] 22) := by
  go_enter Tryz.func98, Tryz.ntmps98
  go_wp2_with fail
  go_ret
  exact ⟨rfl, rfl⟩

set_option maxHeartbeats 4000000 in
theorem valuesI1_in (N : Nat) (hN : 1 ≤ N) (l bs : Nat) (A : Option Addr) (n cap : Nat) (zs : List Int) (hn : n ≤ 100000) (hnl : n = zs.length)
    (J : Nat → World → Prop)
    (hY : ∀ (k : Nat) z W, zs[k]? = some z → J k W → YieldAt Fence.wide (N - 1) Tryz.prog l #[.int .i64 z] W fun e W' => e = .returned (.bool true) ∧ J (k + 1) W')
    (hR : ∀ k W, J k W → SlE eInt W A n cap zs)
    (W : World) (hbs : Boxed W bs 22 (.slice A n cap)) (hJ : J 0 W) :
    CallsIn Fence.wide N Tryz.prog 177 #[.func (.yield l) #[] #[], .pointer (some ⟨bs, 0, none⟩)] W fun e W' => (∃ v, e = .returned v) ∧ J n W' := by
  replace hY := Lib.hid hY
  replace hR := Lib.hid hR
  refine callsIn_of_wp Tryz.func177 rfl trivial ?_ rfl
  simp only [Tryz.ntmps177, List.size_toArray, List.length_cons, List.length_nil, Nat.reduceAdd, Nat.reduceSub, Array.replicate_succ, Array.replicate_zero, List.push_toArray, List.append_toArray, List.nil_append, List.cons_append]
  have q1 := hbs.cell
  replace hnl := Lib.hid hnl
  gi_wp2
  gi_loopw [7] (fun i wr => ∃ k : Nat, k ≤ n ∧ i = .int .i64 (k : Int) ∧ J k wr) (fun i _ => n - (intOf i).toNat)
  case atStart => exact ⟨0, Nat.zero_le _, rfl, hJ⟩
  case round =>
    clear hbs q1 hJ
    obtain ⟨k, hk, rfl, hJ⟩ := hrel
    by_cases hlt : k < n
    · obtain ⟨z, hz⟩ : ∃ z, zs[k]? = some z := ⟨zs[k]'(by have := hnl.out; omega), List.getElem?_eq_getElem _⟩
      have hS := hR.out _ _ hJ
      obtain ⟨g, off, rfl, _, hcell⟩ := hS.num hz
      have hcap := hS.2.1
      have hkm : (k : Int) < n := by omega
      obtain ⟨fn, tmps, assign, body, hy, hRr⟩ := hY.out k z wr hz hJ
      have hk0 := Lib.hid hk
      clear hJ hS hk hz
      gi_wp2
      refine hRr.mono ?_
      rintro e W3 ⟨rfl, hJ3⟩
      gi_wp2
      go_roundw
      case rel => exact ⟨k + 1, by have := hk0.out; omega, by go_num, hJ3⟩
      case measure => simp [intOf]; omega
    · have hkn : k = n := by omega
      subst hkn
      gi_wp2
      go_end0
      exact ⟨⟨_, rfl⟩, hJ⟩

theorem own_cells {α : Type} {E : Enc α} {t : TypeId} {B : Nat} {w : World} {v : Value} {xs : List α} (h : OwnE E t B w v xs) {k : Nat} (hk : v.ownBlock = some k) : ∃ cs, w.heap[k]? = some (.cells cs t (0, 0)) := by
  rcases h.2 with ⟨rfl, _⟩ | ⟨g, cap, cur, rfl, hg, hh, _⟩
  · cases hk
  · cases hk; exact ⟨cur, hh⟩

def SeqI (w : World) (zs : List Int) (c l D : Nat) (rc : Loop) (k : Nat) (W : World) : Prop :=
  ∃ v, Boxed W c 22 v ∧ OwnE eInt 3 (c + 1) W v (zs.take k) ∧ W.heap[l]? = some (.loop rc) ∧ W.heap[D]? = some (.deferred (some [])) ∧ Below c w W

set_option maxHeartbeats 4000000 in
theorem appendSeqI_any (bs : Nat) (A : Option Addr) (n cap : Nat) (zs : List Int) (w : World) (hS : SlE eInt w A n cap zs) (hbs : Boxed w bs 22 (.slice A n cap)) (hn : n ≤ 100000) :
    Calls Tryz.prog 240 #[.slice none 0 0, .func (.func 177) #[] #[.pointer (some ⟨bs, 0, none⟩)]] w fun e w' => (∃ v, e = .returned v ∧ OwnE eInt 3 w.heap.size w' v zs) ∧ Below w.heap.size w w' := by
  refine (callsIn_wide (n := 5)).1 ?_
  refine callsIn_of_wp_marks Tryz.func240 rfl trivial ?_ rfl
  simp only [Tryz.ntmps240, List.size_toArray, List.length_cons, List.length_nil, Nat.reduceAdd, Nat.reduceSub, Array.replicate_succ, Array.replicate_zero, List.push_toArray, List.append_toArray, List.nil_append, List.cons_append]
  obtain ⟨c, hc⟩ : ∃ c, c = w.heap.size := ⟨_, rfl⟩
  obtain ⟨W0, hW0⟩ : ∃ W, W = w.alloc (.cells #[.slice none 0 0] 22) := ⟨_, rfl⟩
  have bO : Boxed W0 c 22 (.slice none 0 0) := by rw [hW0, hc]; exact Boxed.new w _ _
  have hz : W0.heap.size = c + 1 := by rw [hW0, hc]; simp
  have hB0 : Below c w W0 := by rw [hW0, hc]; exact (Below.refl _ _).alloc (Nat.le_refl _) _
  have hS0 := hS.below (show Below w.heap.size w W0 by rw [← hc]; exact hB0)
  have bs0 : Boxed W0 bs 22 (.slice A n cap) := (hB0.block bs (by rw [hc]; exact hbs.lt)).trans hbs
  have hbc : bs < c := by rw [hc]; exact hbs.lt
  replace hz := Lib.hid hz
  have hc' := Lib.hid hc
  replace hbs := Lib.hid hbs
  replace hS := Lib.hid hS
  rw [← hc]
  gi_wp2
  rw [← hW0]
  clear hW0
  rw [← hc]
  clear hc
  refine range_enterI (by decide) (gf := 177) (lb := #[.pointer (some ⟨bs, 0, none⟩)]) (by simp [Act.eval]) (enters_of Tryz.func177 (by kernel_rfl) rfl) ?_
  intro fn rc hrc
  obtain ⟨D, hD⟩ : ∃ D, D = W0.heap.size := ⟨_, rfl⟩
  have hDc : D = c + 1 := by rw [hD]; exact hz.out
  have hJ0 : SeqI w zs c (D + 1) D (rc .ready none) 0 ((W0.alloc (.deferred (some []))).alloc (.loop (rc .ready none))) := by
    refine ⟨_, (bO.alloc _).alloc _, by rw [List.take_zero]; exact OwnE.nil _ _, ?_, ?_, (hB0.alloc (by omega) _).alloc (by simp; omega) _⟩
    · have := World.alloc_heap_new (W0.alloc (.deferred (some []))) (.loop (rc .ready none))
      rw [World.size_alloc, ← hD] at this
      exact this
    · rw [hD]; exact (Below.heap_alloc _ _ _ (by simp)).trans (World.alloc_heap_new W0 _)
  have bsE : Boxed ((W0.alloc (.deferred (some []))).alloc (.loop (rc .ready none))) bs 22 (.slice A n cap) := (bs0.alloc _).alloc _
  rw [← hD]
  obtain ⟨We, hWe⟩ : ∃ W, W = (W0.alloc (.deferred (some []))).alloc (.loop (rc .ready none)) := ⟨_, rfl⟩
  rw [← hWe] at hJ0 bsE ⊢
  replace hDc := Lib.hid hDc
  clear hWe hB0 bO hS0 bs0 hD
  refine (valuesI1_in 4 (by decide) (D + 1) bs A n cap zs hn hS.out.1 (SeqI w zs c (D + 1) D (rc .ready none)) ?hY ?hR We bsE hJ0).mono ?_
  case hR =>
    rintro k W ⟨v, _, _, _, _, hB⟩
    exact hS.out.below (by rw [← hc'.out]; exact hB)
  case hY =>
    rintro k z W hzk ⟨v, hv, hown, hl, hD, hB⟩
    have hy := run_yield (P := Tryz.prog) (args := #[.int .i64 z]) hl (by rw [hrc]; rfl)
    rw [hrc] at hy
    refine ⟨_, _, _, _, hy, roundIn_of_wpIn trivial ?_⟩
    clear hy
    replace hrc := Lib.hid hrc
    simp only [List.zip, Array.zip, List.foldl]
    have htk := Lib.hid (show zs.take (k + 1) = zs.take k ++ [z] by rw [List.take_add_one, hzk]; rfl)
    have hkn := Lib.hid (show (zs.take k).length + 1 ≤ 100000 by
      have := (List.getElem?_eq_some_iff.1 hzk).1
      have := hS.out.1
      rw [List.length_take]; omega)
    obtain ⟨pre, hpre⟩ : ∃ pre, pre = zs.take k := ⟨_, rfl⟩
    rw [← hpre] at htk hkn hown
    clear hpre
    gi_wp2
    refine ⟨_, run_beginRound hl (by rw [hrc.out]), ?_⟩
    obtain ⟨busy, hbusy⟩ : ∃ o : Loop, o = { rc .ready none with state := .busy } := ⟨_, rfl⟩
    rw [← hbusy]
    obtain ⟨Wb, hWb⟩ : ∃ X, X = W.putObj (D + 1) (.loop busy) := ⟨_, rfl⟩
    rw [← hWb]
    have hlt1 := (Array.getElem?_eq_some_iff.1 hl).1
    have hcl := hDc.out
    have hg2 : W.grownBy Wb (some (D + 1)) := by rw [hWb]; exact grownBy_putObj' _ _ _
    have hvb : Boxed Wb c 22 v := hv.kept hg2 (by intro e; have := Option.some.inj e; omega)
    have hownb : OwnE eInt 3 (c + 1) Wb v pre := by rw [hWb]; exact ownsRow_putObj hown _ hl rfl
    have hlb : Wb.heap[D + 1]? = some (.loop busy) := by rw [hWb]; exact World.putObj_heap_same hlt1
    have hDb : Wb.heap[D]? = some (.deferred (some [])) := by rw [hWb]; exact (World.putObj_heap_other (by omega)).trans hD
    have hszb : Wb.heap.size = W.heap.size := by rw [hWb]; simp
    have hBb : Below c w Wb := by rw [hWb]; exact hB.grown (grownBy_putObj' _ _ _) (by have := hv.lt; omega) (fun k e => by have := Option.some.inj e; omega)
    obtain ⟨A', cp, rfl, _⟩ := hown.sl
    have hcc := hvb.cell
    have hvl := hvb.lt
    clear hWb hg2 hv hown hB hzk
    gi_wp2_with (gi_at_builtin; refine wpListIn_appI tyeInt rfl _ _ rfl (c + 1) _ pre [z] rfl (hownb.below ((Below.refl _ _).alloc (Nat.le_refl _) _)) ⟨_, 0, none⟩ 1 1 rfl rfl ?c1 ?c2 ?c3 ?_)
    case c1 => intro j u hj; first | exact hj | (rw [Enc.cells_single] at hj; exact hj)
    case c2 => have := hkn.out; omega
    case c3 => omega
    intro v' w3 hown3 hg3 hd3
    have hne3 : some c ≠ (Value.slice A' pre.length cp).ownBlock := fun e => by have := hownb.lt _ e.symm; omega
    have hv3 : Boxed w3 c 22 (.slice A' pre.length cp) := (hg3.block c (by simp; omega) hne3).trans ((Below.heap_alloc _ _ _ hvl).trans hvb)
    have hl3 : w3.heap[D + 1]? = some (.loop busy) := (hg3.block _ (by simp; omega) (fun e => by
      obtain ⟨cs, hcs⟩ := own_cells hownb e.symm
      rw [hlb] at hcs; cases hcs)).trans ((Below.heap_alloc _ _ _ (by omega)).trans hlb)
    have hD3 : w3.heap[D]? = some (.deferred (some [])) := (hg3.block _ (by simp; omega) (fun e => by
      obtain ⟨cs, hcs⟩ := own_cells hownb e.symm
      rw [hDb] at hcs; cases hcs)).trans ((Below.heap_alloc _ _ _ (by omega)).trans hDb)
    have hB3 : Below c w w3 := (hBb.alloc (by omega) _).grown hg3 (by simp; omega) (fun k h => by have := (hownb.lt k h).1; omega)
    have hf3 := hv3.frozen
    have hc3 := hv3.cell
    obtain ⟨g', cp', hv', _⟩ := hown3.form (by simp)
    rw [show (pre ++ [z]).length = pre.length + 1 by simp] at hv'
    obtain ⟨L, hL⟩ : ∃ L, L = pre.length + 1 := ⟨_, rfl⟩
    rw [← hL] at hv'
    subst hv'
    clear hL
    replace hown3 := Lib.hid hown3
    clear hg3 hd3 hownb hlb hDb hBb hcc hvb hne3
    gi_wp2
    have hvS := hv3.set (.slice (some ⟨g', 0, none⟩) L cp')
    have hlS : (w3.setCell ⟨c, 0, none⟩ (.slice (some ⟨g', 0, none⟩) L cp')).heap[D + 1]? = some (.loop busy) := (Below.heap_setCell _ _ _ _ (by show D + 1 ≠ c; omega)).trans hl3
    have hDS : (w3.setCell ⟨c, 0, none⟩ (.slice (some ⟨g', 0, none⟩) L cp')).heap[D]? = some (.deferred (some [])) := (Below.heap_setCell _ _ _ _ (by show D ≠ c; omega)).trans hD3
    have hBS := hB3.setCell (p := ⟨c, 0, none⟩) (Nat.le_refl _) (.slice (some ⟨g', 0, none⟩) L cp')
    have hoS : OwnE eInt 3 (c + 1) (w3.setCell ⟨c, 0, none⟩ (.slice (some ⟨g', 0, none⟩) L cp')) (.slice (some ⟨g', 0, none⟩) L cp') (pre ++ [z]) := own_gbI hown3.out (grownBy_setCell' w3 c (.slice (some ⟨g', 0, none⟩) L cp')) (fun r e he => by have := Option.some.inj e; have := hown3.out.lt r he; omega)
    have hltS := (Array.getElem?_eq_some_iff.1 hlS).1
    refine ⟨_, _, run_endRound none hlS, rfl, .slice (some ⟨g', 0, none⟩) L cp', ?_, ?_, ?_, ?_, ?_⟩
    · exact hvS.kept (grownBy_putObj' _ _ _) (by intro e; have := Option.some.inj e; omega)
    · rw [htk.out]; exact ownsRow_putObj hoS _ hlS rfl
    · rw [hbusy, hrc.out]; exact World.putObj_heap_same hltS
    · exact (World.putObj_heap_other (by omega)).trans hDS
    · exact hBS.grown (grownBy_putObj' _ _ _) (by omega) (fun k e => by have := Option.some.inj e; omega)
  · rintro e W2 ⟨⟨v0, rfl⟩, v', hv, hown, hl, hD, hBel⟩
    rw [hS.out.1, List.take_length] at hown
    have hel := run_endLoop (P := Tryz.prog) hl (by rw [hrc]; simp)
    obtain ⟨W3, hW3⟩ : ∃ X, X = W2.putObj (D + 1) (.loop { rc .ready none with state := .exhausted }) := ⟨_, rfl⟩
    rw [← hW3] at hel
    refine ⟨none, W3, by rw [hel, hrc], ?_⟩
    have hcl := hDc.out
    have hg := grownBy_putObj' W2 (D + 1) (.loop { rc .ready none with state := .exhausted })
    rw [← hW3] at hg
    have hv3 := hv.kept hg (by intro e; have := Option.some.inj e; omega)
    have hown3 : OwnE eInt 3 (c + 1) W3 v' zs := by rw [hW3]; exact ownsRow_putObj hown _ hl rfl
    have hD3 : W3.heap[D]? = some (.deferred (some [])) := by rw [hW3]; exact (World.putObj_heap_other (by omega)).trans hD
    have hB3 : Below c w W3 := hBel.grown hg (by have := hv.lt; omega) (fun k e => by have := Option.some.inj e; omega)
    obtain ⟨A', cp, rfl, hsl⟩ := hown3.sl
    have hcc := hv3.cell
    clear hv hown hl hD hBel hg hW3 hel
    gi_wp2
    rw [hcl] at hD3
    refine ⟨by simp, .inl ⟨_, _, rfl, run_takeDeferred hD3, ?_⟩⟩
    have hgF := grownBy_putObj' W3 (c + 1) (.deferred none)
    have hBf := hB3.grown hgF (by have := hv3.lt; omega) (fun k e => by have := Option.some.inj e; omega)
    refine ⟨.slice A' zs.length cp, ?_, ⟨_, rfl, OwnE.mono (ownsRow_putObj hown3 _ hD3 rfl) (by have := hc'.out; omega)⟩, hBf⟩
    simp [results, Tryz.results240, go_sem]
theorem collectI_any (bs : Nat) (A : Option Addr) (n cap : Nat) (zs : List Int) (w : World) (hS : SlE eInt w A n cap zs) (hbs : Boxed w bs 22 (.slice A n cap)) (hn : n ≤ 100000) :
    Calls Tryz.prog 175 #[.func (.func 177) #[] #[.pointer (some ⟨bs, 0, none⟩)]] w fun e w' => (∃ v, e = .returned v ∧ OwnE eInt 3 w.heap.size w' v zs) ∧ Below w.heap.size w w' := by
  have HA := Lib.hid (appendSeqI_any bs A n cap zs w hS hbs hn)
  clear hS hbs
  go_enter Tryz.func175, Tryz.ntmps175
  go_wp2_with fail
  refine HA.out.mono ?_
  rintro e w1 ⟨⟨v, rfl, hown⟩, hb⟩
  go_wp2_with fail
  go_ret
  exact ⟨⟨v, rfl, hown⟩, hb⟩
end Go.Proofs.YtfbggfpihiegpaaGreatDoor
