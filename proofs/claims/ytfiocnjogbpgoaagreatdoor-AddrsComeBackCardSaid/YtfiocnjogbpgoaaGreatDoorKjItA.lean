/- Loops over functions: how one is entered, and an append in a round. -/
import Derived.Test.YtfiocnjogbpgoaaGreatDoorKjLaneC
import Derived.OwnWalk
import Derived.Maps.AppendAt
import Derived.Laws.AppendOwnNone
import Derived.Deep.Onto
import Derived.RangeFuncNested
import Derived.RangeFuncBound
import Derived.RangeFuncCalls
import Derived.RangeFuncLeaves
import Derived.Shelf.Abstract
import Derived.Shelf.RegionOpen
import Derived.WalkKit
import Derived.OwnWalkIn
import Derived.TacticsInMore
import Derived.LoopNIn
import Derived.LoopIn
namespace Go.Proofs.YtfiocnjogbpgoaaGreatDoor
open Go.RowKit

theorem gbB {u u' : World} {r : Option Nat} (h : Below u.heap.size u u') : u.grownBy u' r := gb_below (gb_refl u r) h
theorem gb2B {w u : World} (h : w.grownBy u none) : Below w.heap.size w u := ⟨h.os, h.tape, h.output, h.size, fun k hk => h.block k hk (by simp)⟩
theorem Blk.gn {w u : World} {p : Nat} {cs : List Value} {t : TypeId} (h : Blk w p cs t) (hg : w.grownBy u none) : Blk u p cs t := h.below (gb2B hg)
end Go.Proofs.YtfiocnjogbpgoaaGreatDoor
namespace Go.Proofs.YtfiocnjogbpgoaaGreatDoor
open Go.RowKit
set_option linter.unusedVariables false

/-- Numbers in their order. -/
def srtI (zs : List Int) : List Int := zs.mergeSort (fun x y => decide (x ≤ y))
theorem srt_len (zs : List Int) : (srtI zs).length = zs.length := List.length_mergeSort ..
theorem srt_mem {zs : List Int} {z : Int} (h : z ∈ srtI zs) : z ∈ zs := List.mem_mergeSort.1 h
/-- Twice the middle of numbers in their order. -/
def midS (s : List Int) : Int := s.getD ((s.length - 1) / 2) 0 + s.getD (s.length / 2) 0
def twiceI (zs : List Int) : Int := midS (srtI zs)
theorem mid_bound {s : List Int} {B : Int} (hs : s ≠ []) (h : ∀ z ∈ s, 0 ≤ z ∧ z ≤ B) : 0 ≤ midS s ∧ midS s ≤ 2 * B := by
  have hl : 0 < s.length := List.length_pos_iff.2 hs
  have h1 : (s.length - 1) / 2 < s.length := by omega
  have h2 : s.length / 2 < s.length := by omega
  have a := h (s.getD ((s.length - 1) / 2) 0) (by rw [List.getD_eq_getElem?_getD, List.getElem?_eq_getElem h1]; exact List.getElem_mem _)
  have b := h (s.getD (s.length / 2) 0) (by rw [List.getD_eq_getElem?_getD, List.getElem?_eq_getElem h2]; exact List.getElem_mem _)
  unfold midS
  omega
theorem srt_ne {zs : List Int} (h : zs ≠ []) : srtI zs ≠ [] := by
  intro e
  have := srt_len zs
  rw [e] at this
  exact h (List.eq_nil_of_length_eq_zero this.symm)
theorem twice_bound {zs : List Int} {B : Int} (hs : zs ≠ []) (h : ∀ z ∈ zs, 0 ≤ z ∧ z ≤ B) : 0 ≤ twiceI zs ∧ twiceI zs ≤ 2 * B :=
  mid_bound (srt_ne hs) fun z hz => h z (srt_mem hz)
/-- A fraction in lowest terms. -/
def fracV (n d : Nat) : Value := .agg #[.int .i64 ((n / Nat.gcd n d : Nat) : Int), .int .i64 ((d / Nat.gcd n d : Nat) : Int)]

/-- What is wrong with numbers. -/
def okNum (z : Int) : Bool := decide (0 ≤ z) && decide (z ≤ 2000000000000)
def numsF (zs : List Int) : Int := if zs = [] then 8 else if 3000 < zs.length then 2 else if zs.all okNum then 0 else 1
theorem okNum_iff {z : Int} : okNum z = true ↔ 0 ≤ z ∧ z ≤ 2000000000000 := by
  unfold okNum; rw [Bool.and_eq_true, decide_eq_true_iff, decide_eq_true_iff]
theorem numsF_zero {zs : List Int} (h : numsF zs = 0) : zs ≠ [] ∧ zs.length ≤ 3000 ∧ ∀ z ∈ zs, 0 ≤ z ∧ z ≤ 2000000000000 := by
  unfold numsF at h
  by_cases h1 : zs = []
  · rw [if_pos h1] at h; cases h
  · rw [if_neg h1] at h
    by_cases h2 : 3000 < zs.length
    · rw [if_pos h2] at h; cases h
    · rw [if_neg h2] at h
      by_cases h3 : zs.all okNum
      · exact ⟨h1, by omega, fun z hz => okNum_iff.1 (List.all_eq_true.1 h3 z hz)⟩
      · rw [if_neg h3] at h; cases h
/-- The steps of the greatest common divisor, as the program takes them. -/
theorem gcd_step (a b : Nat) : Nat.gcd b (a % b) = Nat.gcd a b := by
  rw [Nat.gcd_comm a b, Nat.gcd_rec b a, Nat.gcd_comm]
end Go.Proofs.YtfiocnjogbpgoaaGreatDoor
namespace Go.Proofs.YtfiocnjogbpgoaaGreatDoor
open Go.RowKit
set_option linter.unusedVariables false

/-- How elements lie in memory: k cells each. -/
structure Enc (α : Type) where
  enc : α → List Value
  k : Nat
  pos : 0 < k
  len : ∀ x, (enc x).length = k
  one : ∀ x, ∀ v ∈ enc x, v.oneCell' = true

section
variable {α : Type} (E : Enc α)
def Enc.cells (xs : List α) : List Value := xs.flatMap E.enc
theorem Enc.cells_nil : E.cells [] = [] := rfl
theorem Enc.cells_cons (x : α) (xs : List α) : E.cells (x :: xs) = E.enc x ++ E.cells xs := rfl
theorem Enc.cells_app (xs ys : List α) : E.cells (xs ++ ys) = E.cells xs ++ E.cells ys := List.flatMap_append
theorem Enc.cells_single (x : α) : E.cells [x] = E.enc x := List.append_nil _
theorem Enc.cells_len : ∀ xs : List α, (E.cells xs).length = xs.length * E.k
  | [] => by rw [E.cells_nil]; simp
  | x :: r => by rw [E.cells_cons, List.length_append, Enc.cells_len r, E.len, List.length_cons, Nat.succ_mul, Nat.add_comm]
theorem Enc.cells_get : ∀ (xs : List α) (j : Nat) (x : α), xs[j]? = some x → ∀ (i : Nat) (v : Value), (E.enc x)[i]? = some v → (E.cells xs)[j * E.k + i]? = some v
  | [], j, x, h, _, _, _ => by simp at h
  | y :: r, 0, x, h, i, v, hv => by
    simp at h; subst h
    have hi := (List.getElem?_eq_some_iff.1 hv).1
    rw [E.cells_cons, Nat.zero_mul, Nat.zero_add, List.getElem?_append_left hi]; exact hv
  | y :: r, j + 1, x, h, i, v, hv => by
    have h' : r[j]? = some x := by simpa using h
    have ih := Enc.cells_get r j x h' i v hv
    rw [E.cells_cons, List.getElem?_append_right (by rw [E.len, Nat.succ_mul]; omega), E.len, Nat.succ_mul, show j * E.k + E.k + i - E.k = j * E.k + i by omega]
    exact ih
theorem Enc.cells_at : ∀ (xs : List α) (m : Nat) (u : Value), (E.cells xs)[m]? = some u → ∃ j x i, xs[j]? = some x ∧ m = j * E.k + i ∧ i < E.k ∧ (E.enc x)[i]? = some u
  | [], m, u, h => by rw [E.cells_nil] at h; simp at h
  | y :: r, m, u, h => by
    rw [E.cells_cons] at h
    by_cases hm : m < E.k
    · rw [List.getElem?_append_left (by rw [E.len]; exact hm)] at h
      exact ⟨0, y, m, rfl, by omega, hm, h⟩
    · rw [List.getElem?_append_right (by rw [E.len]; omega), E.len] at h
      obtain ⟨j, x, i, h1, h2, h3, h4⟩ := Enc.cells_at r _ u h
      exact ⟨j + 1, x, i, by simpa using h1, by rw [Nat.succ_mul]; omega, h3, h4⟩
theorem Enc.cells_one : ∀ (xs : List α), ∀ u ∈ E.cells xs, u.oneCell' = true
  | [], u, h => by rw [E.cells_nil] at h; cases h
  | x :: r, u, h => by
    rw [E.cells_cons] at h
    rcases List.mem_append.1 h with h | h
    · exact E.one x u h
    · exact Enc.cells_one r u h

/-- A slice that reads as a list of elements. -/
def SlE (w : World) (A : Option Addr) (n cap : Nat) (xs : List α) : Prop :=
  n = xs.length ∧ n ≤ cap ∧ (A = none → cap = 0) ∧ (n = 0 ∨ ∃ g off, A = some ⟨g, off, none⟩ ∧ g < w.heap.size ∧ ∀ j x, xs[j]? = some x → ∀ i v, (E.enc x)[i]? = some v → w.cell? ⟨g, off + j * E.k + i, none⟩ = some v)
variable {E}
theorem SlE.keep {w w' : World} {A : Option Addr} {n cap : Nat} {xs : List α} (h : SlE E w A n cap xs) (hz : w.heap.size ≤ w'.heap.size) (hb : ∀ j, j < w.heap.size → w'.heap[j]? = w.heap[j]?) : SlE E w' A n cap xs := by
  obtain ⟨h1, h2, h3, h4⟩ := h
  refine ⟨h1, h2, h3, ?_⟩
  rcases h4 with h4 | ⟨g, off, hA, hg, hc⟩
  · exact .inl h4
  · refine .inr ⟨g, off, hA, by omega, fun j x hj i v hv => ?_⟩
    rw [World.cell?_of_block (w := w) (hb g hg)]
    exact hc j x hj i v hv
theorem SlE.below {w w' : World} {A : Option Addr} {n cap : Nat} {xs : List α} (h : SlE E w A n cap xs) (hb : Below w.heap.size w w') : SlE E w' A n cap xs := h.keep hb.size hb.block
theorem SlE.nil (w : World) : SlE E w none 0 0 [] := ⟨rfl, Nat.le_refl _, fun _ => rfl, .inl rfl⟩
theorem SlE.len {w : World} {A : Option Addr} {n cap : Nat} {xs : List α} (h : SlE E w A n cap xs) : n = xs.length := h.1
/-- An element of it. -/
theorem SlE.at' {w : World} {A : Option Addr} {n cap : Nat} {xs : List α} (h : SlE E w A n cap xs) {k : Nat} (hk : k < n) :
    ∃ g off, A = some ⟨g, off, none⟩ ∧ g < w.heap.size ∧ ∀ j x, xs[j]? = some x → ∀ i v, (E.enc x)[i]? = some v → w.cell? ⟨g, off + j * E.k + i, none⟩ = some v := by
  rcases h.2.2.2 with h | h
  · omega
  · exact h
/-- Its cells, one behind the other. -/
theorem SlE.cells {w : World} {a : Addr} {n cap : Nat} {xs : List α} (h : SlE E w (some a) n cap xs) : ∀ j u, (E.cells xs)[j]? = some u → w.cell? (a.add j) = some u := by
  intro m u hm
  obtain ⟨j, x, i, h1, h2, h3, h4⟩ := E.cells_at xs m u hm
  obtain ⟨_, _, _, h5⟩ := h
  have hj := (List.getElem?_eq_some_iff.1 h1).1
  rcases h5 with h5 | ⟨g, off, hA, _, hc⟩
  · omega
  · cases hA
    rw [Addr.add_lit, h2, ← Nat.add_assoc]
    exact hc j x h1 i u h4
/-- A row of one's own of elements, which lies from block B on. -/
def OwnE (E : Enc α) (t : TypeId) (B : Nat) (w : World) (v : Value) (xs : List α) : Prop := w.ownsRow B t E.k v xs.length (E.cells xs)
variable {t : TypeId}
theorem OwnE.nil (B : Nat) (w : World) : OwnE E t B w (.slice none 0 0) [] := World.ownsRow_nil _ _ _ _
theorem OwnE.mono {B B' : Nat} {w : World} {v : Value} {xs : List α} (h : OwnE E t B' w v xs) (hb : B ≤ B') : OwnE E t B w v xs := World.ownsRow.mono h hb
theorem OwnE.gb {B : Nat} {w w' : World} {v : Value} {xs : List α} {r : Option Nat} (h : OwnE E t B w v xs) (hg : w.grownBy w' r) (hr : v.ownBlock = none ∨ v.ownBlock ≠ r) : OwnE E t B w' v xs := World.ownsRow.kept h hg hr
theorem OwnE.below {B : Nat} {w w' : World} {v : Value} {xs : List α} (h : OwnE E t B w v xs) (hb : Below w.heap.size w w') : OwnE E t B w' v xs :=
  h.gb (gbB (r := none) hb) (by
    cases hv : v.ownBlock with
    | none => exact .inl rfl
    | some k => exact .inr (by intro e; cases e))
theorem OwnE.lt {B : Nat} {w : World} {v : Value} {xs : List α} (h : OwnE E t B w v xs) : ∀ k, v.ownBlock = some k → B ≤ k ∧ k < w.heap.size := World.ownsRow.lt h
theorem OwnE.sl {B : Nat} {w : World} {v : Value} {xs : List α} (h : OwnE E t B w v xs) : ∃ A cap, v = .slice A xs.length cap ∧ SlE E w A xs.length cap xs := by
  have h0 := h
  rcases h.2 with ⟨rfl, h1⟩ | ⟨g, cap, cur, rfl, hg, hh, hle, _⟩
  · exact ⟨none, 0, by rw [h1], rfl, by omega, fun _ => rfl, .inl h1⟩
  · refine ⟨_, cap, rfl, rfl, hle, (fun e => by cases e), .inr ⟨g, 0, rfl, (Array.getElem?_eq_some_iff.1 hh).1, fun j x hj i v hv => ?_⟩⟩
    have := World.ownsRow.cells h0 (g := g) rfl _ _ (E.cells_get xs j x hj i v hv)
    rw [Addr.add_lit] at this
    rw [Nat.zero_add]
    simpa using this
/-- The row with an element or more stands in memory as a slice at its head. -/
theorem OwnE.form {B : Nat} {w : World} {v : Value} {xs : List α} (h : OwnE E t B w v xs) (hx : xs ≠ []) :
    ∃ g cap, v = .slice (some ⟨g, 0, none⟩) xs.length cap ∧ B ≤ g ∧ g < w.heap.size ∧ xs.length ≤ cap ∧ (∀ j x, xs[j]? = some x → ∀ i u, (E.enc x)[i]? = some u → w.cell? ⟨g, j * E.k + i, none⟩ = some u) ∧ (∀ j, w.frozen? ⟨g, j, none⟩ = false) := by
  have h0 := h
  rcases h.2 with ⟨rfl, h1⟩ | ⟨g, cap, cur, rfl, hg, hh, hle, _⟩
  · exact absurd (List.eq_nil_of_length_eq_zero h1) hx
  · refine ⟨g, cap, rfl, hg, (Array.getElem?_eq_some_iff.1 hh).1, hle, fun j x hj i u hu => ?_, fun j => frozen_of_row w g j _ _ hh⟩
    have := World.ownsRow.cells h0 (g := g) rfl _ _ (E.cells_get xs j x hj i u hu)
    rw [Addr.add_lit] at this
    simpa using this
/-- What the program's tables say of the elements and their slices. -/
structure Ty (E : Enc α) (t st : TypeId) (z : Value) (bytes : Nat) : Prop where
  sl : Tryz.prog.underlying st = some (.slice t)
  info : (Tryz.prog.info? t).map (fun i => (i.zero, i.size, i.bytes)) = some (some z, E.k, bytes)
  zs : z.cells.size = E.k
  small : bytes ≤ 1000

theorem run_app {st : TypeId} {z : Value} {bytes : Nat} (T : Ty E t st z bytes) (ty : TypeId) {w : World} (B : Nat) (v : Value) (xs ys : List α) (hown : OwnE E t B w v xs)
    (ad : Addr) (m c : Nat) (hm : m = ys.length) (hnews : ∀ j u, (E.cells ys)[j]? = some u → w.cell? (ad.add j) = some u) (hn : xs.length + ys.length ≤ 1000000) (hbase : B ≤ w.heap.size) :
    ∃ v' w', (Builtin.append_ #[st, st] ty #[v, .slice (some ad) m c]).run Tryz.prog w = .ok v' w' ∧ OwnE E t B w' v' (xs ++ ys) ∧ w.grownBy w' v.ownBlock ∧ (v'.ownBlock = v.ownBlock ∨ v'.ownBlock = some w.heap.size) := by
  obtain ⟨i0, hi0, hz0, hz1, hz2⟩ := info_parts T.info
  subst hm
  have hb1 : (xs.length + ys.length) * bytes ≤ 1000000 * 1000 := Nat.mul_le_mul hn T.small
  obtain ⟨v', w', hr, h2, h3, _, h5⟩ := run_append_own_at (P := Tryz.prog) w B st ty t i0 z E.k bytes T.sl hi0 hz0 hz1 hz2 T.zs E.pos v xs.length (E.cells xs) hown ad ys.length c (E.cells ys) (E.cells_len ys) hnews (E.cells_one ys) (by unfold maxLen; omega) (by omega) hbase
  refine ⟨v', w', hr, ?_, h3, h5⟩
  unfold OwnE
  rw [List.length_append, E.cells_app]
  exact h2
theorem wp_app {st : TypeId} {z : Value} {bytes : Nat} (T : Ty E t st z bytes) {w : World} {o : Oper} {a : Act} {K : Act → World → Prop} {Q : Exit → Act → World → Prop} (s x : Operand)
    (ho : o.op = .call { callee := .builtin .append, args := #[s, x], argTypes := #[st, st] })
    (B : Nat) (v : Value) (xs ys : List α) (hs : a.eval s = v) (hown : OwnE E t B w v xs)
    (ad : Addr) (m c : Nat) (hx : a.eval x = .slice (some ad) m c) (hm : m = ys.length) (hnews : ∀ j u, (E.cells ys)[j]? = some u → w.cell? (ad.add j) = some u) (hn : xs.length + ys.length ≤ 1000000) (hbase : B ≤ w.heap.size)
    (h : ∀ v' w', OwnE E t B w' v' (xs ++ ys) → w.grownBy w' v.ownBlock → (v'.ownBlock = v.ownBlock ∨ v'.ownBlock = some w.heap.size) → K (a.put o.dst v') w') : Oper.wp Tryz.prog o a w K Q := by
  obtain ⟨v', w', hr, h2, h3, h4⟩ := run_app T o.type B v xs ys hown ad m c hm hnews hn hbase
  unfold Oper.wp execOp
  simp only [ho, resolve, invoke, builtin, Sem.run_bind, Sem.run_pure, Result.andThen_ok, List.map_toArray, List.map_cons, List.map_nil, hs, hx, hr]
  exact h v' w' h2 h3 h4
theorem wpList_app {st : TypeId} {z : Value} {bytes : Nat} (T : Ty E t st z bytes) {w : World} {ops : Array Oper} {rest : List Oper} {o : Oper} {a : Act} {Q : Exit → Act → World → Prop} (hgd : o.guard = none) (s x : Operand)
    (ho : o.op = .call { callee := .builtin .append, args := #[s, x], argTypes := #[st, st] })
    (B : Nat) (v : Value) (xs ys : List α) (hs : a.eval s = v) (hown : OwnE E t B w v xs)
    (ad : Addr) (m c : Nat) (hx : a.eval x = .slice (some ad) m c) (hm : m = ys.length) (hnews : ∀ j u, (E.cells ys)[j]? = some u → w.cell? (ad.add j) = some u) (hn : xs.length + ys.length ≤ 1000000) (hbase : B ≤ w.heap.size)
    (h : ∀ v' w', OwnE E t B w' v' (xs ++ ys) → w.grownBy w' v.ownBlock → (v'.ownBlock = v.ownBlock ∨ v'.ownBlock = some w.heap.size) → wpList Tryz.prog ops Q rest (a.put o.dst v') w') : wpList Tryz.prog ops Q (o :: rest) a w :=
  wpList_plain hgd fun _ hK => wp_app T s x ho B v xs ys hs hown ad m c hx hm hnews hn hbase fun v' w' h1 h2 h3 => hK _ _ (h v' w' h1 h2 h3)
end
end Go.Proofs.YtfiocnjogbpgoaaGreatDoor
namespace Go.Proofs.YtfiocnjogbpgoaaGreatDoor
open Go.RowKit
set_option linter.unusedVariables false
set_option linter.unusedSimpArgs false

attribute [local go_sem] Oper.semAt_some

theorem own_gbI {α : Type} {E : Enc α} {t : TypeId} {B : Nat} {w w' : World} {v : Value} {xs : List α} {row : Option Nat} (h : OwnE E t B w v xs) (hg : w.grownBy w' row) (hr : ∀ r, row = some r → v.ownBlock ≠ some r) : OwnE E t B w' v xs := by
  cases row with
  | none =>
    refine h.gb hg ?_
    cases v.ownBlock with
    | none => exact .inl rfl
    | some k => exact .inr (by intro e; cases e)
  | some r => exact h.gb hg (.inr (hr r rfl))
section
variable {α : Type} {E : Enc α} {t : TypeId}
/-- An append onto one's own row, in a round. -/
theorem wpListIn_appI {st : TypeId} {z : Value} {bytes : Nat} (T : Ty E t st z bytes) {F : Fence} {n : Nat} {w : World} {ops : Array Oper} {rest : List Oper} {o : Oper} {a : Act} {Q : Exit → Act → World → Prop} (hgd : o.guard = none) (s x : Operand)
    (ho : o.op = .call { callee := .builtin .append, args := #[s, x], argTypes := #[st, st] })
    (B : Nat) (v : Value) (xs ys : List α) (hs : a.eval s = v) (hown : OwnE E t B w v xs)
    (ad : Addr) (m c : Nat) (hx : a.eval x = .slice (some ad) m c) (hm : m = ys.length) (hnews : ∀ j u, (E.cells ys)[j]? = some u → w.cell? (ad.add j) = some u) (hn : xs.length + ys.length ≤ 1000000) (hbase : B ≤ w.heap.size)
    (h : ∀ v' w', OwnE E t B w' v' (xs ++ ys) → w.grownBy w' v.ownBlock → (v'.ownBlock = v.ownBlock ∨ v'.ownBlock = some w.heap.size) → wpListIn F n Tryz.prog ops Q rest (a.put o.dst v') w') : wpListIn F n Tryz.prog ops Q (o :: rest) a w := by
  obtain ⟨v', w', hr, h2, h3, h4⟩ := run_app T o.type B v xs ys hown ad m c hm hnews hn hbase
  refine wpListIn_plain hgd fun K hK => ?_
  unfold Oper.wpIn
  refine ⟨?_, ?_⟩
  · simp [Oper.about, ho, resolve, Target.leads, Sem.run_pure]
  · rw [Oper.semAt_plain F _ _ (by rw [ho]; intro c hc; cases hc)]
    simp [execOp, ho, resolve, invoke, builtin, hs, hx, hr, Result.andThen]
    exact hK _ _ (h v' w' h2 h3 h4)
end
/-- A loop over a function is entered: the call that is left to be walked. -/
theorem range_enterI {P : Program} {n gf : Nat} {lb : Array Value} {g : Operand} {ps : Array Tmp} {assign body : Code} {Q : Exit → Act → World → Prop} {a : Act} {w : World} (h1 : 1 ≤ n) (hg : a.eval g = .func (.func gf) #[] lb) (eg : ∀ args w, (callFunc gf args).run P w = .ok (.enter gf args) w)
    (h : ∀ (fn : FuncId) (rc : LoopState → Option Code → Loop), rc = (fun st pe => { state := st, pending := pe, fn, tmps := a.tmps, params := ps, assign, body, defers := w.heap.size }) →
      CallsIn Fence.wide (n - 1) P gf (#[.func (.yield (w.heap.size + 1)) #[] #[]] ++ lb) ((w.alloc (.deferred (some []))).alloc (.loop (rc .ready none))) (rangePost Fence.wide n P (w.heap.size + 1) Q { a with defers := { target := .collected w.heap.size, args := #[] } :: a.defers })) :
    (Code.rangeFunc g ps assign body).wpIn Fence.wide n P Q a w := by
  refine wpIn_rangeFunc ?_
  intro fn _
  obtain ⟨rc, hrc⟩ : ∃ rc : LoopState → Option Code → Loop, rc = fun st pe => { state := st, pending := pe, fn, tmps := a.tmps, params := ps, assign, body, defers := w.heap.size } := ⟨_, rfl⟩
  have hc := h fn rc hrc
  obtain ⟨W1, hW1⟩ : ∃ W1, W1 = (w.alloc (.deferred (some []))).alloc (.loop (rc .ready none)) := ⟨_, rfl⟩
  rw [← hW1] at hc
  refine ⟨w.heap.size + 1, [{ target := .collected w.heap.size, args := #[] }], W1, { target := .fn (.func gf) lb, args := #[.func (.yield (w.heap.size + 1)) #[] #[]] }, W1, gf, #[.func (.yield (w.heap.size + 1)) #[] #[]] ++ lb, W1, ?_, ?_, ?_, ?_, fun _ => h1, ?_⟩
  · rw [hW1, hrc]; exact run_enterLoop_outer _ _ _ _ _
  · simp only [resolve, hg]
    simp [go_sem]
  · exact fun _ _ => trivial
  · simp [invoke, go_sem, eg]
  · exact hc
end Go.Proofs.YtfiocnjogbpgoaaGreatDoor
