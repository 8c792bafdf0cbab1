/- Reports out of a stream: one that is made, whatever the order. -/
import Derived.Test.YtilgjgdppfnefaaGreatDoorKhRqD
import Derived.Test.YtilgjgdppfnefaaGreatDoorKhFltY
import Derived.Test.YtilgjgdppfnefaaGreatDoorKhWaysI
namespace Go.Proofs.YtilgjgdppfnefaaGreatDoor
open Go.RowKit
set_option linter.unusedVariables false
set_option linter.unusedSimpArgs false

/-- A string of at most m bytes. -/
def isStr (m : Nat) : Value → Bool
  | .string b => decide (b.size ≤ m)
  | _ => false
theorem isStr_get {m : Nat} {v : Value} (h : isStr m v = true) : ∃ l : List UInt8, l.length ≤ m ∧ v = .string ⟨l.toArray⟩ := by
  cases v with
  | string b => exact ⟨b.data.toList, by unfold isStr at h; simpa using h, by cases b; rfl⟩
  | _ => cases h
/-- A step of the stream b: a string of at most m bytes. -/
def StPost (m b R : Nat) (w : World) (e : Ending) (w' : World) : Prop :=
  ∃ l : List UInt8, l.length ≤ m ∧ e = .returned (.string ⟨l.toArray⟩) ∧ Str w' b R ∧ w.grownBy w' (some b)

set_option maxHeartbeats 400000 in
theorem some_any (w : World) (b R p cap n m : Nat) (vs : List Value) (t : TypeId) (hs : Str w b (R + 1)) (hb : b < p) (hB : Blk w p vs t) (hn : n = vs.length) (h1 : 1 ≤ vs.length) (h2 : vs.length ≤ 1000) (hP : vs.all (isStr m) = true) :
    Calls Tryz.prog 25 #[.pointer (some ⟨b, 0, none⟩), .slice (some ⟨p, 0, none⟩) n cap] w (StPost m b R w) := by
  subst hn
  go_enter Tryz.func25, Tryz.ntmps25
  go_wp2_with fail
  refine (next_any _ _ _ _ (by omega) (by omega) hs).mono ?_
  rintro e w' ⟨r, ⟨hr1, hr2⟩, rfl, hs', hg⟩
  obtain ⟨i, rfl⟩ := Int.eq_ofNat_of_zero_le hr1
  have hi : i < vs.length := by omega
  have hc := (hB.gb hg hb).cell (i := i) (v := vs[i]) (List.getElem?_eq_getElem hi)
  obtain ⟨l, hl, hv⟩ := isStr_get (List.all_eq_true.1 hP _ (List.getElem_mem hi))
  rw [hv] at hc
  clear hP hB hv
  go_wp2_with fail
  go_ret
  exact ⟨l, hl, rfl, hs', hg⟩
/-- Pick out of a block that is younger than the stream. -/
theorem pick_blk (w : World) (b R p n cap : Nat) (zs : List Int) (t : TypeId) (hs : Str w b (R + 1)) (hb : b < p) (hB : Blk w p (zs.map (Value.int .i64)) t) (hn : n = zs.length) (h1 : 1 ≤ zs.length) (h2 : zs.length ≤ 1000) (P : Int → Prop) (hP : ∀ z ∈ zs, P z) :
    Calls Tryz.prog 18 #[.pointer (some ⟨b, 0, none⟩), .slice (some ⟨p, 0, none⟩) n cap] w (NumPost P b R w) := by
  subst hn
  refine pick_any w b R p zs.length cap zs hs hb h1 h2 (fun i hi => hB.cell ?_) P (fun i hi => ?_)
  · rw [List.getElem?_map, List.getD_eq_getElem?_getD, List.getElem?_eq_getElem hi]; rfl
  · rw [List.getD_eq_getElem?_getD, List.getElem?_eq_getElem hi]; exact hP _ (List.getElem_mem hi)

/-- What has been written so far, and the stream. -/
structure Rd (w0 : World) (b R : Nat) (v : Value) (xs : List Rp) (w : World) : Prop where
  str : Str w b R
  own : OwnE eRp 37 w0.heap.size w v xs
  base : w0.grownBy w (some b)
  U : ∀ x ∈ xs, x.U
  lt : b < w0.heap.size
/-- A new block p beside it. -/
structure Nb (w0 : World) (b : Nat) (v : Value) (p : Nat) (cs : List Value) (t : TypeId) (w : World) : Prop where
  blk : Blk w p cs t
  lo : w0.heap.size ≤ p
  ap : v.ownBlock ≠ some p
  lt : b < w0.heap.size

theorem gb_over {a x y : World} {r : Option Nat} {p : Nat} (h : a.grownBy x r) (hg : x.grownBy y (some p)) (hp : a.heap.size ≤ p) : a.grownBy y r :=
  ⟨hg.os.trans h.os, hg.tape.trans h.tape, hg.output.trans h.output, Nat.le_trans h.size hg.size, fun k hk hne => (hg.block k (Nat.lt_of_lt_of_le hk h.size) (by intro e; cases e; omega)).trans (h.block k hk hne)⟩
theorem gb_bel {a x y : World} {r : Option Nat} {B : Nat} (h : a.grownBy x r) (hb : Below B x y) (hB : a.heap.size ≤ B) : a.grownBy y r :=
  ⟨hb.os.trans h.os, hb.tape.trans h.tape, hb.output.trans h.output, Nat.le_trans h.size hb.size, fun k hk hne => (hb.block k (Nat.lt_of_lt_of_le hk hB)).trans (h.block k hk hne)⟩
theorem gb_cell1 (w : World) (p i : Nat) (x : Value) : w.grownBy (w.setCell ⟨p, i, none⟩ x) (some p) :=
  ⟨rfl, rfl, rfl, by simp, fun k _ hne => Below.heap_setCell _ _ _ _ (by intro e; exact hne (by rw [e]))⟩
theorem gb_cellsN {g : Nat} : ∀ (vs : List Value) (o : Nat) (w : World), w.grownBy (w.setCells g o vs) (some g)
  | [], _, w => gb_refl w _
  | v :: vs, o, w => by
    unfold World.setCells
    exact gb_trans (gb_cell1 w g o v) (gb_cellsN vs (o + 1) _)
theorem gb_row (w : World) (p : Nat) (cs : List Value) : w.grownBy (w.setRow p cs.toArray) (some p) :=
  ⟨rfl, rfl, rfl, by simp [World.setRow], fun k _ hne => setRow_other _ _ _ _ (by intro e; exact hne (by rw [e]))⟩
theorem blk_cellsN {p : Nat} {t : TypeId} : ∀ (vs : List Value) (o : Nat) (w : World) (xs : List Value), Blk w p xs t → Blk (w.setCells p o vs) p (setL xs o vs) t
  | [], _, _, _, h => h
  | v :: vs, o, w, xs, h => by
    unfold World.setCells setL
    exact blk_cellsN vs (o + 1) _ _ (h.set o v)

theorem Rd.alloc {w0 w : World} {b R : Nat} {v : Value} {xs : List Rp} (h : Rd w0 b R v xs w) (o : Obj) : Rd w0 b R v xs (w.alloc o) := ⟨h.str.alloc o, h.own.below ((Below.refl _ _).alloc (Nat.le_refl _) _), gb_alloc h.base o, h.U, h.lt⟩
theorem Rd.step {w0 w w' : World} {b R R' : Nat} {v : Value} {xs : List Rp} (h : Rd w0 b R v xs w) (hs : Str w' b R') (hg : w.grownBy w' (some b)) : Rd w0 b R' v xs w' :=
  ⟨hs, h.own.gb hg (by
    cases hv : v.ownBlock with
    | none => exact .inl rfl
    | some k => exact .inr (by intro e; cases e; have := (h.own.lt _ hv).1; have := h.lt; omega)), gb_trans h.base hg, h.U, h.lt⟩
theorem Rd.below {w0 w w' : World} {b R : Nat} {v : Value} {xs : List Rp} (h : Rd w0 b R v xs w) (hb : Below w.heap.size w w') : Rd w0 b R v xs w' := ⟨h.str.below hb, h.own.below hb, gb_below h.base hb, h.U, h.lt⟩
theorem Rd.le {w0 w : World} {b R R' : Nat} {v : Value} {xs : List Rp} (h : Rd w0 b R v xs w) (hR : R' ≤ R) : Rd w0 b R' v xs w := ⟨h.str.le hR, h.own, h.base, h.U, h.lt⟩
/-- Something is written into a new block. -/
theorem Rd.turn {w0 w w' : World} {b R : Nat} {v : Value} {xs : List Rp} {p : Nat} {cs : List Value} {t : TypeId} (h : Rd w0 b R v xs w) (n : Nb w0 b v p cs t w) (hg : w.grownBy w' (some p)) : Rd w0 b R v xs w' :=
  ⟨h.str.grown hg (by have := n.lt; have := n.lo; omega), h.own.gb hg (.inr n.ap), gb_over h.base hg n.lo, h.U, h.lt⟩
theorem Nb.new {w0 w : World} {b R : Nat} {v : Value} {xs : List Rp} (h : Rd w0 b R v xs w) (cs : List Value) (t : TypeId) : Nb w0 b v w.heap.size cs t (w.alloc (.cells cs.toArray t)) :=
  ⟨Blk.new w cs t, h.base.size, by intro e; have := (h.own.lt _ e).2; omega, h.lt⟩
theorem Nb.alloc {w0 w : World} {b : Nat} {v : Value} {p : Nat} {cs : List Value} {t : TypeId} (n : Nb w0 b v p cs t w) (o : Obj) : Nb w0 b v p cs t (w.alloc o) := ⟨n.blk.alloc o, n.lo, n.ap, n.lt⟩
theorem Nb.step {w0 w w' : World} {b : Nat} {v : Value} {p : Nat} {cs : List Value} {t : TypeId} (n : Nb w0 b v p cs t w) (hg : w.grownBy w' (some b)) : Nb w0 b v p cs t w' := ⟨n.blk.gb hg (by have := n.lo; have := n.lt; omega), n.lo, n.ap, n.lt⟩
theorem Nb.below {w0 w w' : World} {b : Nat} {v : Value} {p : Nat} {cs : List Value} {t : TypeId} (n : Nb w0 b v p cs t w) (hb : Below w.heap.size w w') : Nb w0 b v p cs t w' := ⟨n.blk.below hb, n.lo, n.ap, n.lt⟩
/-- Something is written into another new block. -/
theorem Nb.turn {w0 w w' : World} {b : Nat} {v : Value} {p q : Nat} {cs : List Value} {t : TypeId} (n : Nb w0 b v p cs t w) (hg : w.grownBy w' (some q)) (hne : p ≠ q) : Nb w0 b v p cs t w' :=
  ⟨gb_heapAt hg n.blk (by intro e; cases e; exact hne rfl), n.lo, n.ap, n.lt⟩
theorem Nb.set {w0 w : World} {b : Nat} {v : Value} {p : Nat} {cs : List Value} {t : TypeId} (n : Nb w0 b v p cs t w) (i : Nat) (x : Value) : Nb w0 b v p (cs.set i x) t (w.setCell ⟨p, i, none⟩ x) := ⟨n.blk.set i x, n.lo, n.ap, n.lt⟩
theorem Nb.setC {w0 w : World} {b : Nat} {v : Value} {p : Nat} {cs : List Value} {t : TypeId} (n : Nb w0 b v p cs t w) (o : Nat) (vs : List Value) : Nb w0 b v p (setL cs o vs) t (w.setCells p o vs) := ⟨blk_cellsN vs o w cs n.blk, n.lo, n.ap, n.lt⟩
/-- The list grows. -/
theorem Rd.app {w0 w w' : World} {b R : Nat} {v v' : Value} {xs ys : List Rp} (h : Rd w0 b R v xs w) (hU : ∀ y ∈ ys, y.U) (o : Obj) (hown : OwnE eRp 37 w0.heap.size w' v' (xs ++ ys)) (hg : (w.alloc o).grownBy w' v.ownBlock) : Rd w0 b R v' (xs ++ ys) w' := by
  have hne : ∀ k, k < w0.heap.size → some k ≠ v.ownBlock := fun k hk e => by have := (h.own.lt _ e.symm).1; omega
  have hsz := h.base.size
  have hlt := h.lt
  refine ⟨h.str.upto fun j hj => (hg.block j (by simp; omega) (hne j (by omega))).trans (Below.heap_alloc _ _ _ (by omega)), hown, ?_, ?_, h.lt⟩
  · have h2 := gb_alloc h.base o
    exact ⟨hg.os.trans h2.os, hg.tape.trans h2.tape, hg.output.trans h2.output, Nat.le_trans h2.size hg.size, fun k hk hn => (hg.block k (by have := h2.size; omega) (hne k hk)).trans (h2.block k hk hn)⟩
  · intro x hx
    rcases List.mem_append.1 hx with k | k
    · exact h.U x k
    · exact hU x k
theorem Nb.app {w0 w w' : World} {b : Nat} {v v' : Value} {p : Nat} {cs : List Value} {t : TypeId} (n : Nb w0 b v p cs t w) (o : Obj) (hg : (w.alloc o).grownBy w' v.ownBlock) (hv : v'.ownBlock = v.ownBlock ∨ v'.ownBlock = some (w.heap.size + 1)) : Nb w0 b v' p cs t w' := by
  have hp := n.blk.lt
  refine ⟨?_, n.lo, ?_, n.lt⟩
  · have := hg.block p (by simp; omega) (fun e => n.ap e.symm)
    exact this.trans ((Below.heap_alloc _ _ _ hp).trans n.blk)
  · intro e
    rcases hv with h | h
    · rw [h] at e; exact n.ap e
    · rw [h] at e
      simp at e
      omega
end Go.Proofs.YtilgjgdppfnefaaGreatDoor
namespace Go.Proofs.YtilgjgdppfnefaaGreatDoor
open Go.RowKit
set_option linter.unusedVariables false
set_option linter.unusedSimpArgs false

def cnt9 (l : Array Bool) : Nat := (if l.getD 2 true then 0 else 1) + (if l.getD 5 true then 0 else 1) + (if l.getD 7 true then 0 else 1) + (if l.getD 11 true then 0 else 1) + (if l.getD 14 true then 0 else 1)
theorem cnt9_other {l : Array Bool} {i : Nat} (h : i ≠ 2 ∧ i ≠ 5 ∧ i ≠ 7 ∧ i ≠ 11 ∧ i ≠ 14) : cnt9 (l.setIfInBounds i true) = cnt9 l := by
  obtain ⟨h1, h2, h3, h4, h5⟩ := h
  unfold cnt9
  rw [getD_set_ne true h1, getD_set_ne true h2, getD_set_ne true h3, getD_set_ne true h4, getD_set_ne true h5]
theorem getD_set_self {l : Array Bool} {i : Nat} : (l.setIfInBounds i true).getD i true = true := by
  by_cases h : i < l.size
  · simp [Array.getD, h]
  · simp [Array.getD, h]
theorem cnt9_one {l : Array Bool} {i : Nat} (h : i = 2 ∨ i = 5 ∨ i = 7 ∨ i = 11 ∨ i = 14) (hi : l.getD i true = false) : cnt9 (l.setIfInBounds i true) + 1 = cnt9 l := by
  rcases h with rfl | rfl | rfl | rfl | rfl
  all_goals
    unfold cnt9
    rw [getD_set_self, hi]
    simp only [getD_set_ne true (show (2 : Nat) ≠ 5 by decide), getD_set_ne true (show (2 : Nat) ≠ 7 by decide), getD_set_ne true (show (2 : Nat) ≠ 11 by decide), getD_set_ne true (show (2 : Nat) ≠ 14 by decide),
      getD_set_ne true (show (5 : Nat) ≠ 2 by decide), getD_set_ne true (show (5 : Nat) ≠ 7 by decide), getD_set_ne true (show (5 : Nat) ≠ 11 by decide), getD_set_ne true (show (5 : Nat) ≠ 14 by decide),
      getD_set_ne true (show (7 : Nat) ≠ 2 by decide), getD_set_ne true (show (7 : Nat) ≠ 5 by decide), getD_set_ne true (show (7 : Nat) ≠ 11 by decide), getD_set_ne true (show (7 : Nat) ≠ 14 by decide),
      getD_set_ne true (show (11 : Nat) ≠ 2 by decide), getD_set_ne true (show (11 : Nat) ≠ 5 by decide), getD_set_ne true (show (11 : Nat) ≠ 7 by decide), getD_set_ne true (show (11 : Nat) ≠ 14 by decide),
      getD_set_ne true (show (14 : Nat) ≠ 2 by decide), getD_set_ne true (show (14 : Nat) ≠ 5 by decide), getD_set_ne true (show (14 : Nat) ≠ 7 by decide), getD_set_ne true (show (14 : Nat) ≠ 11 by decide), if_true, Bool.false_eq_true, if_false] <;> omega

/-- A slice that was made of a literal. -/
def Lit (b : Nat) (vs : List Value) (t : TypeId) (v : Value) (u : World) : Prop := ∃ p, v = .slice (some ⟨p, 0, none⟩) vs.length vs.length ∧ b < p ∧ Blk u p vs t
theorem Lit.gb {b : Nat} {vs : List Value} {t : TypeId} {v : Value} {u u' : World} (h : Lit b vs t v u) (hg : u.grownBy u' (some b)) : Lit b vs t v u' := by
  obtain ⟨p, h1, h2, h3⟩ := h
  exact ⟨p, h1, h2, h3.gb hg h2⟩
def zRpC : List Value := [.string ⟨#[]⟩, .int .i64 0, .bool false, .int .i64 0, .bool false, .int .u64 0, .int .u64 0, .bool false, .int .u64 0, .int .u64 0, .int .i64 0, .int .i64 0, .int .i64 0, .int .i64 0]
abbrev L1 : List Value := [.string ⟨#[110, 97]⟩, .string ⟨#[110, 98]⟩, .string ⟨#[110, 99]⟩, .string ⟨#[110, 100]⟩]
/-- What each operation of region 9 gives. -/
def Phi9 (w0 : World) (b : Nat) (vo : Value) (pf : Nat) (x : Fl) (i : Nat) (v : Value) (u : World) : Prop :=
  match i with
  | 0 | 3 | 6 | 9 | 12 => v = .pointer (some ⟨b, 0, none⟩)
  | 1 => Lit b L1 9 v u
  | 4 => Lit b (([0, 0, 1, 1, 2, 5, 23, 24, 30, 50, 720] : List Int).map (Value.int .i64)) 3 v u
  | 10 => Lit b (([1, 2, 10, 100] : List Int).map (Value.int .i64)) 3 v u
  | 13 => Lit b (([0, 50, 100, 110, 1000, 1000000000, 1000000001] : List Int).map (Value.int .i64)) 3 v u
  | 2 => ∃ l : List UInt8, l.length ≤ 40 ∧ v = .string ⟨l.toArray⟩
  | 5 => ∃ z : Int, i60 z ∧ v = .int .i64 z
  | 7 => ∃ r : Bool, v = .bool r
  | 8 => v = flA x
  | 11 | 14 => ∃ z : Int, v = .int .i64 z
  | 15 => ∃ r : Rp, r.fl = x ∧ r.U ∧ v = rpA r
  | 16 => ∃ p, v = .pointer (some ⟨p, 0, none⟩) ∧ p ≠ pf ∧ Nb w0 b vo p zRpC 37 u
  | _ => True
theorem Phi9.gb {w0 : World} {b : Nat} {vo : Value} {pf : Nat} {x : Fl} (i : Nat) (v : Value) (u u' : World) (hg : u.grownBy u' (some b)) (h : Phi9 w0 b vo pf x i v u) : Phi9 w0 b vo pf x i v u' := by
  unfold Phi9 at *
  split at h <;> first | exact h | exact h.gb hg | (obtain ⟨p, h1, h2, h3⟩ := h; exact ⟨p, h1, h2, h3.step hg⟩)
structure J9 (w0 : World) (b R : Nat) (vo : Value) (xs : List Rp) (pf : Nat) (x : Fl) (l : Array Bool) (u : World) : Prop where
  rd : Rd w0 b (R + cnt9 l) vo xs u
  f : Nb w0 b vo pf (flC x) 35 u
end Go.Proofs.YtilgjgdppfnefaaGreatDoor
