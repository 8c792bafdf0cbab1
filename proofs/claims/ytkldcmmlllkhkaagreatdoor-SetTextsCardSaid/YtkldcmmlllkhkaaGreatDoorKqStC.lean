/- Slices of structs: how they lie in memory; rows of one's own. -/
import Derived.Test.YtkldcmmlllkhkaaGreatDoorRows
import Derived.WalkKit
import Derived.WalkSpells
import Derived.WalkLawsBesides
import Derived.Lib.Hide
import Derived.Deep.QuietTactic
import Derived.BigQuiet
import Derived.Deep.RegionWith
import Derived.OwnWalk
import Derived.Maps.AppendAt
import Derived.Laws.AppendOwnNone
import Derived.Deep.Onto
set_option linter.unusedVariables false
namespace Go.Proofs.YtkldcmmlllkhkaaGreatDoor
open Go.RowKit

def SomeInt (P : Int → Prop) (w : World) (e : Ending) (w' : World) : Prop := ∃ r : Int, P r ∧ e = .returned (.int .i64 r) ∧ w = w'

theorem tmod_lo (x n : Int) (h : 1 ≤ n) : -n < x.tmod n := by
  have := Int.natAbs_tmod x n
  have h3 : (x.tmod n).natAbs < n.natAbs := by
    rw [this]; exact Nat.mod_lt _ (by omega)
  omega
theorem tmod_hi (x n : Int) (h : 1 ≤ n) : x.tmod n < n := Int.tmod_lt_of_pos x (by omega)

set_option maxHeartbeats 400000 in
theorem below_any (x n : Int) (w : World) (h1 : 1 ≤ n) (h2 : n ≤ 4611686018427387904) :
    Calls Tryz.prog 67 #[.int .i64 x, .int .i64 n] w (SomeInt (fun r => 0 ≤ r ∧ r < n) w) := by
  have lo := tmod_lo x n h1
  have hi := tmod_hi x n h1
  go_enter Tryz.func67, Tryz.ntmps67
  go_wp2
  · go_ret
    exact ⟨_, ⟨by omega, by omega⟩, rfl, rfl⟩
  · go_ret
    exact ⟨_, ⟨by omega, by omega⟩, rfl, rfl⟩

def NextPost (P : Int → Prop) (w : World) (b k : Nat) (e : Ending) (w' : World) : Prop :=
  ∃ m, SomeInt P ((w.setCell ⟨b, 1, none⟩ (.int .i64 ((k : Int) + 1))).drewN m) e w'

set_option maxHeartbeats 400000 in
theorem next_some (n : Int) (w : World) (b xb off len cap k : Nat) (zs : List Int) (h1 : 1 ≤ n) (h2 : n ≤ 4611686018427387904)
    (hk : k ≤ 4611686018427387904) (hlen : 1 ≤ len) (_hle : len ≤ cap) (_hcap : cap ≤ maxLen) (hne : xb ≠ b)
    (hL : w.cell? ⟨b, 0, none⟩ = some (.slice (some ⟨xb, off, none⟩) len cap)) (hA : w.cell? ⟨b, 1, none⟩ = some (.int .i64 k)) (hF : w.frozen? ⟨b, 1, none⟩ = false)
    (hz : ∀ i, i < len → w.cell? ⟨xb, off + i, none⟩ = some (.int .i64 (zs.getD i 0))) :
    Calls Tryz.prog 35 #[.pointer (some ⟨b, 0, none⟩), .int .i64 n] w (NextPost (fun r => 0 ≤ r ∧ r < n) w b k) := by
  unfold maxLen at _hcap
  have hm : k % len < len := Nat.mod_lt _ (by omega)
  have hzz := hz (k % len) hm
  have hl0 : ((len : Int) == 0) = false := by simp; omega
  clear hz
  go_enter Tryz.func35, Tryz.ntmps35
  go_wp2_with fail
  go_quiet (fail)
  go_wp2_with fail
  go_quiet (fail)
  go_wp2_with fail
  refine (below_any _ _ _ (by omega) (by omega)).mono ?_
  rintro e w' ⟨r1, hr1, rfl, rfl⟩
  go_wp2_with fail
  refine (below_any _ _ _ (by omega) (by omega)).mono ?_
  rintro e w' ⟨r2, hr2, rfl, rfl⟩
  go_wp2_with fail
  go_ret
  exact ⟨_, _, hr2, rfl, rfl⟩

set_option maxHeartbeats 400000 in
theorem next_none (n : Int) (w : World) (b k : Nat) (h1 : 1 ≤ n) (h2 : n ≤ 4611686018427387904)
    (hk : k ≤ 4611686018427387904) (a : Option Addr) (cap : Nat)
    (hL : w.cell? ⟨b, 0, none⟩ = some (.slice a 0 cap)) (hA : w.cell? ⟨b, 1, none⟩ = some (.int .i64 k)) (hF : w.frozen? ⟨b, 1, none⟩ = false) :
    Calls Tryz.prog 35 #[.pointer (some ⟨b, 0, none⟩), .int .i64 n] w (NextPost (fun r => 0 ≤ r ∧ r < n) w b k) := by
  go_enter Tryz.func35, Tryz.ntmps35
  go_wp2_with fail
  refine (below_any _ _ _ (by omega) (by omega)).mono ?_
  rintro e w' ⟨r1, hr1, rfl, rfl⟩
  go_wp2_with fail
  go_ret
  exact ⟨0, _, hr1, rfl, rfl⟩

def Str (w : World) (b R : Nat) : Prop :=
  ∃ (a : Option Addr) (len cap k : Nat) (zs : List Int), k + R ≤ 4611686018427387904 ∧ w.heap[b]? = some (.cells #[.slice a len cap, .int .i64 k] 25 (0, 0)) ∧
    (len = 0 ∨ ∃ xb off, a = some ⟨xb, off, none⟩ ∧ xb < b ∧ len ≤ cap ∧ cap ≤ maxLen ∧ ∀ i, i < len → w.cell? ⟨xb, off + i, none⟩ = some (.int .i64 (zs.getD i 0)))

theorem Str.lt {w : World} {b R : Nat} (h : Str w b R) : b < w.heap.size := by
  obtain ⟨a, len, cap, k, zs, hk, hb, r⟩ := h
  exact (Array.getElem?_eq_some_iff.1 hb).1

theorem Str.le {w : World} {b R R' : Nat} (h : Str w b R) (hk : R' ≤ R) : Str w b R' := by
  obtain ⟨a, len, cap, k, zs, hk', r⟩ := h
  exact ⟨a, len, cap, k, zs, by omega, r⟩

theorem Str.upto {w w' : World} {b R : Nat} (h : Str w b R) (hb : ∀ j, j ≤ b → w'.heap[j]? = w.heap[j]?) : Str w' b R := by
  obtain ⟨a, len, cap, k, zs, hk, h1, h2⟩ := h
  refine ⟨a, len, cap, k, zs, hk, by rw [hb b (Nat.le_refl _)]; exact h1, ?_⟩
  rcases h2 with h2 | ⟨xb, off, ha, hlt, hl, hc, hz⟩
  · exact .inl h2
  · exact .inr ⟨xb, off, ha, hlt, hl, hc, fun i hi => by rw [World.cell?_of_block (w := w) (hb xb (by omega))]; exact hz i hi⟩

theorem Str.below {w w' : World} {b R : Nat} (h : Str w b R) (hb : Below w.heap.size w w') : Str w' b R :=
  have := h.lt
  h.upto fun j hj => hb.block j (by omega)

theorem Str.grown {w w' : World} {b R r : Nat} (h : Str w b R) (hg : w.grownBy w' (some r)) (hr : b < r) : Str w' b R :=
  have := h.lt
  h.upto fun j hj => hg.block j (by omega) (by intro e; cases e; omega)

theorem Str.alloc {w : World} {b R : Nat} (h : Str w b R) (o : Obj) : Str (w.alloc o) b R :=
  h.below (.alloc (.refl _ _) (Nat.le_refl _) _)

theorem Str.drewN {w : World} {b R m : Nat} (h : Str w b R) : Str (w.drewN m) b R := h.upto fun _ _ => rfl
theorem Str.drew {w : World} {b R : Nat} (h : Str w b R) : Str w.drew b R := h.upto fun _ _ => rfl
theorem Str.setCell {w : World} {b R : Nat} (h : Str w b R) {p : Addr} (hp : b < p.block) (v : Value) : Str (w.setCell p v) b R :=
  h.upto fun j hj => Below.heap_setCell _ _ _ _ (by omega)

def NumPost (P : Int → Prop) (b R : Nat) (w : World) (e : Ending) (w' : World) : Prop :=
  ∃ r : Int, P r ∧ e = .returned (.int .i64 r) ∧ Str w' b R ∧ w.grownBy w' (some b)

theorem gb_refl (w : World) (r : Option Nat) : w.grownBy w r := ⟨rfl, rfl, rfl, Nat.le_refl _, fun _ _ _ => rfl⟩
theorem gb_trans {a b c : World} {r : Option Nat} (h : a.grownBy b r) (k : b.grownBy c r) : a.grownBy c r :=
  ⟨k.os.trans h.os, k.tape.trans h.tape, k.output.trans h.output, Nat.le_trans h.size k.size, fun i hi hne => (k.block i (by have := h.size; omega) hne).trans (h.block i hi hne)⟩
theorem gb_alloc {a b : World} {r : Option Nat} (h : a.grownBy b r) (o : Obj) : a.grownBy (b.alloc o) r := gb_trans h (World.grownBy_alloc _ _ _)
theorem gb_drewN {a b : World} {r : Option Nat} {m : Nat} (h : a.grownBy b r) : a.grownBy (b.drewN m) r := ⟨h.os, h.tape, h.output, h.size, h.block⟩
theorem gb_drew {a b : World} {r : Option Nat} (h : a.grownBy b r) : a.grownBy b.drew r := ⟨h.os, h.tape, h.output, h.size, h.block⟩
theorem gb_below {a b c : World} {r : Option Nat} (h : a.grownBy b r) (k : Below b.heap.size b c) : a.grownBy c r :=
  ⟨k.os.trans h.os, k.tape.trans h.tape, k.output.trans h.output, Nat.le_trans h.size k.size, fun i hi hne => (k.block i (by have := h.size; omega)).trans (h.block i hi hne)⟩
theorem gb_setNew {a b : World} {r : Option Nat} (h : a.grownBy b r) {p : Addr} (hp : a.heap.size ≤ p.block) (v : Value) : a.grownBy (b.setCell p v) r :=
  ⟨h.os, h.tape, h.output, by simpa [World.setCell] using h.size, fun i hi hne => (Below.heap_setCell _ _ _ _ (by omega)).trans (h.block i hi hne)⟩
theorem gb_toBelow {a b : World} {r B : Nat} (h : a.grownBy b (some r)) (hB : B ≤ r) (hr : r ≤ a.heap.size) : Below B a b :=
  ⟨h.os, h.tape, h.output, h.size, fun k hk => h.block k (by omega) (by intro e; cases e; omega)⟩
theorem gb_heapAt {w w' : World} {row : Option Nat} (hg : w.grownBy w' row) {j : Nat} {o : Obj} (h : w.heap[j]? = some o) (hne : some j ≠ row) : w'.heap[j]? = some o :=
  (hg.block j (Array.getElem?_eq_some_iff.1 h).1 hne).trans h

theorem Str.of_next {w : World} {b : Nat} {a : Option Addr} {len cap k R m : Nat} {zs : List Int} (hk : k + (R + 1) ≤ 4611686018427387904) (hb : w.heap[b]? = some (.cells #[.slice a len cap, .int .i64 k] 25 (0, 0)))
    (h2 : len = 0 ∨ ∃ xb off, a = some ⟨xb, off, none⟩ ∧ xb < b ∧ len ≤ cap ∧ cap ≤ maxLen ∧ ∀ i, i < len → w.cell? ⟨xb, off + i, none⟩ = some (.int .i64 (zs.getD i 0))) :
    Str ((w.setCell ⟨b, 1, none⟩ (.int .i64 ((k : Int) + 1))).drewN m) b R ∧ w.grownBy ((w.setCell ⟨b, 1, none⟩ (.int .i64 ((k : Int) + 1))).drewN m) (some b) := by
  refine ⟨⟨a, len, cap, k + 1, zs, by omega, ?_, ?_⟩, ⟨rfl, rfl, rfl, by simp [World.setCell], fun i hi hne => ?_⟩⟩
  · simp [World.setCell, Array.getElem?_modify, hb, World.drewN]
  · rcases h2 with h2 | ⟨xb, off, ha, hlt, hl, hc, hz⟩
    · exact .inl h2
    · refine .inr ⟨xb, off, ha, hlt, hl, hc, fun i hi => ?_⟩
      have := World.cell?_of_block (w := w) (w' := (w.setCell ⟨b, 1, none⟩ (.int .i64 ((k : Int) + 1))).drewN m) (a := ⟨xb, off + i, none⟩) (Below.heap_setCell w ⟨b, 1, none⟩ _ xb (by simp; omega))
      rw [this]; exact hz i hi
  · exact Below.heap_setCell w ⟨b, 1, none⟩ _ i (by intro e; simp at e; exact hne (by rw [e]))

theorem next_any (n : Int) (w : World) (b R : Nat) (h1 : 1 ≤ n) (h2 : n ≤ 4611686018427387904) (hs : Str w b (R + 1)) :
    Calls Tryz.prog 35 #[.pointer (some ⟨b, 0, none⟩), .int .i64 n] w (NumPost (fun r => 0 ≤ r ∧ r < n) b R w) := by
  obtain ⟨a, len, cap, k, zs, hk, hb, r⟩ := hs
  have c0 : w.cell? ⟨b, 0, none⟩ = some (.slice a len cap) := by rw [cell_of_row w b 0 _ _ _ hb]; rfl
  have c1 : w.cell? ⟨b, 1, none⟩ = some (.int .i64 k) := by rw [cell_of_row w b 1 _ _ _ hb]; rfl
  have f1 : w.frozen? ⟨b, 1, none⟩ = false := frozen_of_row w b 1 _ _ hb
  rcases r with rfl | ⟨xb, off, rfl, hlt, hl, hc, hz⟩
  · refine (next_none n w b k h1 h2 (by omega) a cap c0 c1 f1).mono ?_
    rintro e w' ⟨m, r, hr, rfl, rfl⟩
    exact ⟨r, hr, rfl, Str.of_next (zs := zs) hk hb (.inl rfl)⟩
  · by_cases h0 : len = 0
    · subst h0
      refine (next_none n w b k h1 h2 (by omega) _ cap c0 c1 f1).mono ?_
      rintro e w' ⟨m, r, hr, rfl, rfl⟩
      exact ⟨r, hr, rfl, Str.of_next (zs := zs) hk hb (.inl rfl)⟩
    · refine (next_some n w b xb off len cap k zs h1 h2 (by omega) (by omega) hl hc (by omega) c0 c1 f1 hz).mono ?_
      rintro e w' ⟨m, r, hr, rfl, rfl⟩
      exact ⟨r, hr, rfl, Str.of_next (zs := zs) hk hb (.inr ⟨xb, off, rfl, hlt, hl, hc, hz⟩)⟩

theorem gb_rules {w w' : World} {b : Nat} (hg : w.grownBy w' (some b)) :
    (∀ j o, b < j → j < w.heap.size → w'.cell? ⟨j, o, none⟩ = w.cell? ⟨j, o, none⟩) ∧ (∀ j o, b < j → j < w.heap.size → w'.frozen? ⟨j, o, none⟩ = w.frozen? ⟨j, o, none⟩) ∧ w.heap.size ≤ w'.heap.size :=
  ⟨fun j o h1 h2 => World.cell?_of_block (w := w) (hg.block j h2 (by intro e; cases e; omega)), fun j o h1 h2 => World.frozen?_of_block (w := w) (hg.block j h2 (by intro e; cases e; omega)), hg.size⟩

def Blk (w : World) (p : Nat) (cs : List Value) (t : TypeId) : Prop := w.heap[p]? = some (.cells cs.toArray t (0, 0))
theorem Blk.new (w : World) (cs : List Value) (t : TypeId) : Blk (w.alloc (.cells cs.toArray t)) w.heap.size cs t := heap_alloc_new w _
theorem Blk.lt {w : World} {p : Nat} {cs : List Value} {t : TypeId} (h : Blk w p cs t) : p < w.heap.size := (Array.getElem?_eq_some_iff.1 h).1
theorem Blk.below {w w' : World} {p : Nat} {cs : List Value} {t : TypeId} (h : Blk w p cs t) (k : Below w.heap.size w w') : Blk w' p cs t := (k.block p h.lt).trans h
theorem Blk.alloc {w : World} {p : Nat} {cs : List Value} {t : TypeId} (h : Blk w p cs t) (o : Obj) : Blk (w.alloc o) p cs t := (Below.heap_alloc _ _ _ h.lt).trans h
theorem Blk.drew {w : World} {p : Nat} {cs : List Value} {t : TypeId} (h : Blk w p cs t) : Blk w.drew p cs t := h
theorem Blk.drewN {w : World} {p m : Nat} {cs : List Value} {t : TypeId} (h : Blk w p cs t) : Blk (w.drewN m) p cs t := h
theorem Blk.gb {w w' : World} {b p : Nat} {cs : List Value} {t : TypeId} (h : Blk w p cs t) (hg : w.grownBy w' (some b)) (hb : b < p) : Blk w' p cs t := gb_heapAt hg h (by intro e; cases e; omega)
theorem Blk.other {w : World} {p : Nat} {cs : List Value} {t : TypeId} (h : Blk w p cs t) {a : Addr} (ha : p ≠ a.block) (v : Value) : Blk (w.setCell a v) p cs t := (Below.heap_setCell _ _ _ _ ha).trans h
theorem Blk.set {w : World} {p : Nat} {cs : List Value} {t : TypeId} (h : Blk w p cs t) (i : Nat) (v : Value) : Blk (w.setCell ⟨p, i, none⟩ v) p (cs.set i v) t := by
  unfold Blk at *
  simp only [World.setCell, Array.getElem?_modify, if_pos, h, Option.map_some]
  simp
theorem Blk.cell {w : World} {p : Nat} {cs : List Value} {t : TypeId} (h : Blk w p cs t) {i : Nat} {v : Value} (hi : cs[i]? = some v) : w.cell? ⟨p, i, none⟩ = some v := by
  rw [cell_of_row w p i _ _ _ h]; simpa using hi
theorem Blk.free {w : World} {p : Nat} {cs : List Value} {t : TypeId} (h : Blk w p cs t) (i : Nat) : w.frozen? ⟨p, i, none⟩ = false := frozen_of_row w p i _ _ h
theorem Blk.three {w : World} {p : Nat} {x y z : Value} {t : TypeId} (h : Blk w p [x, y, z] t) :
    w.cell? ⟨p, 0, none⟩ = some x ∧ w.cell? ⟨p, 1, none⟩ = some y ∧ w.cell? ⟨p, 2, none⟩ = some z ∧ w.frozen? ⟨p, 0, none⟩ = false ∧ w.frozen? ⟨p, 1, none⟩ = false ∧ w.frozen? ⟨p, 2, none⟩ = false :=
  ⟨h.cell rfl, h.cell rfl, h.cell rfl, h.free _, h.free _, h.free _⟩
theorem Blk.four {w : World} {p : Nat} {x y z u : Value} {t : TypeId} (h : Blk w p [x, y, z, u] t) :
    w.cell? ⟨p, 0, none⟩ = some x ∧ w.cell? ⟨p, 1, none⟩ = some y ∧ w.cell? ⟨p, 2, none⟩ = some z ∧ w.cell? ⟨p, 3, none⟩ = some u ∧ w.frozen? ⟨p, 0, none⟩ = false ∧ w.frozen? ⟨p, 1, none⟩ = false ∧ w.frozen? ⟨p, 2, none⟩ = false ∧ w.frozen? ⟨p, 3, none⟩ = false :=
  ⟨h.cell rfl, h.cell rfl, h.cell rfl, h.cell rfl, h.free _, h.free _, h.free _, h.free _⟩
theorem Blk.at {w : World} {p : Nat} {zs : List Int} {k : IntKind} {t : TypeId} (h : Blk w p (zs.map (Value.int k)) t) (r : Int) (h1 : 0 ≤ r) (h2 : r < zs.length) :
    ∃ v, v ∈ zs ∧ w.cell? ⟨p, r.toNat, none⟩ = some (.int k v) := by
  have hi : r.toNat < zs.length := by omega
  exact ⟨zs[r.toNat], List.getElem_mem hi, h.cell (by simp [hi])⟩

set_option maxHeartbeats 400000 in
theorem range_any (lo hi : Int) (w : World) (b R : Nat) (h1 : lo ≤ hi) (h2 : -1152921504606846976 ≤ lo) (h3 : hi ≤ 1152921504606846976) (hs : Str w b (R + 1)) :
    Calls Tryz.prog 34 #[.pointer (some ⟨b, 0, none⟩), .int .i64 lo, .int .i64 hi] w (NumPost (fun r => lo ≤ r ∧ r ≤ hi) b R w) := by
  go_enter Tryz.func34, Tryz.ntmps34
  go_wp2_with fail
  refine (next_any _ _ _ _ (by omega) (by omega) hs).mono ?_
  rintro e w' ⟨r, ⟨hr1, hr2⟩, rfl, hs', hg⟩
  go_wp2_with fail
  go_ret
  exact ⟨_, ⟨by omega, by omega⟩, rfl, hs', hg⟩

def BoolPost (b R : Nat) (w : World) (e : Ending) (w' : World) : Prop :=
  ∃ r : Bool, e = .returned (.bool r) ∧ Str w' b R ∧ w.grownBy w' (some b)

set_option maxHeartbeats 400000 in
theorem flip_any (n : Int) (w : World) (b R : Nat) (h1 : 1 ≤ n) (h2 : n ≤ 4611686018427387904) (hs : Str w b (R + 1)) :
    Calls Tryz.prog 14 #[.pointer (some ⟨b, 0, none⟩), .int .i64 n] w (BoolPost b R w) := by
  go_enter Tryz.func14, Tryz.ntmps14
  go_wp2_with fail
  refine (next_any _ _ _ _ (by omega) (by omega) hs).mono ?_
  rintro e w' ⟨r, ⟨hr1, hr2⟩, rfl, hs', hg⟩
  go_wp2_with fail
  go_ret
  exact ⟨_, rfl, hs', hg⟩

set_option maxHeartbeats 400000 in
theorem pick_any (w : World) (b R p len cap : Nat) (zs : List Int) (hs : Str w b (R + 1)) (hb : b < p) (h1 : 1 ≤ len) (h2 : len ≤ 1000)
    (hz : ∀ i, i < len → w.cell? ⟨p, i, none⟩ = some (.int .i64 (zs.getD i 0))) (P : Int → Prop) (hP : ∀ i, i < len → P (zs.getD i 0)) :
    Calls Tryz.prog 24 #[.pointer (some ⟨b, 0, none⟩), .slice (some ⟨p, 0, none⟩) len cap] w (NumPost P b R w) := by
  go_enter Tryz.func24, Tryz.ntmps24
  go_wp2_with fail
  refine (next_any _ _ _ _ (by omega) (by omega) hs).mono ?_
  rintro e w' ⟨r, ⟨hr1, hr2⟩, rfl, hs', hg⟩
  obtain ⟨i, rfl⟩ := Int.eq_ofNat_of_zero_le hr1
  have hc := hg.cell (hz i (by omega)) (by intro e; simp at e; omega)
  have hPi := hP i (by omega)
  clear hz hP
  go_wp2_with fail
  go_ret
  exact ⟨_, hPi, rfl, hs', hg⟩


theorem cells_lit (w : World) (zs : List Int) (k : IntKind) (t : TypeId) (i : Nat) (hi : i < zs.length) :
    (w.alloc (.cells (zs.map (Value.int k)).toArray t)).cell? ⟨w.heap.size, i, none⟩ = some (.int k (zs.getD i 0)) := by
  rw [World.cell?_alloc_at _ _ _ _ rfl]
  simp [hi, List.getD_eq_getElem?_getD]

theorem pick_lit (w : World) (b R : Nat) (zs : List Int) (t : TypeId) (cap : Nat) (hs : Str w b (R + 1)) (h1 : 1 ≤ zs.length) (h2 : zs.length ≤ 1000)
    (P : Int → Prop) (hP : ∀ z ∈ zs, P z) :
    Calls Tryz.prog 24 #[.pointer (some ⟨b, 0, none⟩), .slice (some ⟨w.heap.size, 0, none⟩) zs.length cap] (w.alloc (.cells (zs.map (Value.int .i64)).toArray t))
      (NumPost P b R (w.alloc (.cells (zs.map (Value.int .i64)).toArray t))) :=
  pick_any _ b R w.heap.size zs.length cap zs (hs.alloc _) hs.lt h1 h2 (fun i hi => cells_lit w zs .i64 t i hi) P
    (fun i hi => hP _ (by rw [List.getD_eq_getElem?_getD, List.getElem?_eq_getElem hi]; exact List.getElem_mem hi))

set_option maxHeartbeats 400000 in
theorem odd_any (lo hi : Int) (w : World) (b R : Nat) (h1 : lo ≤ hi) (h2 : -1099511627776 ≤ lo) (h3 : hi ≤ 1099511627775) (hs : Str w b (R + 2)) :
    Calls Tryz.prog 38 #[.pointer (some ⟨b, 0, none⟩), .int .i64 lo, .int .i64 hi] w (NumPost (fun r => -1099511627777 ≤ r ∧ r ≤ 1099511627776) b R w) := by
  go_enter Tryz.func38, Tryz.ntmps38
  go_wp2_with fail
  refine (flip_any _ _ _ _ (by omega) (by omega) hs).mono ?_
  rintro e w1 ⟨r, rfl, hs1, hg1⟩
  cases r
  · go_wp2_with fail
    refine (range_any _ _ _ _ _ h1 (by omega) (by omega) hs1).mono ?_
    rintro e w2 ⟨r, ⟨hr1, hr2⟩, rfl, hs2, hg2⟩
    go_wp2_with fail
    go_ret
    exact ⟨_, ⟨by omega, by omega⟩, rfl, hs2, gb_trans hg1 hg2⟩
  · go_wp2_with fail
    refine (pick_lit w1 b _ [lo - 1, hi + 1, lo, hi, -1099511627776, 1099511627776] _ _ hs1 (by simp) (by simp) (fun r => -1099511627777 ≤ r ∧ r ≤ 1099511627776) (by simp; omega)).mono ?_
    rintro e w2 ⟨r, ⟨hr1, hr2⟩, rfl, hs2, hg2⟩
    go_wp2_with fail
    go_ret
    exact ⟨_, ⟨by omega, by omega⟩, rfl, hs2, gb_trans (gb_alloc hg1 _) hg2⟩

def U64 (x : Int) : Prop := 0 ≤ x ∧ x < 18446744073709551616
def RightA (s : Bool) (hi lo : Int) : Prop := U64 hi ∧ U64 lo ∧ (s = false → hi = 0 ∧ lo < 4294967296)

abbrev adV (s : Bool) (hi lo : Int) : Value := .agg #[.bool s, .int .u64 hi, .int .u64 lo]

def AdrPost (P : Bool → Int → Int → Prop) (b R : Nat) (w : World) (e : Ending) (w' : World) : Prop :=
  ∃ s hi lo, P s hi lo ∧ e = .returned (adV s hi lo) ∧ Str w' b R ∧ w.grownBy w' (some b)

theorem lit_at (zs : List Int) (k : IntKind) (r : Int) (h1 : 0 ≤ r) (h2 : r < zs.length) : ∃ v, v ∈ zs ∧ ∀ h : r.toNat < (zs.map (Value.int k)).length, (zs.map (Value.int k))[r.toNat]'h = .int k v := by
  have hi : r.toNat < zs.length := by omega
  exact ⟨zs[r.toNat], List.getElem_mem hi, by intro h; simp⟩

theorem lits_ok {v : Int} {zs : List Int} (h : v ∈ zs) (hz : zs.all (fun z => decide (0 ≤ z ∧ z < 18446744073709551616)) = true) : U64 v := by
  have := List.all_eq_true.1 hz v h
  simpa [U64] using this

structure Pre (w0 : World) (b R p : Nat) (x y z : Value) (t : TypeId) (w : World) : Prop where
  str : Str w b R
  blk : Blk w p [x, y, z] t
  base : w0.grownBy w (some b)
theorem Pre.alloc {w0 : World} {b R p : Nat} {x y z : Value} {t : TypeId} {w : World} (h : Pre w0 b R p x y z t w) (o : Obj) : Pre w0 b R p x y z t (w.alloc o) := ⟨h.str.alloc o, h.blk.alloc o, gb_alloc h.base o⟩
theorem Pre.drew {w0 : World} {b R p : Nat} {x y z : Value} {t : TypeId} {w : World} (h : Pre w0 b R p x y z t w) : Pre w0 b R p x y z t w.drew := ⟨h.str.drew, h.blk.drew, gb_drew h.base⟩
theorem Pre.start {w0 : World} {b R : Nat} (hs : Str w0 b R) (x y z : Value) (t : TypeId) : Pre w0 b R w0.heap.size x y z t (w0.alloc (.cells #[x, y, z] t)) := ⟨hs.alloc _, Blk.new w0 [x, y, z] t, World.grownBy_alloc _ _ _⟩
theorem Pre.fin3 {w0 : World} {b R p : Nat} {x y z : Value} {t : TypeId} {w : World} (h : Pre w0 b R p x y z t w) (hb : b < p) (hp : w0.heap.size ≤ p) (u v s : Value) :
    Str (((w.setCell ⟨p, 0, none⟩ u).setCell ⟨p, 1, none⟩ v).setCell ⟨p, 2, none⟩ s) b R ∧ w0.grownBy (((w.setCell ⟨p, 0, none⟩ u).setCell ⟨p, 1, none⟩ v).setCell ⟨p, 2, none⟩ s) (some b) :=
  ⟨((h.str.setCell (p := ⟨p, 0, none⟩) hb u).setCell (p := ⟨p, 1, none⟩) hb v).setCell (p := ⟨p, 2, none⟩) hb s, gb_setNew (p := ⟨p, 2, none⟩) (gb_setNew (p := ⟨p, 1, none⟩) (gb_setNew (p := ⟨p, 0, none⟩) h.base hp u) hp v) hp s⟩

def KeepPost (n : Int) (w0 : World) (b R p : Nat) (x y z : Value) (t : TypeId) (w : World) (e : Ending) (w' : World) : Prop :=
  ∃ r : Int, 0 ≤ r ∧ r < n ∧ e = .returned (.int .i64 r) ∧ Pre w0 b R p x y z t w' ∧ (∀ j o, b < j → j < w.heap.size → w'.cell? ⟨j, o, none⟩ = w.cell? ⟨j, o, none⟩) ∧ w.heap.size ≤ w'.heap.size ∧ w.grownBy w' (some b) ∧ b < w'.heap.size ∧ b ≤ w'.heap.size ∧
   (w'.cell? ⟨p, 0, none⟩ = some x ∧ w'.cell? ⟨p, 1, none⟩ = some y ∧ w'.cell? ⟨p, 2, none⟩ = some z ∧ w'.frozen? ⟨p, 0, none⟩ = false ∧ w'.frozen? ⟨p, 1, none⟩ = false ∧ w'.frozen? ⟨p, 2, none⟩ = false)

theorem next_keep (n : Int) (w w0 : World) (b R p : Nat) (x y z : Value) (t : TypeId) (h1 : 1 ≤ n) (h2 : n ≤ 4611686018427387904) (hbp : b < p) (hp : Pre w0 b (R + 1) p x y z t w) :
    Calls Tryz.prog 35 #[.pointer (some ⟨b, 0, none⟩), .int .i64 n] w (KeepPost n w0 b R p x y z t w) := by
  refine (next_any n w b R h1 h2 hp.str).mono ?_
  rintro e w' ⟨r, ⟨hr1, hr2⟩, rfl, hs, hg⟩
  obtain ⟨hc, _, hz⟩ := gb_rules hg
  have hb := hs.lt
  have hB := hp.blk.gb hg hbp
  exact ⟨r, hr1, hr2, rfl, ⟨hs, hB, gb_trans hp.base hg⟩, hc, hz, hg, hb, by omega, hB.three⟩


theorem below_two (w : World) (o o' : Obj) : Below w.heap.size w ((w.alloc o).alloc o') := ((Below.refl _ _).alloc (Nat.le_refl _) _).alloc (by simp) _
theorem gbB {u u' : World} {r : Option Nat} (h : Below u.heap.size u u') : u.grownBy u' r := gb_below (gb_refl u r) h
theorem gb2B {w u : World} (h : w.grownBy u none) : Below w.heap.size w u := ⟨h.os, h.tape, h.output, h.size, fun k hk => h.block k hk (by simp)⟩
theorem Blk.gn {w u : World} {p : Nat} {cs : List Value} {t : TypeId} (h : Blk w p cs t) (hg : w.grownBy u none) : Blk u p cs t := h.below (gb2B hg)
theorem blk2 (w : World) (xs ys : List Value) (t t' : TypeId) : Blk ((w.alloc (.cells xs.toArray t)).alloc (.cells ys.toArray t')) w.heap.size xs t ∧ Blk ((w.alloc (.cells xs.toArray t)).alloc (.cells ys.toArray t')) (w.heap.size + 1) ys t' := by
  refine ⟨(Blk.new w xs t).alloc _, ?_⟩
  have := Blk.new (w.alloc (.cells xs.toArray t)) ys t'
  simpa using this
theorem below_gb2 {w u : World} {o o' : Obj} (h : ((w.alloc o).alloc o').grownBy u none) : Below w.heap.size w u := (below_two w o o').trans ((gb2B h).mono (by simp; omega))

structure Enc (α : Type) where
  enc : α → List Value
  k : Nat
  pos : 0 < k
  len : ∀ x, (enc x).length = k
  one : ∀ x, ∀ v ∈ enc x, v.oneCell' = true

section
variable {α : Type} (E : Enc α)
def Enc.cells (xs : List α) : List Value := xs.flatMap E.enc
theorem Enc.cells_nil : E.cells [] = [] := rfl
theorem Enc.cells_cons (x : α) (xs : List α) : E.cells (x :: xs) = E.enc x ++ E.cells xs := rfl
theorem Enc.cells_app (xs ys : List α) : E.cells (xs ++ ys) = E.cells xs ++ E.cells ys := List.flatMap_append
theorem Enc.cells_single (x : α) : E.cells [x] = E.enc x := List.append_nil _
theorem Enc.cells_len : ∀ xs : List α, (E.cells xs).length = xs.length * E.k
  | [] => by rw [E.cells_nil]; simp
  | x :: r => by rw [E.cells_cons, List.length_append, Enc.cells_len r, E.len, List.length_cons, Nat.succ_mul, Nat.add_comm]
theorem Enc.cells_get : ∀ (xs : List α) (j : Nat) (x : α), xs[j]? = some x → ∀ (i : Nat) (v : Value), (E.enc x)[i]? = some v → (E.cells xs)[j * E.k + i]? = some v
  | [], j, x, h, _, _, _ => by simp at h
  | y :: r, 0, x, h, i, v, hv => by
    simp at h; subst h
    have hi := (List.getElem?_eq_some_iff.1 hv).1
    rw [E.cells_cons, Nat.zero_mul, Nat.zero_add, List.getElem?_append_left hi]; exact hv
  | y :: r, j + 1, x, h, i, v, hv => by
    have h' : r[j]? = some x := by simpa using h
    have ih := Enc.cells_get r j x h' i v hv
    rw [E.cells_cons, List.getElem?_append_right (by rw [E.len, Nat.succ_mul]; omega), E.len, Nat.succ_mul, show j * E.k + E.k + i - E.k = j * E.k + i by omega]
    exact ih
theorem Enc.cells_at : ∀ (xs : List α) (m : Nat) (u : Value), (E.cells xs)[m]? = some u → ∃ j x i, xs[j]? = some x ∧ m = j * E.k + i ∧ i < E.k ∧ (E.enc x)[i]? = some u
  | [], m, u, h => by rw [E.cells_nil] at h; simp at h
  | y :: r, m, u, h => by
    rw [E.cells_cons] at h
    by_cases hm : m < E.k
    · rw [List.getElem?_append_left (by rw [E.len]; exact hm)] at h
      exact ⟨0, y, m, rfl, by omega, hm, h⟩
    · rw [List.getElem?_append_right (by rw [E.len]; omega), E.len] at h
      obtain ⟨j, x, i, h1, h2, h3, h4⟩ := Enc.cells_at r _ u h
      exact ⟨j + 1, x, i, by simpa using h1, by rw [Nat.succ_mul]; omega, h3, h4⟩
theorem Enc.cells_one : ∀ (xs : List α), ∀ u ∈ E.cells xs, u.oneCell' = true
  | [], u, h => by rw [E.cells_nil] at h; cases h
  | x :: r, u, h => by
    rw [E.cells_cons] at h
    rcases List.mem_append.1 h with h | h
    · exact E.one x u h
    · exact Enc.cells_one r u h

def SlE (w : World) (A : Option Addr) (n cap : Nat) (xs : List α) : Prop :=
  n = xs.length ∧ n ≤ cap ∧ (A = none → cap = 0) ∧ (n = 0 ∨ ∃ g off, A = some ⟨g, off, none⟩ ∧ g < w.heap.size ∧ ∀ j x, xs[j]? = some x → ∀ i v, (E.enc x)[i]? = some v → w.cell? ⟨g, off + j * E.k + i, none⟩ = some v)
variable {E}
theorem SlE.keep {w w' : World} {A : Option Addr} {n cap : Nat} {xs : List α} (h : SlE E w A n cap xs) (hz : w.heap.size ≤ w'.heap.size) (hb : ∀ j, j < w.heap.size → w'.heap[j]? = w.heap[j]?) : SlE E w' A n cap xs := by
  obtain ⟨h1, h2, h3, h4⟩ := h
  refine ⟨h1, h2, h3, ?_⟩
  rcases h4 with h4 | ⟨g, off, hA, hg, hc⟩
  · exact .inl h4
  · refine .inr ⟨g, off, hA, by omega, fun j x hj i v hv => ?_⟩
    rw [World.cell?_of_block (w := w) (hb g hg)]
    exact hc j x hj i v hv
theorem SlE.below {w w' : World} {A : Option Addr} {n cap : Nat} {xs : List α} (h : SlE E w A n cap xs) (hb : Below w.heap.size w w') : SlE E w' A n cap xs := h.keep hb.size hb.block
theorem SlE.nil (w : World) : SlE E w none 0 0 [] := ⟨rfl, Nat.le_refl _, fun _ => rfl, .inl rfl⟩
theorem SlE.len {w : World} {A : Option Addr} {n cap : Nat} {xs : List α} (h : SlE E w A n cap xs) : n = xs.length := h.1
theorem SlE.at' {w : World} {A : Option Addr} {n cap : Nat} {xs : List α} (h : SlE E w A n cap xs) {k : Nat} (hk : k < n) :
    ∃ g off, A = some ⟨g, off, none⟩ ∧ g < w.heap.size ∧ ∀ j x, xs[j]? = some x → ∀ i v, (E.enc x)[i]? = some v → w.cell? ⟨g, off + j * E.k + i, none⟩ = some v := by
  rcases h.2.2.2 with h | h
  · omega
  · exact h
theorem SlE.cells {w : World} {a : Addr} {n cap : Nat} {xs : List α} (h : SlE E w (some a) n cap xs) : ∀ j u, (E.cells xs)[j]? = some u → w.cell? (a.add j) = some u := by
  intro m u hm
  obtain ⟨j, x, i, h1, h2, h3, h4⟩ := E.cells_at xs m u hm
  obtain ⟨_, _, _, h5⟩ := h
  have hj := (List.getElem?_eq_some_iff.1 h1).1
  rcases h5 with h5 | ⟨g, off, hA, _, hc⟩
  · omega
  · cases hA
    rw [Addr.add_lit, h2, ← Nat.add_assoc]
    exact hc j x h1 i u h4
theorem cell_row_at (w : World) (cs : List Value) (t : TypeId) (b : Nat) (hb : b = w.heap.size) : ∀ (j : Nat) (u : Value), cs[j]? = some u → (w.alloc (.cells cs.toArray t)).cell? ((⟨b, 0, none⟩ : Addr).add j) = some u := by
  subst hb
  intro j u hj
  rw [Addr.add_lit, World.cell?_alloc_at _ _ _ _ rfl]
  simpa using hj

def OwnE (E : Enc α) (t : TypeId) (B : Nat) (w : World) (v : Value) (xs : List α) : Prop := w.ownsRow B t E.k v xs.length (E.cells xs)
variable {t : TypeId}
theorem OwnE.nil (B : Nat) (w : World) : OwnE E t B w (.slice none 0 0) [] := World.ownsRow_nil _ _ _ _
theorem OwnE.mono {B B' : Nat} {w : World} {v : Value} {xs : List α} (h : OwnE E t B' w v xs) (hb : B ≤ B') : OwnE E t B w v xs := World.ownsRow.mono h hb
theorem OwnE.gb {B : Nat} {w w' : World} {v : Value} {xs : List α} {r : Option Nat} (h : OwnE E t B w v xs) (hg : w.grownBy w' r) (hr : v.ownBlock = none ∨ v.ownBlock ≠ r) : OwnE E t B w' v xs := World.ownsRow.kept h hg hr
theorem OwnE.below {B : Nat} {w w' : World} {v : Value} {xs : List α} (h : OwnE E t B w v xs) (hb : Below w.heap.size w w') : OwnE E t B w' v xs :=
  h.gb (gbB (r := none) hb) (by
    cases hv : v.ownBlock with
    | none => exact .inl rfl
    | some k => exact .inr (by intro e; cases e))
theorem OwnE.lt {B : Nat} {w : World} {v : Value} {xs : List α} (h : OwnE E t B w v xs) : ∀ k, v.ownBlock = some k → B ≤ k ∧ k < w.heap.size := World.ownsRow.lt h
theorem OwnE.sl {B : Nat} {w : World} {v : Value} {xs : List α} (h : OwnE E t B w v xs) : ∃ A cap, v = .slice A xs.length cap ∧ SlE E w A xs.length cap xs := by
  have h0 := h
  rcases h.2 with ⟨rfl, h1⟩ | ⟨g, cap, cur, rfl, hg, hh, hle, _⟩
  · exact ⟨none, 0, by rw [h1], rfl, by omega, fun _ => rfl, .inl h1⟩
  · refine ⟨_, cap, rfl, rfl, hle, (fun e => by cases e), .inr ⟨g, 0, rfl, (Array.getElem?_eq_some_iff.1 hh).1, fun j x hj i v hv => ?_⟩⟩
    have := World.ownsRow.cells h0 (g := g) rfl _ _ (E.cells_get xs j x hj i v hv)
    rw [Addr.add_lit] at this
    rw [Nat.zero_add]
    simpa using this
theorem OwnE.form {B : Nat} {w : World} {v : Value} {xs : List α} (h : OwnE E t B w v xs) (hx : xs ≠ []) :
    ∃ g cap, v = .slice (some ⟨g, 0, none⟩) xs.length cap ∧ B ≤ g ∧ g < w.heap.size ∧ xs.length ≤ cap ∧ (∀ j x, xs[j]? = some x → ∀ i u, (E.enc x)[i]? = some u → w.cell? ⟨g, j * E.k + i, none⟩ = some u) ∧ (∀ j, w.frozen? ⟨g, j, none⟩ = false) := by
  have h0 := h
  rcases h.2 with ⟨rfl, h1⟩ | ⟨g, cap, cur, rfl, hg, hh, hle, _⟩
  · exact absurd (List.eq_nil_of_length_eq_zero h1) hx
  · refine ⟨g, cap, rfl, hg, (Array.getElem?_eq_some_iff.1 hh).1, hle, fun j x hj i u hu => ?_, fun j => frozen_of_row w g j _ _ hh⟩
    have := World.ownsRow.cells h0 (g := g) rfl _ _ (E.cells_get xs j x hj i u hu)
    rw [Addr.add_lit] at this
    simpa using this
theorem own_setV {w : World} {B : Nat} {e : TypeId} {size n cap g : Nat} {xs : List Value} (h : w.ownsRow B e size (.slice (some ⟨g, 0, none⟩) n cap) n xs) (i : Nat) (u : Value) :
    (w.setCell ⟨g, i, none⟩ u).ownsRow B e size (.slice (some ⟨g, 0, none⟩) n cap) n (xs.set i u) := by
  obtain ⟨h1, h2⟩ := h
  refine ⟨by rw [List.length_set]; exact h1, ?_⟩
  rcases h2 with ⟨hv, _⟩ | ⟨g', cap', cur, hv, hg, hh, hle, hmx, hsz, ht⟩
  · cases hv
  · cases hv
    refine .inr ⟨g, cap, cur.set! i u, rfl, hg, ?_, hle, hmx, by simpa using hsz, ?_⟩
    · simp only [World.setCell, Array.getElem?_modify, if_pos, hh, Option.map_some]
      simp
    · rw [← ht]
      simp only [Array.set!_eq_setIfInBounds, Array.toList_setIfInBounds]
      rw [List.take_set]
structure Ty (E : Enc α) (t st : TypeId) (z : Value) (bytes : Nat) : Prop where
  sl : Tryz.prog.underlying st = some (.slice t)
  info : (Tryz.prog.info? t).map (fun i => (i.zero, i.size, i.bytes)) = some (some z, E.k, bytes)
  zs : z.cells.size = E.k
  small : bytes ≤ 1000

theorem run_app {st : TypeId} {z : Value} {bytes : Nat} (T : Ty E t st z bytes) (ty : TypeId) {w : World} (B : Nat) (v : Value) (xs ys : List α) (hown : OwnE E t B w v xs)
    (ad : Addr) (m c : Nat) (hm : m = ys.length) (hnews : ∀ j u, (E.cells ys)[j]? = some u → w.cell? (ad.add j) = some u) (hn : xs.length + ys.length ≤ 1000000) (hbase : B ≤ w.heap.size) :
    ∃ v' w', (Builtin.append_ #[st, st] ty #[v, .slice (some ad) m c]).run Tryz.prog w = .ok v' w' ∧ OwnE E t B w' v' (xs ++ ys) ∧ w.grownBy w' v.ownBlock ∧ (v'.ownBlock = v.ownBlock ∨ v'.ownBlock = some w.heap.size) := by
  obtain ⟨i0, hi0, hz0, hz1, hz2⟩ := info_parts T.info
  subst hm
  have hb1 : (xs.length + ys.length) * bytes ≤ 1000000 * 1000 := Nat.mul_le_mul hn T.small
  obtain ⟨v', w', hr, h2, h3, _, h5⟩ := run_append_own_at (P := Tryz.prog) w B st ty t i0 z E.k bytes T.sl hi0 hz0 hz1 hz2 T.zs E.pos v xs.length (E.cells xs) hown ad ys.length c (E.cells ys) (E.cells_len ys) hnews (E.cells_one ys) (by unfold maxLen; omega) (by omega) hbase
  refine ⟨v', w', hr, ?_, h3, h5⟩
  unfold OwnE
  rw [List.length_append, E.cells_app]
  exact h2
theorem wp_app {st : TypeId} {z : Value} {bytes : Nat} (T : Ty E t st z bytes) {w : World} {o : Oper} {a : Act} {K : Act → World → Prop} {Q : Exit → Act → World → Prop} (s x : Operand)
    (ho : o.op = .call { callee := .builtin .append, args := #[s, x], argTypes := #[st, st] })
    (B : Nat) (v : Value) (xs ys : List α) (hs : a.eval s = v) (hown : OwnE E t B w v xs)
    (ad : Addr) (m c : Nat) (hx : a.eval x = .slice (some ad) m c) (hm : m = ys.length) (hnews : ∀ j u, (E.cells ys)[j]? = some u → w.cell? (ad.add j) = some u) (hn : xs.length + ys.length ≤ 1000000) (hbase : B ≤ w.heap.size)
    (h : ∀ v' w', OwnE E t B w' v' (xs ++ ys) → w.grownBy w' v.ownBlock → (v'.ownBlock = v.ownBlock ∨ v'.ownBlock = some w.heap.size) → K (a.put o.dst v') w') : Oper.wp Tryz.prog o a w K Q := by
  obtain ⟨v', w', hr, h2, h3, h4⟩ := run_app T o.type B v xs ys hown ad m c hm hnews hn hbase
  unfold Oper.wp execOp
  simp only [ho, resolve, invoke, builtin, Sem.run_bind, Sem.run_pure, Result.andThen_ok, List.map_toArray, List.map_cons, List.map_nil, hs, hx, hr]
  exact h v' w' h2 h3 h4
theorem wpList_app {st : TypeId} {z : Value} {bytes : Nat} (T : Ty E t st z bytes) {w : World} {ops : Array Oper} {rest : List Oper} {o : Oper} {a : Act} {Q : Exit → Act → World → Prop} (hgd : o.guard = none) (s x : Operand)
    (ho : o.op = .call { callee := .builtin .append, args := #[s, x], argTypes := #[st, st] })
    (B : Nat) (v : Value) (xs ys : List α) (hs : a.eval s = v) (hown : OwnE E t B w v xs)
    (ad : Addr) (m c : Nat) (hx : a.eval x = .slice (some ad) m c) (hm : m = ys.length) (hnews : ∀ j u, (E.cells ys)[j]? = some u → w.cell? (ad.add j) = some u) (hn : xs.length + ys.length ≤ 1000000) (hbase : B ≤ w.heap.size)
    (h : ∀ v' w', OwnE E t B w' v' (xs ++ ys) → w.grownBy w' v.ownBlock → (v'.ownBlock = v.ownBlock ∨ v'.ownBlock = some w.heap.size) → wpList Tryz.prog ops Q rest (a.put o.dst v') w') : wpList Tryz.prog ops Q (o :: rest) a w :=
  wpList_plain hgd fun _ hK => wp_app T s x ho B v xs ys hs hown ad m c hx hm hnews hn hbase fun v' w' h1 h2 h3 => hK _ _ (h v' w' h1 h2 h3)
end
end Go.Proofs.YtkldcmmlllkhkaaGreatDoor
