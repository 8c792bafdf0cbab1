/- What a stream makes: odd numbers, addresses. -/
import Derived.Test.YtfpcalgkfagjkaaGreatDoorRows
import Derived.WalkKit
import Derived.WalkSpells
import Derived.WalkLawsBesides
import Derived.Lib.Hide
import Derived.Deep.QuietTactic
import Derived.BigQuiet
import Derived.Deep.RegionWith
namespace Go.Proofs.YtfpcalgkfagjkaaGreatDoor
open Go.RowKit

def SomeInt (P : Int → Prop) (w : World) (e : Ending) (w' : World) : Prop := ∃ r : Int, P r ∧ e = .returned (.int .i64 r) ∧ w = w'

theorem tmod_lo (x n : Int) (h : 1 ≤ n) : -n < x.tmod n := by
  have := Int.natAbs_tmod x n
  have h3 : (x.tmod n).natAbs < n.natAbs := by
    rw [this]; exact Nat.mod_lt _ (by omega)
  omega
theorem tmod_hi (x n : Int) (h : 1 ≤ n) : x.tmod n < n := Int.tmod_lt_of_pos x (by omega)

set_option maxHeartbeats 400000 in
theorem below_any (x n : Int) (w : World) (h1 : 1 ≤ n) (h2 : n ≤ 4611686018427387904) :
    Calls Tryz.prog 25 #[.int .i64 x, .int .i64 n] w (SomeInt (fun r => 0 ≤ r ∧ r < n) w) := by
  have lo := tmod_lo x n h1
  have hi := tmod_hi x n h1
  go_enter Tryz.func25, Tryz.ntmps25
  go_wp2
  · go_ret
    exact ⟨_, ⟨by omega, by omega⟩, rfl, rfl⟩
  · go_ret
    exact ⟨_, ⟨by omega, by omega⟩, rfl, rfl⟩

def NextPost (P : Int → Prop) (w : World) (b k : Nat) (e : Ending) (w' : World) : Prop :=
  ∃ m, SomeInt P ((w.setCell ⟨b, 1, none⟩ (.int .i64 ((k : Int) + 1))).drewN m) e w'

set_option maxHeartbeats 400000 in
theorem next_some (n : Int) (w : World) (b xb off len cap k : Nat) (zs : List Int) (h1 : 1 ≤ n) (h2 : n ≤ 4611686018427387904)
    (hk : k ≤ 4611686018427387904) (hlen : 1 ≤ len) (_hle : len ≤ cap) (_hcap : cap ≤ maxLen) (hne : xb ≠ b)
    (hL : w.cell? ⟨b, 0, none⟩ = some (.slice (some ⟨xb, off, none⟩) len cap)) (hA : w.cell? ⟨b, 1, none⟩ = some (.int .i64 k)) (hF : w.frozen? ⟨b, 1, none⟩ = false)
    (hz : ∀ i, i < len → w.cell? ⟨xb, off + i, none⟩ = some (.int .i64 (zs.getD i 0))) :
    Calls Tryz.prog 9 #[.pointer (some ⟨b, 0, none⟩), .int .i64 n] w (NextPost (fun r => 0 ≤ r ∧ r < n) w b k) := by
  unfold maxLen at _hcap
  have hm : k % len < len := Nat.mod_lt _ (by omega)
  have hzz := hz (k % len) hm
  have hl0 : ((len : Int) == 0) = false := by simp; omega
  clear hz
  go_enter Tryz.func9, Tryz.ntmps9
  go_wp2_with fail
  go_quiet (fail)
  go_wp2_with fail
  go_quiet (fail)
  go_wp2_with fail
  refine (below_any _ _ _ (by omega) (by omega)).mono ?_
  rintro e w' ⟨r1, hr1, rfl, rfl⟩
  go_wp2_with fail
  refine (below_any _ _ _ (by omega) (by omega)).mono ?_
  rintro e w' ⟨r2, hr2, rfl, rfl⟩
  go_wp2_with fail
  go_ret
  exact ⟨_, _, hr2, rfl, rfl⟩

set_option maxHeartbeats 400000 in
theorem next_none (n : Int) (w : World) (b k : Nat) (h1 : 1 ≤ n) (h2 : n ≤ 4611686018427387904)
    (hk : k ≤ 4611686018427387904) (a : Option Addr) (cap : Nat)
    (hL : w.cell? ⟨b, 0, none⟩ = some (.slice a 0 cap)) (hA : w.cell? ⟨b, 1, none⟩ = some (.int .i64 k)) (hF : w.frozen? ⟨b, 1, none⟩ = false) :
    Calls Tryz.prog 9 #[.pointer (some ⟨b, 0, none⟩), .int .i64 n] w (NextPost (fun r => 0 ≤ r ∧ r < n) w b k) := by
  go_enter Tryz.func9, Tryz.ntmps9
  go_wp2_with fail
  refine (below_any _ _ _ (by omega) (by omega)).mono ?_
  rintro e w' ⟨r1, hr1, rfl, rfl⟩
  go_wp2_with fail
  go_ret
  exact ⟨0, _, hr1, rfl, rfl⟩

def Str (w : World) (b R : Nat) : Prop :=
  ∃ (a : Option Addr) (len cap k : Nat) (zs : List Int), k + R ≤ 4611686018427387904 ∧ w.heap[b]? = some (.cells #[.slice a len cap, .int .i64 k] 25 (0, 0)) ∧
    (len = 0 ∨ ∃ xb off, a = some ⟨xb, off, none⟩ ∧ xb < b ∧ len ≤ cap ∧ cap ≤ maxLen ∧ ∀ i, i < len → w.cell? ⟨xb, off + i, none⟩ = some (.int .i64 (zs.getD i 0)))

theorem Str.lt {w : World} {b R : Nat} (h : Str w b R) : b < w.heap.size := by
  obtain ⟨a, len, cap, k, zs, hk, hb, r⟩ := h
  exact (Array.getElem?_eq_some_iff.1 hb).1

theorem Str.le {w : World} {b R R' : Nat} (h : Str w b R) (hk : R' ≤ R) : Str w b R' := by
  obtain ⟨a, len, cap, k, zs, hk', r⟩ := h
  exact ⟨a, len, cap, k, zs, by omega, r⟩

theorem Str.upto {w w' : World} {b R : Nat} (h : Str w b R) (hb : ∀ j, j ≤ b → w'.heap[j]? = w.heap[j]?) : Str w' b R := by
  obtain ⟨a, len, cap, k, zs, hk, h1, h2⟩ := h
  refine ⟨a, len, cap, k, zs, hk, by rw [hb b (Nat.le_refl _)]; exact h1, ?_⟩
  rcases h2 with h2 | ⟨xb, off, ha, hlt, hl, hc, hz⟩
  · exact .inl h2
  · exact .inr ⟨xb, off, ha, hlt, hl, hc, fun i hi => by rw [World.cell?_of_block (w := w) (hb xb (by omega))]; exact hz i hi⟩

theorem Str.below {w w' : World} {b R : Nat} (h : Str w b R) (hb : Below w.heap.size w w') : Str w' b R :=
  have := h.lt
  h.upto fun j hj => hb.block j (by omega)

theorem Str.grown {w w' : World} {b R r : Nat} (h : Str w b R) (hg : w.grownBy w' (some r)) (hr : b < r) : Str w' b R :=
  have := h.lt
  h.upto fun j hj => hg.block j (by omega) (by intro e; cases e; omega)

theorem Str.alloc {w : World} {b R : Nat} (h : Str w b R) (o : Obj) : Str (w.alloc o) b R :=
  h.below (.alloc (.refl _ _) (Nat.le_refl _) _)

theorem Str.drewN {w : World} {b R m : Nat} (h : Str w b R) : Str (w.drewN m) b R := h.upto fun _ _ => rfl
theorem Str.drew {w : World} {b R : Nat} (h : Str w b R) : Str w.drew b R := h.upto fun _ _ => rfl
theorem Str.setCell {w : World} {b R : Nat} (h : Str w b R) {p : Addr} (hp : b < p.block) (v : Value) : Str (w.setCell p v) b R :=
  h.upto fun j hj => Below.heap_setCell _ _ _ _ (by omega)

def NumPost (P : Int → Prop) (b R : Nat) (w : World) (e : Ending) (w' : World) : Prop :=
  ∃ r : Int, P r ∧ e = .returned (.int .i64 r) ∧ Str w' b R ∧ w.grownBy w' (some b)

theorem gb_refl (w : World) (r : Option Nat) : w.grownBy w r := ⟨rfl, rfl, rfl, Nat.le_refl _, fun _ _ _ => rfl⟩
theorem gb_trans {a b c : World} {r : Option Nat} (h : a.grownBy b r) (k : b.grownBy c r) : a.grownBy c r :=
  ⟨k.os.trans h.os, k.tape.trans h.tape, k.output.trans h.output, Nat.le_trans h.size k.size, fun i hi hne => (k.block i (by have := h.size; omega) hne).trans (h.block i hi hne)⟩
theorem gb_alloc {a b : World} {r : Option Nat} (h : a.grownBy b r) (o : Obj) : a.grownBy (b.alloc o) r := gb_trans h (World.grownBy_alloc _ _ _)
theorem gb_drewN {a b : World} {r : Option Nat} {m : Nat} (h : a.grownBy b r) : a.grownBy (b.drewN m) r := ⟨h.os, h.tape, h.output, h.size, h.block⟩
theorem gb_drew {a b : World} {r : Option Nat} (h : a.grownBy b r) : a.grownBy b.drew r := ⟨h.os, h.tape, h.output, h.size, h.block⟩
theorem gb_below {a b c : World} {r : Option Nat} (h : a.grownBy b r) (k : Below b.heap.size b c) : a.grownBy c r :=
  ⟨k.os.trans h.os, k.tape.trans h.tape, k.output.trans h.output, Nat.le_trans h.size k.size, fun i hi hne => (k.block i (by have := h.size; omega)).trans (h.block i hi hne)⟩
theorem gb_setNew {a b : World} {r : Option Nat} (h : a.grownBy b r) {p : Addr} (hp : a.heap.size ≤ p.block) (v : Value) : a.grownBy (b.setCell p v) r :=
  ⟨h.os, h.tape, h.output, by simpa [World.setCell] using h.size, fun i hi hne => (Below.heap_setCell _ _ _ _ (by omega)).trans (h.block i hi hne)⟩
theorem gb_toBelow {a b : World} {r B : Nat} (h : a.grownBy b (some r)) (hB : B ≤ r) (hr : r ≤ a.heap.size) : Below B a b :=
  ⟨h.os, h.tape, h.output, h.size, fun k hk => h.block k (by omega) (by intro e; cases e; omega)⟩
theorem gb_heapAt {w w' : World} {row : Option Nat} (hg : w.grownBy w' row) {j : Nat} {o : Obj} (h : w.heap[j]? = some o) (hne : some j ≠ row) : w'.heap[j]? = some o :=
  (hg.block j (Array.getElem?_eq_some_iff.1 h).1 hne).trans h

theorem Str.of_next {w : World} {b : Nat} {a : Option Addr} {len cap k R m : Nat} {zs : List Int} (hk : k + (R + 1) ≤ 4611686018427387904) (hb : w.heap[b]? = some (.cells #[.slice a len cap, .int .i64 k] 25 (0, 0)))
    (h2 : len = 0 ∨ ∃ xb off, a = some ⟨xb, off, none⟩ ∧ xb < b ∧ len ≤ cap ∧ cap ≤ maxLen ∧ ∀ i, i < len → w.cell? ⟨xb, off + i, none⟩ = some (.int .i64 (zs.getD i 0))) :
    Str ((w.setCell ⟨b, 1, none⟩ (.int .i64 ((k : Int) + 1))).drewN m) b R ∧ w.grownBy ((w.setCell ⟨b, 1, none⟩ (.int .i64 ((k : Int) + 1))).drewN m) (some b) := by
  refine ⟨⟨a, len, cap, k + 1, zs, by omega, ?_, ?_⟩, ⟨rfl, rfl, rfl, by simp [World.setCell], fun i hi hne => ?_⟩⟩
  · simp [World.setCell, Array.getElem?_modify, hb, World.drewN]
  · rcases h2 with h2 | ⟨xb, off, ha, hlt, hl, hc, hz⟩
    · exact .inl h2
    · refine .inr ⟨xb, off, ha, hlt, hl, hc, fun i hi => ?_⟩
      have := World.cell?_of_block (w := w) (w' := (w.setCell ⟨b, 1, none⟩ (.int .i64 ((k : Int) + 1))).drewN m) (a := ⟨xb, off + i, none⟩) (Below.heap_setCell w ⟨b, 1, none⟩ _ xb (by simp; omega))
      rw [this]; exact hz i hi
  · exact Below.heap_setCell w ⟨b, 1, none⟩ _ i (by intro e; simp at e; exact hne (by rw [e]))

theorem next_any (n : Int) (w : World) (b R : Nat) (h1 : 1 ≤ n) (h2 : n ≤ 4611686018427387904) (hs : Str w b (R + 1)) :
    Calls Tryz.prog 9 #[.pointer (some ⟨b, 0, none⟩), .int .i64 n] w (NumPost (fun r => 0 ≤ r ∧ r < n) b R w) := by
  obtain ⟨a, len, cap, k, zs, hk, hb, r⟩ := hs
  have c0 : w.cell? ⟨b, 0, none⟩ = some (.slice a len cap) := by rw [cell_of_row w b 0 _ _ _ hb]; rfl
  have c1 : w.cell? ⟨b, 1, none⟩ = some (.int .i64 k) := by rw [cell_of_row w b 1 _ _ _ hb]; rfl
  have f1 : w.frozen? ⟨b, 1, none⟩ = false := frozen_of_row w b 1 _ _ hb
  rcases r with rfl | ⟨xb, off, rfl, hlt, hl, hc, hz⟩
  · refine (next_none n w b k h1 h2 (by omega) a cap c0 c1 f1).mono ?_
    rintro e w' ⟨m, r, hr, rfl, rfl⟩
    exact ⟨r, hr, rfl, Str.of_next (zs := zs) hk hb (.inl rfl)⟩
  · by_cases h0 : len = 0
    · subst h0
      refine (next_none n w b k h1 h2 (by omega) _ cap c0 c1 f1).mono ?_
      rintro e w' ⟨m, r, hr, rfl, rfl⟩
      exact ⟨r, hr, rfl, Str.of_next (zs := zs) hk hb (.inl rfl)⟩
    · refine (next_some n w b xb off len cap k zs h1 h2 (by omega) (by omega) hl hc (by omega) c0 c1 f1 hz).mono ?_
      rintro e w' ⟨m, r, hr, rfl, rfl⟩
      exact ⟨r, hr, rfl, Str.of_next (zs := zs) hk hb (.inr ⟨xb, off, rfl, hlt, hl, hc, hz⟩)⟩

theorem gb_rules {w w' : World} {b : Nat} (hg : w.grownBy w' (some b)) :
    (∀ j o, b < j → j < w.heap.size → w'.cell? ⟨j, o, none⟩ = w.cell? ⟨j, o, none⟩) ∧ (∀ j o, b < j → j < w.heap.size → w'.frozen? ⟨j, o, none⟩ = w.frozen? ⟨j, o, none⟩) ∧ w.heap.size ≤ w'.heap.size :=
  ⟨fun j o h1 h2 => World.cell?_of_block (w := w) (hg.block j h2 (by intro e; cases e; omega)), fun j o h1 h2 => World.frozen?_of_block (w := w) (hg.block j h2 (by intro e; cases e; omega)), hg.size⟩

def Blk (w : World) (p : Nat) (cs : List Value) (t : TypeId) : Prop := w.heap[p]? = some (.cells cs.toArray t (0, 0))
theorem Blk.new (w : World) (cs : List Value) (t : TypeId) : Blk (w.alloc (.cells cs.toArray t)) w.heap.size cs t := heap_alloc_new w _
theorem Blk.lt {w : World} {p : Nat} {cs : List Value} {t : TypeId} (h : Blk w p cs t) : p < w.heap.size := (Array.getElem?_eq_some_iff.1 h).1
theorem Blk.below {w w' : World} {p : Nat} {cs : List Value} {t : TypeId} (h : Blk w p cs t) (k : Below w.heap.size w w') : Blk w' p cs t := (k.block p h.lt).trans h
theorem Blk.alloc {w : World} {p : Nat} {cs : List Value} {t : TypeId} (h : Blk w p cs t) (o : Obj) : Blk (w.alloc o) p cs t := (Below.heap_alloc _ _ _ h.lt).trans h
theorem Blk.drew {w : World} {p : Nat} {cs : List Value} {t : TypeId} (h : Blk w p cs t) : Blk w.drew p cs t := h
theorem Blk.drewN {w : World} {p m : Nat} {cs : List Value} {t : TypeId} (h : Blk w p cs t) : Blk (w.drewN m) p cs t := h
theorem Blk.gb {w w' : World} {b p : Nat} {cs : List Value} {t : TypeId} (h : Blk w p cs t) (hg : w.grownBy w' (some b)) (hb : b < p) : Blk w' p cs t := gb_heapAt hg h (by intro e; cases e; omega)
theorem Blk.other {w : World} {p : Nat} {cs : List Value} {t : TypeId} (h : Blk w p cs t) {a : Addr} (ha : p ≠ a.block) (v : Value) : Blk (w.setCell a v) p cs t := (Below.heap_setCell _ _ _ _ ha).trans h
theorem Blk.set {w : World} {p : Nat} {cs : List Value} {t : TypeId} (h : Blk w p cs t) (i : Nat) (v : Value) : Blk (w.setCell ⟨p, i, none⟩ v) p (cs.set i v) t := by
  unfold Blk at *
  simp only [World.setCell, Array.getElem?_modify, if_pos, h, Option.map_some]
  simp
theorem Blk.cell {w : World} {p : Nat} {cs : List Value} {t : TypeId} (h : Blk w p cs t) {i : Nat} {v : Value} (hi : cs[i]? = some v) : w.cell? ⟨p, i, none⟩ = some v := by
  rw [cell_of_row w p i _ _ _ h]; simpa using hi
theorem Blk.free {w : World} {p : Nat} {cs : List Value} {t : TypeId} (h : Blk w p cs t) (i : Nat) : w.frozen? ⟨p, i, none⟩ = false := frozen_of_row w p i _ _ h
theorem Blk.three {w : World} {p : Nat} {x y z : Value} {t : TypeId} (h : Blk w p [x, y, z] t) :
    w.cell? ⟨p, 0, none⟩ = some x ∧ w.cell? ⟨p, 1, none⟩ = some y ∧ w.cell? ⟨p, 2, none⟩ = some z ∧ w.frozen? ⟨p, 0, none⟩ = false ∧ w.frozen? ⟨p, 1, none⟩ = false ∧ w.frozen? ⟨p, 2, none⟩ = false :=
  ⟨h.cell rfl, h.cell rfl, h.cell rfl, h.free _, h.free _, h.free _⟩
theorem Blk.four {w : World} {p : Nat} {x y z u : Value} {t : TypeId} (h : Blk w p [x, y, z, u] t) :
    w.cell? ⟨p, 0, none⟩ = some x ∧ w.cell? ⟨p, 1, none⟩ = some y ∧ w.cell? ⟨p, 2, none⟩ = some z ∧ w.cell? ⟨p, 3, none⟩ = some u ∧ w.frozen? ⟨p, 0, none⟩ = false ∧ w.frozen? ⟨p, 1, none⟩ = false ∧ w.frozen? ⟨p, 2, none⟩ = false ∧ w.frozen? ⟨p, 3, none⟩ = false :=
  ⟨h.cell rfl, h.cell rfl, h.cell rfl, h.cell rfl, h.free _, h.free _, h.free _, h.free _⟩
theorem Blk.at {w : World} {p : Nat} {zs : List Int} {k : IntKind} {t : TypeId} (h : Blk w p (zs.map (Value.int k)) t) (r : Int) (h1 : 0 ≤ r) (h2 : r < zs.length) :
    ∃ v, v ∈ zs ∧ w.cell? ⟨p, r.toNat, none⟩ = some (.int k v) := by
  have hi : r.toNat < zs.length := by omega
  exact ⟨zs[r.toNat], List.getElem_mem hi, h.cell (by simp [hi])⟩

set_option maxHeartbeats 400000 in
theorem range_any (lo hi : Int) (w : World) (b R : Nat) (h1 : lo ≤ hi) (h2 : -1152921504606846976 ≤ lo) (h3 : hi ≤ 1152921504606846976) (hs : Str w b (R + 1)) :
    Calls Tryz.prog 52 #[.pointer (some ⟨b, 0, none⟩), .int .i64 lo, .int .i64 hi] w (NumPost (fun r => lo ≤ r ∧ r ≤ hi) b R w) := by
  go_enter Tryz.func52, Tryz.ntmps52
  go_wp2_with fail
  refine (next_any _ _ _ _ (by omega) (by omega) hs).mono ?_
  rintro e w' ⟨r, ⟨hr1, hr2⟩, rfl, hs', hg⟩
  go_wp2_with fail
  go_ret
  exact ⟨_, ⟨by omega, by omega⟩, rfl, hs', hg⟩

def BoolPost (b R : Nat) (w : World) (e : Ending) (w' : World) : Prop :=
  ∃ r : Bool, e = .returned (.bool r) ∧ Str w' b R ∧ w.grownBy w' (some b)

set_option maxHeartbeats 400000 in
theorem flip_any (n : Int) (w : World) (b R : Nat) (h1 : 1 ≤ n) (h2 : n ≤ 4611686018427387904) (hs : Str w b (R + 1)) :
    Calls Tryz.prog 6 #[.pointer (some ⟨b, 0, none⟩), .int .i64 n] w (BoolPost b R w) := by
  go_enter Tryz.func6, Tryz.ntmps6
  go_wp2_with fail
  refine (next_any _ _ _ _ (by omega) (by omega) hs).mono ?_
  rintro e w' ⟨r, ⟨hr1, hr2⟩, rfl, hs', hg⟩
  go_wp2_with fail
  go_ret
  exact ⟨_, rfl, hs', hg⟩

set_option maxHeartbeats 400000 in
theorem pick_any (w : World) (b R p len cap : Nat) (zs : List Int) (hs : Str w b (R + 1)) (hb : b < p) (h1 : 1 ≤ len) (h2 : len ≤ 1000)
    (hz : ∀ i, i < len → w.cell? ⟨p, i, none⟩ = some (.int .i64 (zs.getD i 0))) (P : Int → Prop) (hP : ∀ i, i < len → P (zs.getD i 0)) :
    Calls Tryz.prog 84 #[.pointer (some ⟨b, 0, none⟩), .slice (some ⟨p, 0, none⟩) len cap] w (NumPost P b R w) := by
  go_enter Tryz.func84, Tryz.ntmps84
  go_wp2_with fail
  refine (next_any _ _ _ _ (by omega) (by omega) hs).mono ?_
  rintro e w' ⟨r, ⟨hr1, hr2⟩, rfl, hs', hg⟩
  obtain ⟨i, rfl⟩ := Int.eq_ofNat_of_zero_le hr1
  have hc := hg.cell (hz i (by omega)) (by intro e; simp at e; omega)
  have hPi := hP i (by omega)
  clear hz hP
  go_wp2_with fail
  go_ret
  exact ⟨_, hPi, rfl, hs', hg⟩


theorem cells_lit (w : World) (zs : List Int) (k : IntKind) (t : TypeId) (i : Nat) (hi : i < zs.length) :
    (w.alloc (.cells (zs.map (Value.int k)).toArray t)).cell? ⟨w.heap.size, i, none⟩ = some (.int k (zs.getD i 0)) := by
  rw [World.cell?_alloc_at _ _ _ _ rfl]
  simp [hi, List.getD_eq_getElem?_getD]

theorem pick_lit (w : World) (b R : Nat) (zs : List Int) (t : TypeId) (cap : Nat) (hs : Str w b (R + 1)) (h1 : 1 ≤ zs.length) (h2 : zs.length ≤ 1000)
    (P : Int → Prop) (hP : ∀ z ∈ zs, P z) :
    Calls Tryz.prog 84 #[.pointer (some ⟨b, 0, none⟩), .slice (some ⟨w.heap.size, 0, none⟩) zs.length cap] (w.alloc (.cells (zs.map (Value.int .i64)).toArray t))
      (NumPost P b R (w.alloc (.cells (zs.map (Value.int .i64)).toArray t))) :=
  pick_any _ b R w.heap.size zs.length cap zs (hs.alloc _) hs.lt h1 h2 (fun i hi => cells_lit w zs .i64 t i hi) P
    (fun i hi => hP _ (by rw [List.getD_eq_getElem?_getD, List.getElem?_eq_getElem hi]; exact List.getElem_mem hi))

set_option maxHeartbeats 400000 in
theorem odd_any (lo hi : Int) (w : World) (b R : Nat) (h1 : lo ≤ hi) (h2 : -1099511627776 ≤ lo) (h3 : hi ≤ 1099511627775) (hs : Str w b (R + 2)) :
    Calls Tryz.prog 59 #[.pointer (some ⟨b, 0, none⟩), .int .i64 lo, .int .i64 hi] w (NumPost (fun r => -1099511627777 ≤ r ∧ r ≤ 1099511627776) b R w) := by
  go_enter Tryz.func59, Tryz.ntmps59
  go_wp2_with fail
  refine (flip_any _ _ _ _ (by omega) (by omega) hs).mono ?_
  rintro e w1 ⟨r, rfl, hs1, hg1⟩
  cases r
  · go_wp2_with fail
    refine (range_any _ _ _ _ _ h1 (by omega) (by omega) hs1).mono ?_
    rintro e w2 ⟨r, ⟨hr1, hr2⟩, rfl, hs2, hg2⟩
    go_wp2_with fail
    go_ret
    exact ⟨_, ⟨by omega, by omega⟩, rfl, hs2, gb_trans hg1 hg2⟩
  · go_wp2_with fail
    refine (pick_lit w1 b _ [lo - 1, hi + 1, lo, hi, -1099511627776, 1099511627776] _ _ hs1 (by simp) (by simp) (fun r => -1099511627777 ≤ r ∧ r ≤ 1099511627776) (by simp; omega)).mono ?_
    rintro e w2 ⟨r, ⟨hr1, hr2⟩, rfl, hs2, hg2⟩
    go_wp2_with fail
    go_ret
    exact ⟨_, ⟨by omega, by omega⟩, rfl, hs2, gb_trans (gb_alloc hg1 _) hg2⟩

def U64 (x : Int) : Prop := 0 ≤ x ∧ x < 18446744073709551616
def RightA (s : Bool) (hi lo : Int) : Prop := U64 hi ∧ U64 lo ∧ (s = false → hi = 0 ∧ lo < 4294967296)

abbrev adV (s : Bool) (hi lo : Int) : Value := .agg #[.bool s, .int .u64 hi, .int .u64 lo]

def AdrPost (P : Bool → Int → Int → Prop) (b R : Nat) (w : World) (e : Ending) (w' : World) : Prop :=
  ∃ s hi lo, P s hi lo ∧ e = .returned (adV s hi lo) ∧ Str w' b R ∧ w.grownBy w' (some b)

theorem lit_at (zs : List Int) (k : IntKind) (r : Int) (h1 : 0 ≤ r) (h2 : r < zs.length) : ∃ v, v ∈ zs ∧ ∀ h : r.toNat < (zs.map (Value.int k)).length, (zs.map (Value.int k))[r.toNat]'h = .int k v := by
  have hi : r.toNat < zs.length := by omega
  exact ⟨zs[r.toNat], List.getElem_mem hi, by intro h; simp⟩

theorem lits_ok {v : Int} {zs : List Int} (h : v ∈ zs) (hz : zs.all (fun z => decide (0 ≤ z ∧ z < 18446744073709551616)) = true) : U64 v := by
  have := List.all_eq_true.1 hz v h
  simpa [U64] using this

structure Pre (w0 : World) (b R p : Nat) (x y z : Value) (t : TypeId) (w : World) : Prop where
  str : Str w b R
  blk : Blk w p [x, y, z] t
  base : w0.grownBy w (some b)
theorem Pre.alloc {w0 : World} {b R p : Nat} {x y z : Value} {t : TypeId} {w : World} (h : Pre w0 b R p x y z t w) (o : Obj) : Pre w0 b R p x y z t (w.alloc o) := ⟨h.str.alloc o, h.blk.alloc o, gb_alloc h.base o⟩
theorem Pre.drew {w0 : World} {b R p : Nat} {x y z : Value} {t : TypeId} {w : World} (h : Pre w0 b R p x y z t w) : Pre w0 b R p x y z t w.drew := ⟨h.str.drew, h.blk.drew, gb_drew h.base⟩
theorem Pre.start {w0 : World} {b R : Nat} (hs : Str w0 b R) (x y z : Value) (t : TypeId) : Pre w0 b R w0.heap.size x y z t (w0.alloc (.cells #[x, y, z] t)) := ⟨hs.alloc _, Blk.new w0 [x, y, z] t, World.grownBy_alloc _ _ _⟩
theorem Pre.fin3 {w0 : World} {b R p : Nat} {x y z : Value} {t : TypeId} {w : World} (h : Pre w0 b R p x y z t w) (hb : b < p) (hp : w0.heap.size ≤ p) (u v s : Value) :
    Str (((w.setCell ⟨p, 0, none⟩ u).setCell ⟨p, 1, none⟩ v).setCell ⟨p, 2, none⟩ s) b R ∧ w0.grownBy (((w.setCell ⟨p, 0, none⟩ u).setCell ⟨p, 1, none⟩ v).setCell ⟨p, 2, none⟩ s) (some b) :=
  ⟨((h.str.setCell (p := ⟨p, 0, none⟩) hb u).setCell (p := ⟨p, 1, none⟩) hb v).setCell (p := ⟨p, 2, none⟩) hb s, gb_setNew (p := ⟨p, 2, none⟩) (gb_setNew (p := ⟨p, 1, none⟩) (gb_setNew (p := ⟨p, 0, none⟩) h.base hp u) hp v) hp s⟩

def KeepPost (n : Int) (w0 : World) (b R p : Nat) (x y z : Value) (t : TypeId) (w : World) (e : Ending) (w' : World) : Prop :=
  ∃ r : Int, 0 ≤ r ∧ r < n ∧ e = .returned (.int .i64 r) ∧ Pre w0 b R p x y z t w' ∧ (∀ j o, b < j → j < w.heap.size → w'.cell? ⟨j, o, none⟩ = w.cell? ⟨j, o, none⟩) ∧ w.heap.size ≤ w'.heap.size ∧ w.grownBy w' (some b) ∧ b < w'.heap.size ∧ b ≤ w'.heap.size ∧
   (w'.cell? ⟨p, 0, none⟩ = some x ∧ w'.cell? ⟨p, 1, none⟩ = some y ∧ w'.cell? ⟨p, 2, none⟩ = some z ∧ w'.frozen? ⟨p, 0, none⟩ = false ∧ w'.frozen? ⟨p, 1, none⟩ = false ∧ w'.frozen? ⟨p, 2, none⟩ = false)

theorem next_keep (n : Int) (w w0 : World) (b R p : Nat) (x y z : Value) (t : TypeId) (h1 : 1 ≤ n) (h2 : n ≤ 4611686018427387904) (hbp : b < p) (hp : Pre w0 b (R + 1) p x y z t w) :
    Calls Tryz.prog 9 #[.pointer (some ⟨b, 0, none⟩), .int .i64 n] w (KeepPost n w0 b R p x y z t w) := by
  refine (next_any n w b R h1 h2 hp.str).mono ?_
  rintro e w' ⟨r, ⟨hr1, hr2⟩, rfl, hs, hg⟩
  obtain ⟨hc, _, hz⟩ := gb_rules hg
  have hb := hs.lt
  have hB := hp.blk.gb hg hbp
  exact ⟨r, hr1, hr2, rfl, ⟨hs, hB, gb_trans hp.base hg⟩, hc, hz, hg, hb, by omega, hB.three⟩

end Go.Proofs.YtfpcalgkfagjkaaGreatDoor
