/- A region whose order is open, in ONE way: an operation whose value hangs on no order is taken first, a call that makes memory too; where one operation alone may come up, it is carried out. -/
import Derived.Test.YtmgdkefoehlamaaGreatDoorRows
import Derived.WalkKit
import Derived.WalkSpells
import Derived.WalkLawsBesides
import Derived.Lib.Hide
import Derived.Deep.QuietTactic
import Derived.BigQuiet
import Derived.Deep.RegionWith
import Derived.Deep.RegionHeld3
namespace Go.Proofs.YtmgdkefoehlamaaGreatDoor
open Go.RowKit

def SomeInt (P : Int → Prop) (w : World) (e : Ending) (w' : World) : Prop := ∃ r : Int, P r ∧ e = .returned (.int .i64 r) ∧ w = w'

theorem tmod_lo (x n : Int) (h : 1 ≤ n) : -n < x.tmod n := by
  have := Int.natAbs_tmod x n
  have h3 : (x.tmod n).natAbs < n.natAbs := by
    rw [this]; exact Nat.mod_lt _ (by omega)
  omega
theorem tmod_hi (x n : Int) (h : 1 ≤ n) : x.tmod n < n := Int.tmod_lt_of_pos x (by omega)

set_option maxHeartbeats 400000 in
theorem below_any (x n : Int) (w : World) (h1 : 1 ≤ n) (h2 : n ≤ 4611686018427387904) :
    Calls Tryz.prog 79 #[.int .i64 x, .int .i64 n] w (SomeInt (fun r => 0 ≤ r ∧ r < n) w) := by
  have lo := tmod_lo x n h1
  have hi := tmod_hi x n h1
  go_enter Tryz.func79, Tryz.ntmps79
  go_wp2
  · go_ret
    exact ⟨_, ⟨by omega, by omega⟩, rfl, rfl⟩
  · go_ret
    exact ⟨_, ⟨by omega, by omega⟩, rfl, rfl⟩

def NextPost (P : Int → Prop) (w : World) (b k : Nat) (e : Ending) (w' : World) : Prop :=
  ∃ m, SomeInt P ((w.setCell ⟨b, 1, none⟩ (.int .i64 ((k : Int) + 1))).drewN m) e w'

set_option maxHeartbeats 400000 in
theorem next_some (n : Int) (w : World) (b xb off len cap k : Nat) (zs : List Int) (h1 : 1 ≤ n) (h2 : n ≤ 4611686018427387904)
    (hk : k ≤ 4611686018427387904) (hlen : 1 ≤ len) (_hle : len ≤ cap) (_hcap : cap ≤ maxLen) (hne : xb ≠ b)
    (hL : w.cell? ⟨b, 0, none⟩ = some (.slice (some ⟨xb, off, none⟩) len cap)) (hA : w.cell? ⟨b, 1, none⟩ = some (.int .i64 k)) (hF : w.frozen? ⟨b, 1, none⟩ = false)
    (hz : ∀ i, i < len → w.cell? ⟨xb, off + i, none⟩ = some (.int .i64 (zs.getD i 0))) :
    Calls Tryz.prog 44 #[.pointer (some ⟨b, 0, none⟩), .int .i64 n] w (NextPost (fun r => 0 ≤ r ∧ r < n) w b k) := by
  unfold maxLen at _hcap
  have hm : k % len < len := Nat.mod_lt _ (by omega)
  have hzz := hz (k % len) hm
  have hl0 : ((len : Int) == 0) = false := by simp; omega
  clear hz
  go_enter Tryz.func44, Tryz.ntmps44
  go_wp2_with fail
  go_quiet (fail)
  go_wp2_with fail
  go_quiet (fail)
  go_wp2_with fail
  refine (below_any _ _ _ (by omega) (by omega)).mono ?_
  rintro e w' ⟨r1, hr1, rfl, rfl⟩
  go_wp2_with fail
  refine (below_any _ _ _ (by omega) (by omega)).mono ?_
  rintro e w' ⟨r2, hr2, rfl, rfl⟩
  go_wp2_with fail
  go_ret
  exact ⟨_, _, hr2, rfl, rfl⟩

set_option maxHeartbeats 400000 in
theorem next_none (n : Int) (w : World) (b k : Nat) (h1 : 1 ≤ n) (h2 : n ≤ 4611686018427387904)
    (hk : k ≤ 4611686018427387904) (a : Option Addr) (cap : Nat)
    (hL : w.cell? ⟨b, 0, none⟩ = some (.slice a 0 cap)) (hA : w.cell? ⟨b, 1, none⟩ = some (.int .i64 k)) (hF : w.frozen? ⟨b, 1, none⟩ = false) :
    Calls Tryz.prog 44 #[.pointer (some ⟨b, 0, none⟩), .int .i64 n] w (NextPost (fun r => 0 ≤ r ∧ r < n) w b k) := by
  go_enter Tryz.func44, Tryz.ntmps44
  go_wp2_with fail
  refine (below_any _ _ _ (by omega) (by omega)).mono ?_
  rintro e w' ⟨r1, hr1, rfl, rfl⟩
  go_wp2_with fail
  go_ret
  exact ⟨0, _, hr1, rfl, rfl⟩

def Str (w : World) (b R : Nat) : Prop :=
  ∃ (a : Option Addr) (len cap k : Nat) (zs : List Int), k + R ≤ 4611686018427387904 ∧ w.heap[b]? = some (.cells #[.slice a len cap, .int .i64 k] 25 (0, 0)) ∧
    (len = 0 ∨ ∃ xb off, a = some ⟨xb, off, none⟩ ∧ xb < b ∧ len ≤ cap ∧ cap ≤ maxLen ∧ ∀ i, i < len → w.cell? ⟨xb, off + i, none⟩ = some (.int .i64 (zs.getD i 0)))

theorem Str.lt {w : World} {b R : Nat} (h : Str w b R) : b < w.heap.size := by
  obtain ⟨a, len, cap, k, zs, hk, hb, r⟩ := h
  exact (Array.getElem?_eq_some_iff.1 hb).1

theorem Str.le {w : World} {b R R' : Nat} (h : Str w b R) (hk : R' ≤ R) : Str w b R' := by
  obtain ⟨a, len, cap, k, zs, hk', r⟩ := h
  exact ⟨a, len, cap, k, zs, by omega, r⟩

theorem Str.upto {w w' : World} {b R : Nat} (h : Str w b R) (hb : ∀ j, j ≤ b → w'.heap[j]? = w.heap[j]?) : Str w' b R := by
  obtain ⟨a, len, cap, k, zs, hk, h1, h2⟩ := h
  refine ⟨a, len, cap, k, zs, hk, by rw [hb b (Nat.le_refl _)]; exact h1, ?_⟩
  rcases h2 with h2 | ⟨xb, off, ha, hlt, hl, hc, hz⟩
  · exact .inl h2
  · exact .inr ⟨xb, off, ha, hlt, hl, hc, fun i hi => by rw [World.cell?_of_block (w := w) (hb xb (by omega))]; exact hz i hi⟩

theorem Str.below {w w' : World} {b R : Nat} (h : Str w b R) (hb : Below w.heap.size w w') : Str w' b R :=
  have := h.lt
  h.upto fun j hj => hb.block j (by omega)

theorem Str.grown {w w' : World} {b R r : Nat} (h : Str w b R) (hg : w.grownBy w' (some r)) (hr : b < r) : Str w' b R :=
  have := h.lt
  h.upto fun j hj => hg.block j (by omega) (by intro e; cases e; omega)

theorem Str.alloc {w : World} {b R : Nat} (h : Str w b R) (o : Obj) : Str (w.alloc o) b R :=
  h.below (.alloc (.refl _ _) (Nat.le_refl _) _)

theorem Str.drewN {w : World} {b R m : Nat} (h : Str w b R) : Str (w.drewN m) b R := h.upto fun _ _ => rfl
theorem Str.drew {w : World} {b R : Nat} (h : Str w b R) : Str w.drew b R := h.upto fun _ _ => rfl
theorem Str.setCell {w : World} {b R : Nat} (h : Str w b R) {p : Addr} (hp : b < p.block) (v : Value) : Str (w.setCell p v) b R :=
  h.upto fun j hj => Below.heap_setCell _ _ _ _ (by omega)

def NumPost (P : Int → Prop) (b R : Nat) (w : World) (e : Ending) (w' : World) : Prop :=
  ∃ r : Int, P r ∧ e = .returned (.int .i64 r) ∧ Str w' b R ∧ w.grownBy w' (some b)

theorem gb_refl (w : World) (r : Option Nat) : w.grownBy w r := ⟨rfl, rfl, rfl, Nat.le_refl _, fun _ _ _ => rfl⟩
theorem gb_trans {a b c : World} {r : Option Nat} (h : a.grownBy b r) (k : b.grownBy c r) : a.grownBy c r :=
  ⟨k.os.trans h.os, k.tape.trans h.tape, k.output.trans h.output, Nat.le_trans h.size k.size, fun i hi hne => (k.block i (by have := h.size; omega) hne).trans (h.block i hi hne)⟩
theorem gb_alloc {a b : World} {r : Option Nat} (h : a.grownBy b r) (o : Obj) : a.grownBy (b.alloc o) r := gb_trans h (World.grownBy_alloc _ _ _)
theorem gb_drewN {a b : World} {r : Option Nat} {m : Nat} (h : a.grownBy b r) : a.grownBy (b.drewN m) r := ⟨h.os, h.tape, h.output, h.size, h.block⟩
theorem gb_drew {a b : World} {r : Option Nat} (h : a.grownBy b r) : a.grownBy b.drew r := ⟨h.os, h.tape, h.output, h.size, h.block⟩
theorem gb_below {a b c : World} {r : Option Nat} (h : a.grownBy b r) (k : Below b.heap.size b c) : a.grownBy c r :=
  ⟨k.os.trans h.os, k.tape.trans h.tape, k.output.trans h.output, Nat.le_trans h.size k.size, fun i hi hne => (k.block i (by have := h.size; omega)).trans (h.block i hi hne)⟩
theorem gb_setNew {a b : World} {r : Option Nat} (h : a.grownBy b r) {p : Addr} (hp : a.heap.size ≤ p.block) (v : Value) : a.grownBy (b.setCell p v) r :=
  ⟨h.os, h.tape, h.output, by simpa [World.setCell] using h.size, fun i hi hne => (Below.heap_setCell _ _ _ _ (by omega)).trans (h.block i hi hne)⟩
theorem gb_toBelow {a b : World} {r B : Nat} (h : a.grownBy b (some r)) (hB : B ≤ r) (hr : r ≤ a.heap.size) : Below B a b :=
  ⟨h.os, h.tape, h.output, h.size, fun k hk => h.block k (by omega) (by intro e; cases e; omega)⟩
theorem gb_heapAt {w w' : World} {row : Option Nat} (hg : w.grownBy w' row) {j : Nat} {o : Obj} (h : w.heap[j]? = some o) (hne : some j ≠ row) : w'.heap[j]? = some o :=
  (hg.block j (Array.getElem?_eq_some_iff.1 h).1 hne).trans h

theorem Str.of_next {w : World} {b : Nat} {a : Option Addr} {len cap k R m : Nat} {zs : List Int} (hk : k + (R + 1) ≤ 4611686018427387904) (hb : w.heap[b]? = some (.cells #[.slice a len cap, .int .i64 k] 25 (0, 0)))
    (h2 : len = 0 ∨ ∃ xb off, a = some ⟨xb, off, none⟩ ∧ xb < b ∧ len ≤ cap ∧ cap ≤ maxLen ∧ ∀ i, i < len → w.cell? ⟨xb, off + i, none⟩ = some (.int .i64 (zs.getD i 0))) :
    Str ((w.setCell ⟨b, 1, none⟩ (.int .i64 ((k : Int) + 1))).drewN m) b R ∧ w.grownBy ((w.setCell ⟨b, 1, none⟩ (.int .i64 ((k : Int) + 1))).drewN m) (some b) := by
  refine ⟨⟨a, len, cap, k + 1, zs, by omega, ?_, ?_⟩, ⟨rfl, rfl, rfl, by simp [World.setCell], fun i hi hne => ?_⟩⟩
  · simp [World.setCell, Array.getElem?_modify, hb, World.drewN]
  · rcases h2 with h2 | ⟨xb, off, ha, hlt, hl, hc, hz⟩
    · exact .inl h2
    · refine .inr ⟨xb, off, ha, hlt, hl, hc, fun i hi => ?_⟩
      have := World.cell?_of_block (w := w) (w' := (w.setCell ⟨b, 1, none⟩ (.int .i64 ((k : Int) + 1))).drewN m) (a := ⟨xb, off + i, none⟩) (Below.heap_setCell w ⟨b, 1, none⟩ _ xb (by simp; omega))
      rw [this]; exact hz i hi
  · exact Below.heap_setCell w ⟨b, 1, none⟩ _ i (by intro e; simp at e; exact hne (by rw [e]))

theorem next_any (n : Int) (w : World) (b R : Nat) (h1 : 1 ≤ n) (h2 : n ≤ 4611686018427387904) (hs : Str w b (R + 1)) :
    Calls Tryz.prog 44 #[.pointer (some ⟨b, 0, none⟩), .int .i64 n] w (NumPost (fun r => 0 ≤ r ∧ r < n) b R w) := by
  obtain ⟨a, len, cap, k, zs, hk, hb, r⟩ := hs
  have c0 : w.cell? ⟨b, 0, none⟩ = some (.slice a len cap) := by rw [cell_of_row w b 0 _ _ _ hb]; rfl
  have c1 : w.cell? ⟨b, 1, none⟩ = some (.int .i64 k) := by rw [cell_of_row w b 1 _ _ _ hb]; rfl
  have f1 : w.frozen? ⟨b, 1, none⟩ = false := frozen_of_row w b 1 _ _ hb
  rcases r with rfl | ⟨xb, off, rfl, hlt, hl, hc, hz⟩
  · refine (next_none n w b k h1 h2 (by omega) a cap c0 c1 f1).mono ?_
    rintro e w' ⟨m, r, hr, rfl, rfl⟩
    exact ⟨r, hr, rfl, Str.of_next (zs := zs) hk hb (.inl rfl)⟩
  · by_cases h0 : len = 0
    · subst h0
      refine (next_none n w b k h1 h2 (by omega) _ cap c0 c1 f1).mono ?_
      rintro e w' ⟨m, r, hr, rfl, rfl⟩
      exact ⟨r, hr, rfl, Str.of_next (zs := zs) hk hb (.inl rfl)⟩
    · refine (next_some n w b xb off len cap k zs h1 h2 (by omega) (by omega) hl hc (by omega) c0 c1 f1 hz).mono ?_
      rintro e w' ⟨m, r, hr, rfl, rfl⟩
      exact ⟨r, hr, rfl, Str.of_next (zs := zs) hk hb (.inr ⟨xb, off, rfl, hlt, hl, hc, hz⟩)⟩

theorem gb_rules {w w' : World} {b : Nat} (hg : w.grownBy w' (some b)) :
    (∀ j o, b < j → j < w.heap.size → w'.cell? ⟨j, o, none⟩ = w.cell? ⟨j, o, none⟩) ∧ (∀ j o, b < j → j < w.heap.size → w'.frozen? ⟨j, o, none⟩ = w.frozen? ⟨j, o, none⟩) ∧ w.heap.size ≤ w'.heap.size :=
  ⟨fun j o h1 h2 => World.cell?_of_block (w := w) (hg.block j h2 (by intro e; cases e; omega)), fun j o h1 h2 => World.frozen?_of_block (w := w) (hg.block j h2 (by intro e; cases e; omega)), hg.size⟩

def Blk (w : World) (p : Nat) (cs : List Value) (t : TypeId) : Prop := w.heap[p]? = some (.cells cs.toArray t (0, 0))
theorem Blk.new (w : World) (cs : List Value) (t : TypeId) : Blk (w.alloc (.cells cs.toArray t)) w.heap.size cs t := heap_alloc_new w _
theorem Blk.lt {w : World} {p : Nat} {cs : List Value} {t : TypeId} (h : Blk w p cs t) : p < w.heap.size := (Array.getElem?_eq_some_iff.1 h).1
theorem Blk.below {w w' : World} {p : Nat} {cs : List Value} {t : TypeId} (h : Blk w p cs t) (k : Below w.heap.size w w') : Blk w' p cs t := (k.block p h.lt).trans h
theorem Blk.alloc {w : World} {p : Nat} {cs : List Value} {t : TypeId} (h : Blk w p cs t) (o : Obj) : Blk (w.alloc o) p cs t := (Below.heap_alloc _ _ _ h.lt).trans h
theorem Blk.drew {w : World} {p : Nat} {cs : List Value} {t : TypeId} (h : Blk w p cs t) : Blk w.drew p cs t := h
theorem Blk.drewN {w : World} {p m : Nat} {cs : List Value} {t : TypeId} (h : Blk w p cs t) : Blk (w.drewN m) p cs t := h
theorem Blk.gb {w w' : World} {b p : Nat} {cs : List Value} {t : TypeId} (h : Blk w p cs t) (hg : w.grownBy w' (some b)) (hb : b < p) : Blk w' p cs t := gb_heapAt hg h (by intro e; cases e; omega)
theorem Blk.other {w : World} {p : Nat} {cs : List Value} {t : TypeId} (h : Blk w p cs t) {a : Addr} (ha : p ≠ a.block) (v : Value) : Blk (w.setCell a v) p cs t := (Below.heap_setCell _ _ _ _ ha).trans h
theorem Blk.set {w : World} {p : Nat} {cs : List Value} {t : TypeId} (h : Blk w p cs t) (i : Nat) (v : Value) : Blk (w.setCell ⟨p, i, none⟩ v) p (cs.set i v) t := by
  unfold Blk at *
  simp only [World.setCell, Array.getElem?_modify, if_pos, h, Option.map_some]
  simp
theorem Blk.cell {w : World} {p : Nat} {cs : List Value} {t : TypeId} (h : Blk w p cs t) {i : Nat} {v : Value} (hi : cs[i]? = some v) : w.cell? ⟨p, i, none⟩ = some v := by
  rw [cell_of_row w p i _ _ _ h]; simpa using hi
theorem Blk.free {w : World} {p : Nat} {cs : List Value} {t : TypeId} (h : Blk w p cs t) (i : Nat) : w.frozen? ⟨p, i, none⟩ = false := frozen_of_row w p i _ _ h
theorem Blk.three {w : World} {p : Nat} {x y z : Value} {t : TypeId} (h : Blk w p [x, y, z] t) :
    w.cell? ⟨p, 0, none⟩ = some x ∧ w.cell? ⟨p, 1, none⟩ = some y ∧ w.cell? ⟨p, 2, none⟩ = some z ∧ w.frozen? ⟨p, 0, none⟩ = false ∧ w.frozen? ⟨p, 1, none⟩ = false ∧ w.frozen? ⟨p, 2, none⟩ = false :=
  ⟨h.cell rfl, h.cell rfl, h.cell rfl, h.free _, h.free _, h.free _⟩
theorem Blk.four {w : World} {p : Nat} {x y z u : Value} {t : TypeId} (h : Blk w p [x, y, z, u] t) :
    w.cell? ⟨p, 0, none⟩ = some x ∧ w.cell? ⟨p, 1, none⟩ = some y ∧ w.cell? ⟨p, 2, none⟩ = some z ∧ w.cell? ⟨p, 3, none⟩ = some u ∧ w.frozen? ⟨p, 0, none⟩ = false ∧ w.frozen? ⟨p, 1, none⟩ = false ∧ w.frozen? ⟨p, 2, none⟩ = false ∧ w.frozen? ⟨p, 3, none⟩ = false :=
  ⟨h.cell rfl, h.cell rfl, h.cell rfl, h.cell rfl, h.free _, h.free _, h.free _, h.free _⟩
theorem Blk.at {w : World} {p : Nat} {zs : List Int} {k : IntKind} {t : TypeId} (h : Blk w p (zs.map (Value.int k)) t) (r : Int) (h1 : 0 ≤ r) (h2 : r < zs.length) :
    ∃ v, v ∈ zs ∧ w.cell? ⟨p, r.toNat, none⟩ = some (.int k v) := by
  have hi : r.toNat < zs.length := by omega
  exact ⟨zs[r.toNat], List.getElem_mem hi, h.cell (by simp [hi])⟩

set_option maxHeartbeats 400000 in
theorem range_any (lo hi : Int) (w : World) (b R : Nat) (h1 : lo ≤ hi) (h2 : -1152921504606846976 ≤ lo) (h3 : hi ≤ 1152921504606846976) (hs : Str w b (R + 1)) :
    Calls Tryz.prog 26 #[.pointer (some ⟨b, 0, none⟩), .int .i64 lo, .int .i64 hi] w (NumPost (fun r => lo ≤ r ∧ r ≤ hi) b R w) := by
  go_enter Tryz.func26, Tryz.ntmps26
  go_wp2_with fail
  refine (next_any _ _ _ _ (by omega) (by omega) hs).mono ?_
  rintro e w' ⟨r, ⟨hr1, hr2⟩, rfl, hs', hg⟩
  go_wp2_with fail
  go_ret
  exact ⟨_, ⟨by omega, by omega⟩, rfl, hs', hg⟩

set_option maxHeartbeats 400000 in
theorem pick_any (w : World) (b R p len cap : Nat) (zs : List Int) (hs : Str w b (R + 1)) (hb : b < p) (h1 : 1 ≤ len) (h2 : len ≤ 1000)
    (hz : ∀ i, i < len → w.cell? ⟨p, i, none⟩ = some (.int .i64 (zs.getD i 0))) (P : Int → Prop) (hP : ∀ i, i < len → P (zs.getD i 0)) :
    Calls Tryz.prog 93 #[.pointer (some ⟨b, 0, none⟩), .slice (some ⟨p, 0, none⟩) len cap] w (NumPost P b R w) := by
  go_enter Tryz.func93, Tryz.ntmps93
  go_wp2_with fail
  refine (next_any _ _ _ _ (by omega) (by omega) hs).mono ?_
  rintro e w' ⟨r, ⟨hr1, hr2⟩, rfl, hs', hg⟩
  obtain ⟨i, rfl⟩ := Int.eq_ofNat_of_zero_le hr1
  have hc := hg.cell (hz i (by omega)) (by intro e; simp at e; omega)
  have hPi := hP i (by omega)
  clear hz hP
  go_wp2_with fail
  go_ret
  exact ⟨_, hPi, rfl, hs', hg⟩


theorem cells_lit (w : World) (zs : List Int) (k : IntKind) (t : TypeId) (i : Nat) (hi : i < zs.length) :
    (w.alloc (.cells (zs.map (Value.int k)).toArray t)).cell? ⟨w.heap.size, i, none⟩ = some (.int k (zs.getD i 0)) := by
  rw [World.cell?_alloc_at _ _ _ _ rfl]
  simp [hi, List.getD_eq_getElem?_getD]

theorem pick_lit (w : World) (b R : Nat) (zs : List Int) (t : TypeId) (cap : Nat) (hs : Str w b (R + 1)) (h1 : 1 ≤ zs.length) (h2 : zs.length ≤ 1000)
    (P : Int → Prop) (hP : ∀ z ∈ zs, P z) :
    Calls Tryz.prog 93 #[.pointer (some ⟨b, 0, none⟩), .slice (some ⟨w.heap.size, 0, none⟩) zs.length cap] (w.alloc (.cells (zs.map (Value.int .i64)).toArray t))
      (NumPost P b R (w.alloc (.cells (zs.map (Value.int .i64)).toArray t))) :=
  pick_any _ b R w.heap.size zs.length cap zs (hs.alloc _) hs.lt h1 h2 (fun i hi => cells_lit w zs .i64 t i hi) P
    (fun i hi => hP _ (by rw [List.getD_eq_getElem?_getD, List.getElem?_eq_getElem hi]; exact List.getElem_mem hi))

def U64 (x : Int) : Prop := 0 ≤ x ∧ x < 18446744073709551616
def RightA (s : Bool) (hi lo : Int) : Prop := U64 hi ∧ U64 lo ∧ (s = false → hi = 0 ∧ lo < 4294967296)

abbrev adV (s : Bool) (hi lo : Int) : Value := .agg #[.bool s, .int .u64 hi, .int .u64 lo]

def AdrPost (P : Bool → Int → Int → Prop) (b R : Nat) (w : World) (e : Ending) (w' : World) : Prop :=
  ∃ s hi lo, P s hi lo ∧ e = .returned (adV s hi lo) ∧ Str w' b R ∧ w.grownBy w' (some b)

theorem lit_at (zs : List Int) (k : IntKind) (r : Int) (h1 : 0 ≤ r) (h2 : r < zs.length) : ∃ v, v ∈ zs ∧ ∀ h : r.toNat < (zs.map (Value.int k)).length, (zs.map (Value.int k))[r.toNat]'h = .int k v := by
  have hi : r.toNat < zs.length := by omega
  exact ⟨zs[r.toNat], List.getElem_mem hi, by intro h; simp⟩

theorem lits_ok {v : Int} {zs : List Int} (h : v ∈ zs) (hz : zs.all (fun z => decide (0 ≤ z ∧ z < 18446744073709551616)) = true) : U64 v := by
  have := List.all_eq_true.1 hz v h
  simpa [U64] using this

structure Pre (w0 : World) (b R p : Nat) (x y z : Value) (t : TypeId) (w : World) : Prop where
  str : Str w b R
  blk : Blk w p [x, y, z] t
  base : w0.grownBy w (some b)
theorem Pre.alloc {w0 : World} {b R p : Nat} {x y z : Value} {t : TypeId} {w : World} (h : Pre w0 b R p x y z t w) (o : Obj) : Pre w0 b R p x y z t (w.alloc o) := ⟨h.str.alloc o, h.blk.alloc o, gb_alloc h.base o⟩
theorem Pre.drew {w0 : World} {b R p : Nat} {x y z : Value} {t : TypeId} {w : World} (h : Pre w0 b R p x y z t w) : Pre w0 b R p x y z t w.drew := ⟨h.str.drew, h.blk.drew, gb_drew h.base⟩
theorem Pre.start {w0 : World} {b R : Nat} (hs : Str w0 b R) (x y z : Value) (t : TypeId) : Pre w0 b R w0.heap.size x y z t (w0.alloc (.cells #[x, y, z] t)) := ⟨hs.alloc _, Blk.new w0 [x, y, z] t, World.grownBy_alloc _ _ _⟩
theorem Pre.fin3 {w0 : World} {b R p : Nat} {x y z : Value} {t : TypeId} {w : World} (h : Pre w0 b R p x y z t w) (hb : b < p) (hp : w0.heap.size ≤ p) (u v s : Value) :
    Str (((w.setCell ⟨p, 0, none⟩ u).setCell ⟨p, 1, none⟩ v).setCell ⟨p, 2, none⟩ s) b R ∧ w0.grownBy (((w.setCell ⟨p, 0, none⟩ u).setCell ⟨p, 1, none⟩ v).setCell ⟨p, 2, none⟩ s) (some b) :=
  ⟨((h.str.setCell (p := ⟨p, 0, none⟩) hb u).setCell (p := ⟨p, 1, none⟩) hb v).setCell (p := ⟨p, 2, none⟩) hb s, gb_setNew (p := ⟨p, 2, none⟩) (gb_setNew (p := ⟨p, 1, none⟩) (gb_setNew (p := ⟨p, 0, none⟩) h.base hp u) hp v) hp s⟩

def KeepPost (n : Int) (w0 : World) (b R p : Nat) (x y z : Value) (t : TypeId) (w : World) (e : Ending) (w' : World) : Prop :=
  ∃ r : Int, 0 ≤ r ∧ r < n ∧ e = .returned (.int .i64 r) ∧ Pre w0 b R p x y z t w' ∧ (∀ j o, b < j → j < w.heap.size → w'.cell? ⟨j, o, none⟩ = w.cell? ⟨j, o, none⟩) ∧ w.heap.size ≤ w'.heap.size ∧ w.grownBy w' (some b) ∧ b < w'.heap.size ∧ b ≤ w'.heap.size ∧
   (w'.cell? ⟨p, 0, none⟩ = some x ∧ w'.cell? ⟨p, 1, none⟩ = some y ∧ w'.cell? ⟨p, 2, none⟩ = some z ∧ w'.frozen? ⟨p, 0, none⟩ = false ∧ w'.frozen? ⟨p, 1, none⟩ = false ∧ w'.frozen? ⟨p, 2, none⟩ = false)

theorem next_keep (n : Int) (w w0 : World) (b R p : Nat) (x y z : Value) (t : TypeId) (h1 : 1 ≤ n) (h2 : n ≤ 4611686018427387904) (hbp : b < p) (hp : Pre w0 b (R + 1) p x y z t w) :
    Calls Tryz.prog 44 #[.pointer (some ⟨b, 0, none⟩), .int .i64 n] w (KeepPost n w0 b R p x y z t w) := by
  refine (next_any n w b R h1 h2 hp.str).mono ?_
  rintro e w' ⟨r, ⟨hr1, hr2⟩, rfl, hs, hg⟩
  obtain ⟨hc, _, hz⟩ := gb_rules hg
  have hb := hs.lt
  have hB := hp.blk.gb hg hbp
  exact ⟨r, hr1, hr2, rfl, ⟨hs, hB, gb_trans hp.base hg⟩, hc, hz, hg, hb, by omega, hB.three⟩


theorem adr_close {w W : World} {b R : Nat} {s : Bool} {hi lo : Int} (hP : RightA s hi lo) (h : Str W b R ∧ w.grownBy W (some b)) : AdrPost RightA b R w (.returned (adV s hi lo)) W := ⟨s, hi, lo, hP, rfl, h.1, h.2⟩

set_option maxHeartbeats 20000000 in
theorem addr_any (w : World) (b R : Nat) (hs : Str w b (R + 3)) :
    Calls Tryz.prog 17 #[.pointer (some ⟨b, 0, none⟩)] w (AdrPost RightA b R w) := by
  have hbw := hs.lt
  have hP := Pre.start hs (.bool false) (.int .u64 0) (.int .u64 0) 38
  go_enter Tryz.func17, Tryz.ntmps17
  go_wp2_with fail
  refine (next_keep _ _ _ _ _ _ _ _ _ _ (by omega) (by omega) hbw hP).mono ?_
  rintro e w1 ⟨r, hr1, hr2, rfl, hP1, hc1, hz1, hg1, hb1, hb1', q0, q1, q2, f0, f1, f2⟩
  simp at hz1
  have hx1 : w.heap.size < w1.heap.size := by omega
  clear hP hs hc1
  by_cases h0 : r = 0
  · subst h0
    have tok1 : True := trivial
    go_wp2_with fail
    go_region_with (first
      | (go_at_call 44; have _t := tok1; refine (next_keep _ _ w b (R + 1) w.heap.size (.bool false) (.int .u64 0) (.int .u64 0) 38 (by omega) (by omega) hbw ?_).mono ?_; exact (by with_reducible first | exact hP1.drew | exact (hP1.alloc _).drew | exact ((hP1.alloc _).alloc _).drew); rintro e w2 ⟨r2, hr3, hr4, rfl, hP2, hc2, hx2, hg2, hb2, hb2', u0, u1, u2, f3, f4, f5⟩; clear tok1; obtain ⟨v2, hv2, hl2⟩ := lit_at [0, 18230571291595767808, 2306139568115548160, 9223372036854775808, 18446744073709551615] .u64 r2 hr3 hr4; simp only [List.map] at hl2; (try simp at hx2); have g0 : w.heap.size < w2.heap.size := (by omega); (try have g1 : w1.heap.size < w2.heap.size := by omega); (try have g2 : w1.heap.size + 1 < w2.heap.size := by omega))
      | (go_at_call 44; refine (next_keep _ _ w b R w.heap.size (.bool false) (.int .u64 0) (.int .u64 0) 38 (by omega) (by omega) hbw ?_).mono ?_; exact (by with_reducible first | exact hP2 | exact hP2.alloc _ | exact (hP2.alloc _).alloc _); rintro e w3 ⟨r3, hr5, hr6, rfl, hP3, hc3, hx3, hg3, hb3, hb3', t0, t1, t2, f6, f7, f8⟩; obtain ⟨v3, hv3, hl3⟩ := lit_at [0, 1, 2, 4294967296, 18446744073709551615] .u64 r3 hr5 hr6; simp only [List.map] at hl3; (try simp at hx3); have g7 : w.heap.size < w3.heap.size := (by omega); (try have g3 : w2.heap.size < w3.heap.size := by omega); (try have g4 : w2.heap.size + 1 < w3.heap.size := by omega); (try have g5 : w1.heap.size < w3.heap.size := by omega); (try have g6 : w1.heap.size + 1 < w3.heap.size := by omega)))
    all_goals go_wp2_with fail
    all_goals refine bodyPost_ret (v := adV true v2 v3) ?_ rfl (adr_close ⟨lits_ok hv2 (by decide), lits_ok hv3 (by decide), fun h => by cases h⟩ ?_)
    all_goals first
      | (with_reducible exact Pre.fin3 hP3 hbw (Nat.le_refl _) (.bool true) (.int .u64 v2) (.int .u64 v3))
      | (with_reducible exact ⟨(Pre.fin3 hP3 hbw (Nat.le_refl _) (.bool true) (.int .u64 v2) (.int .u64 v3)).1.alloc _, gb_alloc (Pre.fin3 hP3 hbw (Nat.le_refl _) (.bool true) (.int .u64 v2) (.int .u64 v3)).2 _⟩)
      | (with_reducible exact ⟨((Pre.fin3 hP3 hbw (Nat.le_refl _) (.bool true) (.int .u64 v2) (.int .u64 v3)).1.alloc _).alloc _, gb_alloc (gb_alloc (Pre.fin3 hP3 hbw (Nat.le_refl _) (.bool true) (.int .u64 v2) (.int .u64 v3)).2 _) _⟩)
      | (simp [results, Tryz.results17, go_sem, t0, t1, t2, g7]; done)
  have b0 : (r == 0) = false := by simp; omega
  by_cases h1 : r = 1
  · subst h1
    have hL := Blk.new w1 (([0, 1, 4294967295, 2130706433, 3232235521] : List Int).map (Value.int .u64)) 36
    go_wp2_with fail
    refine (next_keep _ _ _ _ (R + 1) _ _ _ _ _ (by omega) (by omega) hbw (hP1.alloc _)).mono ?_
    rintro e w2 ⟨r2, hr3, hr4, rfl, hP2, hc2, hx2, hg2, hb2, hb2', u0, u1, u2, f3, f4, f5⟩
    obtain ⟨v, hv, hl⟩ := (hL.gb hg2 hb1).at r2 hr3 (by simpa using hr4)
    clear hc2 hL
    go_wp2_with fail
    refine bodyPost_ret (v := adV false 0 v) ?_ rfl (adr_close ⟨⟨by omega, by omega⟩, lits_ok hv (by decide), fun _ => ⟨rfl, ?_⟩⟩ ?_)
    · simp [results, Tryz.results17, go_sem, u0, u1, u2]
    · simp at hv; omega
    · have := (Pre.fin3 hP2 hbw (Nat.le_refl _) (.bool false) (.int .u64 0) (.int .u64 v)); exact ⟨this.1.le (by omega), this.2⟩
  have b1 : (r == 1) = false := by simp; omega
  by_cases h2 : r = 2
  · subst h2
    go_wp2_with fail
    refine (range_any _ _ _ _ (R + 1) (by omega) (by omega) (by omega) hP1.str).mono ?_
    rintro e w2 ⟨r2, ⟨hr3, hr4⟩, rfl, hs2, hg2⟩
    have hB2 := hP1.blk.gb hg2 hbw
    obtain ⟨u0, u1, u2, f3, f4, f5⟩ := hB2.three
    have hP2 : Pre w b (R + 1) w.heap.size _ _ _ _ w2 := ⟨hs2, hB2, gb_trans hP1.base hg2⟩
    go_wp2_with fail
    refine bodyPost_ret (v := adV false 0 (r2 * 251 % 4294967296)) ?_ rfl (adr_close ⟨⟨by omega, by omega⟩, ⟨by omega, by omega⟩, fun _ => ⟨rfl, by omega⟩⟩ ?_)
    · simp [results, Tryz.results17, go_sem, u0, u1, u2]
    · have := (Pre.fin3 hP2 hbw (Nat.le_refl _) (.bool false) (.int .u64 0) (.int .u64 (r2 * 251 % 4294967296))); exact ⟨this.1.le (by omega), this.2⟩
  have b2 : (r == 2) = false := by simp; omega
  go_wp2_with fail
  refine (range_any _ _ _ _ (R + 1) (by omega) (by omega) (by omega) hP1.str).mono ?_
  rintro e w2 ⟨r2, ⟨hr3, hr4⟩, rfl, hs2, hg2⟩
  have hB2 := hP1.blk.gb hg2 hbw
  obtain ⟨u0, u1, u2, f3, f4, f5⟩ := hB2.three
  have hP2 : Pre w b (R + 1) w.heap.size _ _ _ _ w2 := ⟨hs2, hB2, gb_trans hP1.base hg2⟩
  go_wp2_with fail
  refine bodyPost_ret (v := adV false 0 (167772160 + r2)) ?_ rfl (adr_close ⟨⟨by omega, by omega⟩, ⟨by omega, by omega⟩, fun _ => ⟨rfl, by omega⟩⟩ ?_)
  · simp [results, Tryz.results17, go_sem, u0, u1, u2]
  · have := (Pre.fin3 hP2 hbw (Nat.le_refl _) (.bool false) (.int .u64 0) (.int .u64 (167772160 + r2))); exact ⟨this.1.le (by omega), this.2⟩


section
variable {P : Program} {ops : Array Oper} {Q : Exit → Act → World → Prop} {md : Region.Mode} {R : World → World → Prop}

def Does (P : Program) (R : World → World → Prop) (v : Value) (u : World) : Result Next → Prop
  | .ok (.value x) u' => x = v ∧ R u u'
  | .ok .skip u' => undef = v ∧ R u u'
  | .ok (.enter f args) u' => Calls P f args u' fun e u'' => e = .returned v ∧ R u u''
  | _ => False

def StepsTo (P : Program) (ops : Array Oper) (R : World → World → Prop) (o : Oper) (v : Value) (a : Act) (w : World) : Prop :=
  (Region.wanted o (yielded ops a.tmps) = true ∧ ∀ u, R w u → Does P R v u ((execOp a.eval o).run P u)) ∨
  (Region.wanted o (yielded ops a.tmps) = false ∧ v = undef)

theorem StepsTo.wpOp {i : Nat} {o : Oper} {v : Value} {a : Act} {w u : World} (hi : ops[i]? = some o) (hy : StepsTo P ops R o v a w) (hu : R w u) (hr : R u u)
    {K : Act → World → Prop} (h : ∀ u', R u u' → K (a.put o.dst v) u') : wpOp P ops Q i K a u := by
  unfold Go.wpOp
  simp only [hi]
  rcases hy with ⟨hw, hv⟩ | ⟨hw, rfl⟩
  · simp only [hw, if_true]
    refine .inl ?_
    have hd := hv u hu
    unfold Oper.wp
    generalize (execOp a.eval o).run P u = r at hd ⊢
    cases r with
    | ok n u' =>
      cases n <;> simp only [Does, Oper.upon] at hd ⊢
      case value x => obtain ⟨rfl, h1⟩ := hd; exact h _ h1
      case skip => obtain ⟨rfl, h1⟩ := hd; exact h _ h1
      case enter f args =>
        refine Calls.mono hd fun e w'' he => ?_
        obtain ⟨rfl, h1⟩ := he
        exact h _ h1
    | halt x u' => simp only [Does] at hd
  · simp only [hw, Bool.false_eq_true, if_false]; exact h _ hr

theorem StepsTo.of_same {o : Oper} {v : Value} {a a' : Act} {w : World} (hy : StepsTo P ops R o v a w) (he : execOp a'.eval o = execOp a.eval o)
    (hw : Region.wanted o (yielded ops a'.tmps) = Region.wanted o (yielded ops a.tmps)) : StepsTo P ops R o v a' w := by
  unfold StepsTo at *
  rw [he, hw]
  exact hy

theorem StepsTo.later {o : Oper} {v : Value} {a : Act} {w u : World} (ht : ∀ x y z : World, R x y → R y z → R x z) (hy : StepsTo P ops R o v a w) (hu : R w u) : StepsTo P ops R o v a u :=
  hy.imp (fun ⟨hw, hv⟩ => ⟨hw, fun _ hx => hv _ (ht _ _ _ hu hx)⟩) id

theorem wpOp_putR {j : Nat} {oi oj : Oper} {v : Value} (ht : ∀ x y z : World, R x y → R y z → R x z) (hj : ops[j]? = some oj) (hap : oi.apart ops oj = true)
    (hsi : ∀ cs b, oi.op ≠ .select cs b) (hsj : ∀ cs b, oj.op ≠ .select cs b)
    (hQ : ∀ c a w, Q (.panic c) (a.put oi.dst v) w → Q (.panic c) a w) {K : Act → World → Prop} {a : Act} {w u : World} (hu : R w u)
    (hy : StepsTo P ops R oi v a w) (h : wpOp P ops Q j (fun a' w' => R u w' ∧ K a' w') (a.put oi.dst v) u) :
    wpOp P ops Q j (fun a' w' => StepsTo P ops R oi v a' w' ∧ R u w' ∧ K (a'.put oi.dst v) w') a u := by
  obtain ⟨h1, h2, h3⟩ := Oper.apart_spec hap
  have keep : ∀ (a : Act), StepsTo P ops R oi v a w → ∀ x u', R u u' → StepsTo P ops R oi v (a.put oj.dst x) u' := fun a hy x u' hu' =>
    (hy.of_same (execOp_put oi hsi a oj.dst x h3) (wanted_put oi a oj.dst x h3)).later ht (ht _ _ _ hu hu')
  have keepD : ∀ d, StepsTo P ops R oi v { a with defers := d :: a.defers } w := fun d => hy.of_same rfl rfl
  unfold wpOp at *
  simp only [hj] at *
  rw [wanted_put oj a oi.dst v h1] at h
  split
  · rename_i hw
    simp only [hw, if_true] at h
    rcases h with h | ⟨hasks, hlets⟩
    case inr => exact .inr ⟨by unfold Oper.asks at *; rw [execOp_put oj hsj a oi.dst v h1] at hasks; exact hasks, hlets⟩
    refine .inl ?_
    unfold Oper.wp at *
    rw [execOp_put oj hsj a oi.dst v h1] at h
    generalize (execOp a.eval oj).run P u = r at *
    cases r with
    | ok n w' =>
      cases n <;> simp only [Oper.upon] at h ⊢
      case value x => exact ⟨keep a hy x _ h.1, h.1, by rw [← Act.put_comm a v x h2]; exact h.2⟩
      case skip => exact ⟨keep a hy _ _ h.1, h.1, by rw [← Act.put_comm a v undef h2]; exact h.2⟩
      case defer d =>
        refine ⟨keep _ (keepD d) _ _ h.1, h.1, ?_⟩
        rw [← Act.put_comm _ v undef h2, ← Act.put_defers]
        exact h.2
      case enter f args =>
        refine Calls.mono h fun e w'' he => ?_
        cases e with
        | returned x => exact ⟨keep a hy x _ he.1, he.1, by rw [← Act.put_comm a v x h2]; exact he.2⟩
        | panicked c => exact hQ _ _ _ he
        | outgrown => exact he
      case row row args => exact Rows.mono h fun x w'' he => ⟨keep a hy x _ he.1, he.1, by rw [← Act.put_comm a v x h2]; exact he.2⟩
    | halt x w' =>
      cases x <;> simp only [Oper.upon] at h ⊢
      case panic x => exact hQ _ _ _ h
  · rename_i hw
    simp only [hw] at h
    exact ⟨keep a hy _ _ h.1, h.1, by rw [← Act.put_comm a v undef h2]; exact h.2⟩

def lastOps (md : Region.Mode) (ops : Array Oper) (listed : Array Bool) : Bool :=
  (List.range ops.size).all fun j => listed.getD j true || (List.range ops.size).all fun i => !listed.getD i false || ((ops[j]?).map fun o => o.after.any fun e => Region.binds md e && e.on == i).getD false

theorem lastOps_spec {listed : Array Bool} (h : lastOps md ops listed = true) {i j : Nat} {oj : Oper} (hi : i < ops.size) (hj : ops[j]? = some oj) (hun : listed.getD j true = false) (hli : listed.getD i false = true) :
    ∃ e ∈ oj.after, Region.binds md e = true ∧ e.on = i := by
  unfold lastOps at h
  rw [List.all_eq_true] at h
  have h1 := h j (List.mem_range.2 (Array.getElem?_eq_some_iff.1 hj).1)
  rw [hun, Bool.false_or, List.all_eq_true] at h1
  have h2 := h1 i (List.mem_range.2 hi)
  rw [hli, hj] at h2
  simp only [Bool.not_true, Bool.false_or, Option.map_some, Option.getD_some] at h2
  obtain ⟨e, he, hb⟩ := Array.any_eq_true'.1 h2
  simp only [Bool.and_eq_true, beq_iff_eq] at hb
  exact ⟨e, he, hb.1, hb.2⟩

def wpR (P : Program) (md : Region.Mode) (ops : Array Oper) (Q : Exit → Act → World → Prop) (R : World → World → Prop) : Nat → Array Bool → Act → World → Prop
  | 0, listed, a, w => Region.ready md ops listed = [] ∧ ∀ u, R w u → Q .normal a u
  | fuel + 1, listed, a, w => (∀ u, R w u →
    (Region.ready md ops listed = [] → Q .normal a u) ∧
    ∀ i ∈ Region.ready md ops listed, wpOp P ops Q i (fun a' w' => R u w' ∧ wpR P md ops Q R fuel (listed.setIfInBounds i true) a' w') a u) ∨
    (lastOps md ops listed = true ∧ ∀ u, R w u → wpAny P md ops Q (fuel + 1) listed a u)

theorem wpR.later (ht : ∀ x y z : World, R x y → R y z → R x z) : ∀ {fuel : Nat} {listed : Array Bool} {a : Act} {w u : World}, wpR P md ops Q R fuel listed a w → R w u → wpR P md ops Q R fuel listed a u
  | 0, _, _, _, _, h, hu => ⟨h.1, fun x hx => h.2 x (ht _ _ _ hu hx)⟩
  | _ + 1, _, _, _, _, .inl h, hu => .inl fun x hx => h x (ht _ _ _ hu hx)
  | _ + 1, _, _, _, _, .inr h, hu => .inr ⟨h.1, fun x hx => h.2 x (ht _ _ _ hu hx)⟩

theorem wpAny_of_R (hr : ∀ x : World, R x x) : ∀ (fuel : Nat) (listed : Array Bool) (a : Act) (w : World), wpR P md ops Q R fuel listed a w → wpAny P md ops Q fuel listed a w
  | 0, _, _, w, h => ⟨h.1, h.2 w (hr w)⟩
  | fuel + 1, _, _, w, .inl h => ⟨(h w (hr w)).1, fun i hi => wpOp_mono (fun a' w' h' => wpAny_of_R hr fuel _ a' w' h'.2) ((h w (hr w)).2 i hi)⟩
  | _ + 1, _, _, w, .inr h => h.2 w (hr w)

theorem wpR_first (hrr : ∀ x : World, R x x) (ht : ∀ x y z : World, R x y → R y z → R x z) {i : Nat} {oi : Oper} {v : Value} (hi : ops[i]? = some oi) (hsel : ∀ (j : Nat) (o : Oper) cs b, ops[j]? = some o → o.op ≠ .select cs b)
    (hQ : ∀ c a w, Q (.panic c) (a.put oi.dst v) w → Q (.panic c) a w) :
    ∀ (fuel : Nat) (listed : Array Bool) (a : Act) (w : World),
      (∀ j oj, ops[j]? = some oj → j ≠ i → listed.getD j true = false → (∀ e ∈ oj.after, Region.binds md e = true → e.on ≠ i) → oi.apart ops oj = true) →
      i ∈ Region.ready md ops listed → StepsTo P ops R oi v a w →
      wpR P md ops Q R fuel (listed.setIfInBounds i true) (a.put oi.dst v) w → wpR P md ops Q R (fuel + 1) listed a w := by
  intro fuel
  induction fuel with
  | zero =>
    intro listed a w _ hr hy H
    refine .inl fun u hu => ⟨fun h => (by rw [h] at hr; cases hr), fun j hj => ?_⟩
    by_cases hji : j = i
    · subst hji; exact hy.wpOp hi hu (hrr u) fun u' hu' => ⟨hu', H.later ht (ht _ _ _ hu hu')⟩
    · have := ready_mono hj hji
      rw [H.1] at this
      cases this
  | succ fuel ih =>
    intro listed a w hfree hr hy H
    refine .inl fun u hu => ⟨fun h => (by rw [h] at hr; cases hr), fun j hj => ?_⟩
    by_cases hji : j = i
    · subst hji; exact hy.wpOp hi hu (hrr u) fun u' hu' => ⟨hu', H.later ht (ht _ _ _ hu hu')⟩
    · obtain ⟨hjun, oj, hoj, hall⟩ := mem_ready.1 hj
      have hnot : ∀ e ∈ oj.after, Region.binds md e = true → e.on ≠ i := fun e he hb heq => by
        have h1 := hall e he hb
        have h0 := (mem_ready.1 hr).1
        rw [heq] at h1
        rcases Nat.lt_or_ge i listed.size with h' | h'
        · simp [h'] at h0 h1; rw [h0] at h1; cases h1
        · simp [Array.getElem?_eq_none h'] at h1
      rcases H with H | H
      · have h1 := (H u hu).2 j (ready_mono hj hji)
        have h2 := wpOp_putR ht hoj (hfree j oj hoj hji hjun hnot) (fun cs b => hsel i oi cs b hi) (fun cs b => hsel j oj cs b hoj) hQ hu hy h1
        have hfree' : ∀ k ok, ops[k]? = some ok → k ≠ i → (listed.setIfInBounds j true).getD k true = false →
            (∀ e ∈ ok.after, Region.binds md e = true → e.on ≠ i) → oi.apart ops ok = true := fun k ok hk hki hun hno => by
          refine hfree k ok hk hki ?_ hno
          by_cases hjk : j = k
          · subst hjk; exact hjun
          · rw [getD_set_ne true hjk] at hun; exact hun
        refine wpOp_mono (fun a' w' h3 => ⟨h3.2.1, ih (listed.setIfInBounds j true) a' w' hfree' (ready_mono hr (Ne.symm hji)) h3.1 ?_⟩) h2
        rw [Array.setIfInBounds_comm _ _ hji]
        exact h3.2.2
      · exfalso
        have hlt : i < listed.size := by
          rcases Nat.lt_or_ge i listed.size with h' | h'
          · exact h'
          · have h0 := (mem_ready.1 hr).1
            simp [Array.getElem?_eq_none h'] at h0
        obtain ⟨e, he, hb, heq⟩ := lastOps_spec (i := i) H.1 (Array.getElem?_eq_some_iff.1 hi).1 hoj (by rw [getD_set_ne true (Ne.symm hji)]; exact hjun) (by simp [hlt])
        exact hnot e he hb heq
end

section
variable {P : Program} {ops : Array Oper} {Q : Exit → Act → World → Prop} {md : Region.Mode} {r : Option Nat}

def Gb (r : Option Nat) (w u : World) : Prop := w.grownBy u r

theorem ways_begin (r : Option Nat) {id : Nat} {a : Act} {w : World} (hm : P.follows .mixedOrders = true)
    (h : wpR P .any ops Q (Gb r) ops.size (Array.replicate ops.size false) a w.drew) : (Code.region id ops true).wp P Q a w :=
  wp_region_any hm (wpAny_of_R (R := Gb r) (fun x => gb_refl x r) _ _ _ _ h)

theorem ways_take {i : Nat} {oi : Oper} {d : Option Tmp} {v : Value} {fuel : Nat} {listed : Array Bool} {a : Act} {w : World} (hi : ops[i]? = some oi) (hd : oi.dst = d)
    (hs : Region.noSelect ops = true) (hf : Region.free md ops listed i = true) (hr : (Region.ready md ops listed).contains i = true)
    (hQ : ∀ c a w, Q (.panic c) (a.put d v) w → Q (.panic c) a w) (hw : Region.wanted oi (yielded ops a.tmps) = true)
    (hy : ∀ u, w.grownBy u r → (execOp a.eval oi).run P u = .ok (.value v) u)
    (h : wpR P md ops Q (Gb r) fuel (listed.setIfInBounds i true) (a.put d v) w) : wpR P md ops Q (Gb r) (fuel + 1) listed a w := by
  subst hd
  exact wpR_first (R := Gb r) (fun x => gb_refl x r) (fun _ _ _ => gb_trans) hi (Region.noSelect_spec hs) hQ fuel listed a w (Region.free_spec hi hf) (by simpa using hr)
    (.inl ⟨hw, fun u hu => by rw [hy u hu]; exact ⟨rfl, gb_refl u r⟩⟩) h

theorem ways_skip {i : Nat} {oi : Oper} {d : Option Tmp} {fuel : Nat} {listed : Array Bool} {a : Act} {w : World} (hi : ops[i]? = some oi) (hd : oi.dst = d)
    (hs : Region.noSelect ops = true) (hf : Region.free md ops listed i = true) (hr : (Region.ready md ops listed).contains i = true)
    (hQ : ∀ c a w, Q (.panic c) (a.put d undef) w → Q (.panic c) a w) (hw : Region.wanted oi (yielded ops a.tmps) = false)
    (h : wpR P md ops Q (Gb r) fuel (listed.setIfInBounds i true) (a.put d undef) w) : wpR P md ops Q (Gb r) (fuel + 1) listed a w := by
  subst hd
  exact wpR_first (R := Gb r) (fun x => gb_refl x r) (fun _ _ _ => gb_trans) hi (Region.noSelect_spec hs) hQ fuel listed a w (Region.free_spec hi hf) (by simpa using hr) (.inr ⟨hw, rfl⟩) h

theorem ways_one {i : Nat} {o : Oper} {fuel : Nat} {listed : Array Bool} {a : Act} {w : World} (ho : ops[i]? = some o) (hr : Region.ready md ops listed = [i]) (hw : Region.wanted o (yielded ops a.tmps) = true)
    (h : ∀ u, w.grownBy u r → ∀ K' : Act → World → Prop, Shut (∀ a' u', u.grownBy u' r → wpR P md ops Q (Gb r) fuel (listed.setIfInBounds i true) a' u' → K' a' u') → Oper.wp P o a u K' Q) :
    wpR P md ops Q (Gb r) (fuel + 1) listed a w := .inl fun u hu => by
  refine ⟨fun h0 => (by rw [h0] at hr; cases hr), fun j hj => ?_⟩
  rw [hr] at hj
  obtain rfl : j = i := by simpa using hj
  refine wpOp_step ho (fun K' hK => ?_)
  rw [if_pos hw]
  exact h u hu K' (fun a' u' hg hR => hK a' u' ⟨hg, hR⟩)

theorem ways_done {listed : Array Bool} {a : Act} {w : World} (hr : Region.ready md ops listed = []) (h : ∀ u, w.grownBy u r → Q .normal a u) : ∀ fuel, wpR P md ops Q (Gb r) fuel listed a w
  | 0 => ⟨hr, h⟩
  | _ + 1 => .inl fun u hu => ⟨fun _ => h u hu, by rw [hr]; simp⟩

end
end Go.Proofs.YtmgdkefoehlamaaGreatDoor
