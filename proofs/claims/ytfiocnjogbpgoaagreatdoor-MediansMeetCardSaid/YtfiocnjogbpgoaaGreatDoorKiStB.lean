/- Least lists of blocks are those that the runs of their numbers are cut into; how many they are (pure). -/
import Derived.Test.YtfiocnjogbpgoaaGreatDoorRows
import Derived.WalkKit
import Derived.WalkSpells
import Derived.WalkLawsBesides
import Derived.Lib.Hide
import Derived.Deep.QuietTactic
import Derived.BigQuiet
import Derived.Deep.RegionWith
namespace Go.Proofs.YtfiocnjogbpgoaaGreatDoor
open Go.RowKit

/-- An int for which P holds is returned, and the world is as it was. -/
def SomeInt (P : Int → Prop) (w : World) (e : Ending) (w' : World) : Prop := ∃ r : Int, P r ∧ e = .returned (.int .i64 r) ∧ w = w'

theorem tmod_lo (x n : Int) (h : 1 ≤ n) : -n < x.tmod n := by
  have := Int.natAbs_tmod x n
  have h3 : (x.tmod n).natAbs < n.natAbs := by
    rw [this]; exact Nat.mod_lt _ (by omega)
  omega
theorem tmod_hi (x n : Int) (h : 1 ≤ n) : x.tmod n < n := Int.tmod_lt_of_pos x (by omega)

set_option maxHeartbeats 400000 in
/-- Below at n from 1 on: a number below n, whatever x is. -/
theorem below_any (x n : Int) (w : World) (h1 : 1 ≤ n) (h2 : n ≤ 4611686018427387904) :
    Calls Tryz.prog 69 #[.int .i64 x, .int .i64 n] w (SomeInt (fun r => 0 ≤ r ∧ r < n) w) := by
  have lo := tmod_lo x n h1
  have hi := tmod_hi x n h1
  go_enter Tryz.func69, Tryz.ntmps69
  go_wp2
  · go_ret
    exact ⟨_, ⟨by omega, by omega⟩, rfl, rfl⟩
  · go_ret
    exact ⟨_, ⟨by omega, by omega⟩, rfl, rfl⟩

/-- What Next leaves: its counter is one more; nothing else has turned. -/
def NextPost (P : Int → Prop) (w : World) (b k : Nat) (e : Ending) (w' : World) : Prop :=
  ∃ m, SomeInt P ((w.setCell ⟨b, 1, none⟩ (.int .i64 ((k : Int) + 1))).drewN m) e w'

set_option maxHeartbeats 400000 in
theorem next_some (n : Int) (w : World) (b xb off len cap k : Nat) (zs : List Int) (h1 : 1 ≤ n) (h2 : n ≤ 4611686018427387904)
    (hk : k ≤ 4611686018427387904) (hlen : 1 ≤ len) (_hle : len ≤ cap) (_hcap : cap ≤ maxLen) (hne : xb ≠ b)
    (hL : w.cell? ⟨b, 0, none⟩ = some (.slice (some ⟨xb, off, none⟩) len cap)) (hA : w.cell? ⟨b, 1, none⟩ = some (.int .i64 k)) (hF : w.frozen? ⟨b, 1, none⟩ = false)
    (hz : ∀ i, i < len → w.cell? ⟨xb, off + i, none⟩ = some (.int .i64 (zs.getD i 0))) :
    Calls Tryz.prog 26 #[.pointer (some ⟨b, 0, none⟩), .int .i64 n] w (NextPost (fun r => 0 ≤ r ∧ r < n) w b k) := by
  unfold maxLen at _hcap
  have hm : k % len < len := Nat.mod_lt _ (by omega)
  have hzz := hz (k % len) hm
  have hl0 : ((len : Int) == 0) = false := by simp; omega
  clear hz
  go_enter Tryz.func26, Tryz.ntmps26
  go_wp2_with fail
  go_quiet (fail)
  go_wp2_with fail
  go_quiet (fail)
  go_wp2_with fail
  refine (below_any _ _ _ (by omega) (by omega)).mono ?_
  rintro e w' ⟨r1, hr1, rfl, rfl⟩
  go_wp2_with fail
  refine (below_any _ _ _ (by omega) (by omega)).mono ?_
  rintro e w' ⟨r2, hr2, rfl, rfl⟩
  go_wp2_with fail
  go_ret
  exact ⟨_, _, hr2, rfl, rfl⟩

set_option maxHeartbeats 400000 in
theorem next_none (n : Int) (w : World) (b k : Nat) (h1 : 1 ≤ n) (h2 : n ≤ 4611686018427387904)
    (hk : k ≤ 4611686018427387904) (a : Option Addr) (cap : Nat)
    (hL : w.cell? ⟨b, 0, none⟩ = some (.slice a 0 cap)) (hA : w.cell? ⟨b, 1, none⟩ = some (.int .i64 k)) (hF : w.frozen? ⟨b, 1, none⟩ = false) :
    Calls Tryz.prog 26 #[.pointer (some ⟨b, 0, none⟩), .int .i64 n] w (NextPost (fun r => 0 ≤ r ∧ r < n) w b k) := by
  go_enter Tryz.func26, Tryz.ntmps26
  go_wp2_with fail
  refine (below_any _ _ _ (by omega) (by omega)).mono ?_
  rintro e w' ⟨r1, hr1, rfl, rfl⟩
  go_wp2_with fail
  go_ret
  exact ⟨0, _, hr1, rfl, rfl⟩

/-- Block b is a Stream from which R numbers more can be taken. -/
def Str (w : World) (b R : Nat) : Prop :=
  ∃ (a : Option Addr) (len cap k : Nat) (zs : List Int), k + R ≤ 4611686018427387904 ∧ w.heap[b]? = some (.cells #[.slice a len cap, .int .i64 k] 25 (0, 0)) ∧
    (len = 0 ∨ ∃ xb off, a = some ⟨xb, off, none⟩ ∧ xb < b ∧ len ≤ cap ∧ cap ≤ maxLen ∧ ∀ i, i < len → w.cell? ⟨xb, off + i, none⟩ = some (.int .i64 (zs.getD i 0)))

theorem Str.lt {w : World} {b R : Nat} (h : Str w b R) : b < w.heap.size := by
  obtain ⟨a, len, cap, k, zs, hk, hb, r⟩ := h
  exact (Array.getElem?_eq_some_iff.1 hb).1

theorem Str.le {w : World} {b R R' : Nat} (h : Str w b R) (hk : R' ≤ R) : Str w b R' := by
  obtain ⟨a, len, cap, k, zs, hk', r⟩ := h
  exact ⟨a, len, cap, k, zs, by omega, r⟩

/-- It stays one while no block up to it is written. -/
theorem Str.upto {w w' : World} {b R : Nat} (h : Str w b R) (hb : ∀ j, j ≤ b → w'.heap[j]? = w.heap[j]?) : Str w' b R := by
  obtain ⟨a, len, cap, k, zs, hk, h1, h2⟩ := h
  refine ⟨a, len, cap, k, zs, hk, by rw [hb b (Nat.le_refl _)]; exact h1, ?_⟩
  rcases h2 with h2 | ⟨xb, off, ha, hlt, hl, hc, hz⟩
  · exact .inl h2
  · exact .inr ⟨xb, off, ha, hlt, hl, hc, fun i hi => by rw [World.cell?_of_block (w := w) (hb xb (by omega))]; exact hz i hi⟩

theorem Str.below {w w' : World} {b R : Nat} (h : Str w b R) (hb : Below w.heap.size w w') : Str w' b R :=
  have := h.lt
  h.upto fun j hj => hb.block j (by omega)

theorem Str.grown {w w' : World} {b R r : Nat} (h : Str w b R) (hg : w.grownBy w' (some r)) (hr : b < r) : Str w' b R :=
  have := h.lt
  h.upto fun j hj => hg.block j (by omega) (by intro e; cases e; omega)

theorem Str.alloc {w : World} {b R : Nat} (h : Str w b R) (o : Obj) : Str (w.alloc o) b R :=
  h.below (.alloc (.refl _ _) (Nat.le_refl _) _)

theorem Str.drewN {w : World} {b R m : Nat} (h : Str w b R) : Str (w.drewN m) b R := h.upto fun _ _ => rfl
theorem Str.drew {w : World} {b R : Nat} (h : Str w b R) : Str w.drew b R := h.upto fun _ _ => rfl
theorem Str.setCell {w : World} {b R : Nat} (h : Str w b R) {p : Addr} (hp : b < p.block) (v : Value) : Str (w.setCell p v) b R :=
  h.upto fun j hj => Below.heap_setCell _ _ _ _ (by omega)

/-- A step of the stream b: a number for which P holds, and of old memory only b has turned. -/
def NumPost (P : Int → Prop) (b R : Nat) (w : World) (e : Ending) (w' : World) : Prop :=
  ∃ r : Int, P r ∧ e = .returned (.int .i64 r) ∧ Str w' b R ∧ w.grownBy w' (some b)

theorem gb_refl (w : World) (r : Option Nat) : w.grownBy w r := ⟨rfl, rfl, rfl, Nat.le_refl _, fun _ _ _ => rfl⟩
theorem gb_trans {a b c : World} {r : Option Nat} (h : a.grownBy b r) (k : b.grownBy c r) : a.grownBy c r :=
  ⟨k.os.trans h.os, k.tape.trans h.tape, k.output.trans h.output, Nat.le_trans h.size k.size, fun i hi hne => (k.block i (by have := h.size; omega) hne).trans (h.block i hi hne)⟩
theorem gb_alloc {a b : World} {r : Option Nat} (h : a.grownBy b r) (o : Obj) : a.grownBy (b.alloc o) r := gb_trans h (World.grownBy_alloc _ _ _)
theorem gb_drewN {a b : World} {r : Option Nat} {m : Nat} (h : a.grownBy b r) : a.grownBy (b.drewN m) r := ⟨h.os, h.tape, h.output, h.size, h.block⟩
theorem gb_drew {a b : World} {r : Option Nat} (h : a.grownBy b r) : a.grownBy b.drew r := ⟨h.os, h.tape, h.output, h.size, h.block⟩
theorem gb_below {a b c : World} {r : Option Nat} (h : a.grownBy b r) (k : Below b.heap.size b c) : a.grownBy c r :=
  ⟨k.os.trans h.os, k.tape.trans h.tape, k.output.trans h.output, Nat.le_trans h.size k.size, fun i hi hne => (k.block i (by have := h.size; omega)).trans (h.block i hi hne)⟩
theorem gb_toBelow {a b : World} {r B : Nat} (h : a.grownBy b (some r)) (hB : B ≤ r) (hr : r ≤ a.heap.size) : Below B a b :=
  ⟨h.os, h.tape, h.output, h.size, fun k hk => h.block k (by omega) (by intro e; cases e; omega)⟩
theorem gb_heapAt {w w' : World} {row : Option Nat} (hg : w.grownBy w' row) {j : Nat} {o : Obj} (h : w.heap[j]? = some o) (hne : some j ≠ row) : w'.heap[j]? = some o :=
  (hg.block j (Array.getElem?_eq_some_iff.1 h).1 hne).trans h

theorem Str.of_next {w : World} {b : Nat} {a : Option Addr} {len cap k R m : Nat} {zs : List Int} (hk : k + (R + 1) ≤ 4611686018427387904) (hb : w.heap[b]? = some (.cells #[.slice a len cap, .int .i64 k] 25 (0, 0)))
    (h2 : len = 0 ∨ ∃ xb off, a = some ⟨xb, off, none⟩ ∧ xb < b ∧ len ≤ cap ∧ cap ≤ maxLen ∧ ∀ i, i < len → w.cell? ⟨xb, off + i, none⟩ = some (.int .i64 (zs.getD i 0))) :
    Str ((w.setCell ⟨b, 1, none⟩ (.int .i64 ((k : Int) + 1))).drewN m) b R ∧ w.grownBy ((w.setCell ⟨b, 1, none⟩ (.int .i64 ((k : Int) + 1))).drewN m) (some b) := by
  refine ⟨⟨a, len, cap, k + 1, zs, by omega, ?_, ?_⟩, ⟨rfl, rfl, rfl, by simp [World.setCell], fun i hi hne => ?_⟩⟩
  · simp [World.setCell, Array.getElem?_modify, hb, World.drewN]
  · rcases h2 with h2 | ⟨xb, off, ha, hlt, hl, hc, hz⟩
    · exact .inl h2
    · refine .inr ⟨xb, off, ha, hlt, hl, hc, fun i hi => ?_⟩
      have := World.cell?_of_block (w := w) (w' := (w.setCell ⟨b, 1, none⟩ (.int .i64 ((k : Int) + 1))).drewN m) (a := ⟨xb, off + i, none⟩) (Below.heap_setCell w ⟨b, 1, none⟩ _ xb (by simp; omega))
      rw [this]; exact hz i hi
  · exact Below.heap_setCell w ⟨b, 1, none⟩ _ i (by intro e; simp at e; exact hne (by rw [e]))

theorem next_any (n : Int) (w : World) (b R : Nat) (h1 : 1 ≤ n) (h2 : n ≤ 4611686018427387904) (hs : Str w b (R + 1)) :
    Calls Tryz.prog 26 #[.pointer (some ⟨b, 0, none⟩), .int .i64 n] w (NumPost (fun r => 0 ≤ r ∧ r < n) b R w) := by
  obtain ⟨a, len, cap, k, zs, hk, hb, r⟩ := hs
  have c0 : w.cell? ⟨b, 0, none⟩ = some (.slice a len cap) := by rw [cell_of_row w b 0 _ _ _ hb]; rfl
  have c1 : w.cell? ⟨b, 1, none⟩ = some (.int .i64 k) := by rw [cell_of_row w b 1 _ _ _ hb]; rfl
  have f1 : w.frozen? ⟨b, 1, none⟩ = false := frozen_of_row w b 1 _ _ hb
  rcases r with rfl | ⟨xb, off, rfl, hlt, hl, hc, hz⟩
  · refine (next_none n w b k h1 h2 (by omega) a cap c0 c1 f1).mono ?_
    rintro e w' ⟨m, r, hr, rfl, rfl⟩
    exact ⟨r, hr, rfl, Str.of_next (zs := zs) hk hb (.inl rfl)⟩
  · by_cases h0 : len = 0
    · subst h0
      refine (next_none n w b k h1 h2 (by omega) _ cap c0 c1 f1).mono ?_
      rintro e w' ⟨m, r, hr, rfl, rfl⟩
      exact ⟨r, hr, rfl, Str.of_next (zs := zs) hk hb (.inl rfl)⟩
    · refine (next_some n w b xb off len cap k zs h1 h2 (by omega) (by omega) hl hc (by omega) c0 c1 f1 hz).mono ?_
      rintro e w' ⟨m, r, hr, rfl, rfl⟩
      exact ⟨r, hr, rfl, Str.of_next (zs := zs) hk hb (.inr ⟨xb, off, rfl, hlt, hl, hc, hz⟩)⟩

/-- Block p holds just these cells, and none of them is frozen. -/
def Blk (w : World) (p : Nat) (cs : List Value) (t : TypeId) : Prop := w.heap[p]? = some (.cells cs.toArray t (0, 0))
theorem Blk.new (w : World) (cs : List Value) (t : TypeId) : Blk (w.alloc (.cells cs.toArray t)) w.heap.size cs t := heap_alloc_new w _
theorem Blk.lt {w : World} {p : Nat} {cs : List Value} {t : TypeId} (h : Blk w p cs t) : p < w.heap.size := (Array.getElem?_eq_some_iff.1 h).1
theorem Blk.below {w w' : World} {p : Nat} {cs : List Value} {t : TypeId} (h : Blk w p cs t) (k : Below w.heap.size w w') : Blk w' p cs t := (k.block p h.lt).trans h
theorem Blk.alloc {w : World} {p : Nat} {cs : List Value} {t : TypeId} (h : Blk w p cs t) (o : Obj) : Blk (w.alloc o) p cs t := (Below.heap_alloc _ _ _ h.lt).trans h
theorem Blk.drew {w : World} {p : Nat} {cs : List Value} {t : TypeId} (h : Blk w p cs t) : Blk w.drew p cs t := h
theorem Blk.drewN {w : World} {p m : Nat} {cs : List Value} {t : TypeId} (h : Blk w p cs t) : Blk (w.drewN m) p cs t := h
theorem Blk.gb {w w' : World} {b p : Nat} {cs : List Value} {t : TypeId} (h : Blk w p cs t) (hg : w.grownBy w' (some b)) (hb : b < p) : Blk w' p cs t := gb_heapAt hg h (by intro e; cases e; omega)
theorem Blk.other {w : World} {p : Nat} {cs : List Value} {t : TypeId} (h : Blk w p cs t) {a : Addr} (ha : p ≠ a.block) (v : Value) : Blk (w.setCell a v) p cs t := (Below.heap_setCell _ _ _ _ ha).trans h
theorem Blk.set {w : World} {p : Nat} {cs : List Value} {t : TypeId} (h : Blk w p cs t) (i : Nat) (v : Value) : Blk (w.setCell ⟨p, i, none⟩ v) p (cs.set i v) t := by
  unfold Blk at *
  simp only [World.setCell, Array.getElem?_modify, if_pos, h, Option.map_some]
  simp
theorem Blk.cell {w : World} {p : Nat} {cs : List Value} {t : TypeId} (h : Blk w p cs t) {i : Nat} {v : Value} (hi : cs[i]? = some v) : w.cell? ⟨p, i, none⟩ = some v := by
  rw [cell_of_row w p i _ _ _ h]; simpa using hi
theorem Blk.free {w : World} {p : Nat} {cs : List Value} {t : TypeId} (h : Blk w p cs t) (i : Nat) : w.frozen? ⟨p, i, none⟩ = false := frozen_of_row w p i _ _ h
theorem Blk.three {w : World} {p : Nat} {x y z : Value} {t : TypeId} (h : Blk w p [x, y, z] t) :
    w.cell? ⟨p, 0, none⟩ = some x ∧ w.cell? ⟨p, 1, none⟩ = some y ∧ w.cell? ⟨p, 2, none⟩ = some z ∧ w.frozen? ⟨p, 0, none⟩ = false ∧ w.frozen? ⟨p, 1, none⟩ = false ∧ w.frozen? ⟨p, 2, none⟩ = false :=
  ⟨h.cell rfl, h.cell rfl, h.cell rfl, h.free _, h.free _, h.free _⟩
/-- An element of a block of numbers. -/
theorem Blk.at {w : World} {p : Nat} {zs : List Int} {k : IntKind} {t : TypeId} (h : Blk w p (zs.map (Value.int k)) t) (r : Int) (h1 : 0 ≤ r) (h2 : r < zs.length) :
    ∃ v, v ∈ zs ∧ w.cell? ⟨p, r.toNat, none⟩ = some (.int k v) := by
  have hi : r.toNat < zs.length := by omega
  exact ⟨zs[r.toNat], List.getElem_mem hi, h.cell (by simp [hi])⟩

set_option maxHeartbeats 400000 in
theorem range_any (lo hi : Int) (w : World) (b R : Nat) (h1 : lo ≤ hi) (h2 : -1152921504606846976 ≤ lo) (h3 : hi ≤ 1152921504606846976) (hs : Str w b (R + 1)) :
    Calls Tryz.prog 15 #[.pointer (some ⟨b, 0, none⟩), .int .i64 lo, .int .i64 hi] w (NumPost (fun r => lo ≤ r ∧ r ≤ hi) b R w) := by
  go_enter Tryz.func15, Tryz.ntmps15
  go_wp2_with fail
  refine (next_any _ _ _ _ (by omega) (by omega) hs).mono ?_
  rintro e w' ⟨r, ⟨hr1, hr2⟩, rfl, hs', hg⟩
  go_wp2_with fail
  go_ret
  exact ⟨_, ⟨by omega, by omega⟩, rfl, hs', hg⟩

end Go.Proofs.YtfiocnjogbpgoaaGreatDoor
namespace Go.Proofs.YtfiocnjogbpgoaaGreatDoor
open Go.RowKit

/-- A number of 64 bits. -/
def U64 (x : Int) : Prop := 0 ≤ x ∧ x < 18446744073709551616
/-- A stream b and a younger block p of three cells; since w0 nothing old but the stream has turned. -/
structure Pre (w0 : World) (b R p : Nat) (x y z : Value) (t : TypeId) (w : World) : Prop where
  str : Str w b R
  blk : Blk w p [x, y, z] t
  base : w0.grownBy w (some b)
theorem Pre.alloc {w0 : World} {b R p : Nat} {x y z : Value} {t : TypeId} {w : World} (h : Pre w0 b R p x y z t w) (o : Obj) : Pre w0 b R p x y z t (w.alloc o) := ⟨h.str.alloc o, h.blk.alloc o, gb_alloc h.base o⟩
theorem Pre.drew {w0 : World} {b R p : Nat} {x y z : Value} {t : TypeId} {w : World} (h : Pre w0 b R p x y z t w) : Pre w0 b R p x y z t w.drew := ⟨h.str.drew, h.blk.drew, gb_drew h.base⟩
end Go.Proofs.YtfiocnjogbpgoaaGreatDoor
namespace Go.Proofs.YtfiocnjogbpgoaaGreatDoor

end Go.Proofs.YtfiocnjogbpgoaaGreatDoor
namespace Go.Proofs.YtfiocnjogbpgoaaGreatDoor

/-- A block: 2^k numbers from a on. -/
abbrev Bk := Nat × Nat
/-- A block can be taken there. -/
def Fits (a e k : Nat) : Prop := 2 ^ k ∣ a ∧ a + 2 ^ k ≤ e
instance (a e k : Nat) : Decidable (Fits a e k) := by unfold Fits; infer_instance

/-- Two blocks lie apart, and are no halves of a longer one. -/
def Apart (p q : Bk) : Prop := p.1 + 2 ^ p.2 ≤ q.1 ∧ ¬ (p.1 + 2 ^ p.2 = q.1 ∧ p.2 = q.2 ∧ 2 ^ (p.2 + 1) ∣ p.1)
instance (p q : Bk) : Decidable (Apart p q) := by unfold Apart; infer_instance
/-- A least list of blocks: neighbours are apart. -/
def LeastL : List Bk → Prop
  | p :: q :: r => Apart p q ∧ LeastL (q :: r)
  | _ => True
theorem LeastL.tail {p : Bk} {l : List Bk} (h : LeastL (p :: l)) : LeastL l := by
  cases l with
  | nil => trivial
  | cons q r => exact h.2

end Go.Proofs.YtfiocnjogbpgoaaGreatDoor
namespace Go.Proofs.YtfiocnjogbpgoaaGreatDoor

/-- A row of numbers from a on ahead of e, all of one length of address. -/
def OkX (a e : Nat) : Prop := e ≤ 2 ^ 32 ∨ (2 ^ 128 ≤ a ∧ e ≤ 2 ^ 129)
theorem OkX.small {a e : Nat} (h : OkX a e) : e - a < 2 ^ 129 := by unfold OkX at h; omega
end Go.Proofs.YtfiocnjogbpgoaaGreatDoor
