/- What a stream makes: odd numbers, addresses. -/
import Derived.Test.YthjhokicojgpbaaGreatDoorKeLaneA
import Derived.Deep.RegionWith
namespace Go.Proofs.YthjhokicojgpbaaGreatDoor
open Go.RowKit

/-- A number of 64 bits. -/
def U64 (x : Int) : Prop := 0 ≤ x ∧ x < 18446744073709551616
/-- The halves of a right address. -/
def RightA (s : Bool) (hi lo : Int) : Prop := U64 hi ∧ U64 lo ∧ (s = false → hi = 0 ∧ lo < 4294967296)

abbrev adV (s : Bool) (hi lo : Int) : Value := .agg #[.bool s, .int .u64 hi, .int .u64 lo]

/-- A step of the stream b: an address for which P holds. -/
def AdrPost (P : Bool → Int → Int → Prop) (b R : Nat) (w : World) (e : Ending) (w' : World) : Prop :=
  ∃ s hi lo, P s hi lo ∧ e = .returned (adV s hi lo) ∧ Str w' b R ∧ w.grownBy w' (some b)

/-- An element of a list of numbers, as the walk writes it. -/
theorem lit_at (zs : List Int) (k : IntKind) (r : Int) (h1 : 0 ≤ r) (h2 : r < zs.length) : ∃ v, v ∈ zs ∧ ∀ h : r.toNat < (zs.map (Value.int k)).length, (zs.map (Value.int k))[r.toNat]'h = .int k v := by
  have hi : r.toNat < zs.length := by omega
  exact ⟨zs[r.toNat], List.getElem_mem hi, by intro h; simp⟩

theorem lits_ok {v : Int} {zs : List Int} (h : v ∈ zs) (hz : zs.all (fun z => decide (0 ≤ z ∧ z < 18446744073709551616)) = true) : U64 v := by
  have := List.all_eq_true.1 hz v h
  simpa [U64] using this

/-- A stream b and a younger block p of three cells; since w0 nothing old but the stream has turned. -/
structure Pre (w0 : World) (b R p : Nat) (x y z : Value) (t : TypeId) (w : World) : Prop where
  str : Str w b R
  blk : Blk w p [x, y, z] t
  base : w0.grownBy w (some b)
theorem Pre.alloc {w0 : World} {b R p : Nat} {x y z : Value} {t : TypeId} {w : World} (h : Pre w0 b R p x y z t w) (o : Obj) : Pre w0 b R p x y z t (w.alloc o) := ⟨h.str.alloc o, h.blk.alloc o, gb_alloc h.base o⟩
theorem Pre.drew {w0 : World} {b R p : Nat} {x y z : Value} {t : TypeId} {w : World} (h : Pre w0 b R p x y z t w) : Pre w0 b R p x y z t w.drew := ⟨h.str.drew, h.blk.drew, gb_drew h.base⟩
theorem Pre.start {w0 : World} {b R : Nat} (hs : Str w0 b R) (x y z : Value) (t : TypeId) : Pre w0 b R w0.heap.size x y z t (w0.alloc (.cells #[x, y, z] t)) := ⟨hs.alloc _, Blk.new w0 [x, y, z] t, World.grownBy_alloc _ _ _⟩
/-- Behind three stores into the block p. -/
theorem Pre.fin3 {w0 : World} {b R p : Nat} {x y z : Value} {t : TypeId} {w : World} (h : Pre w0 b R p x y z t w) (hb : b < p) (hp : w0.heap.size ≤ p) (u v s : Value) :
    Str (((w.setCell ⟨p, 0, none⟩ u).setCell ⟨p, 1, none⟩ v).setCell ⟨p, 2, none⟩ s) b R ∧ w0.grownBy (((w.setCell ⟨p, 0, none⟩ u).setCell ⟨p, 1, none⟩ v).setCell ⟨p, 2, none⟩ s) (some b) :=
  ⟨((h.str.setCell (p := ⟨p, 0, none⟩) hb u).setCell (p := ⟨p, 1, none⟩) hb v).setCell (p := ⟨p, 2, none⟩) hb s, gb_setNew (p := ⟨p, 2, none⟩) (gb_setNew (p := ⟨p, 1, none⟩) (gb_setNew (p := ⟨p, 0, none⟩) h.base hp u) hp v) hp s⟩

/-- What Next leaves, at a stream and a younger block of three cells. -/
def KeepPost (n : Int) (w0 : World) (b R p : Nat) (x y z : Value) (t : TypeId) (w : World) (e : Ending) (w' : World) : Prop :=
  ∃ r : Int, 0 ≤ r ∧ r < n ∧ e = .returned (.int .i64 r) ∧ Pre w0 b R p x y z t w' ∧ (∀ j o, b < j → j < w.heap.size → w'.cell? ⟨j, o, none⟩ = w.cell? ⟨j, o, none⟩) ∧ w.heap.size ≤ w'.heap.size ∧ w.grownBy w' (some b) ∧ b < w'.heap.size ∧ b ≤ w'.heap.size ∧
   (w'.cell? ⟨p, 0, none⟩ = some x ∧ w'.cell? ⟨p, 1, none⟩ = some y ∧ w'.cell? ⟨p, 2, none⟩ = some z ∧ w'.frozen? ⟨p, 0, none⟩ = false ∧ w'.frozen? ⟨p, 1, none⟩ = false ∧ w'.frozen? ⟨p, 2, none⟩ = false)

theorem next_keep (n : Int) (w w0 : World) (b R p : Nat) (x y z : Value) (t : TypeId) (h1 : 1 ≤ n) (h2 : n ≤ 4611686018427387904) (hbp : b < p) (hp : Pre w0 b (R + 1) p x y z t w) :
    Calls Tryz.prog 51 #[.pointer (some ⟨b, 0, none⟩), .int .i64 n] w (KeepPost n w0 b R p x y z t w) := by
  refine (next_any n w b R h1 h2 hp.str).mono ?_
  rintro e w' ⟨r, ⟨hr1, hr2⟩, rfl, hs, hg⟩
  obtain ⟨hc, _, hz⟩ := gb_rules hg
  have hb := hs.lt
  have hB := hp.blk.gb hg hbp
  exact ⟨r, hr1, hr2, rfl, ⟨hs, hB, gb_trans hp.base hg⟩, hc, hz, hg, hb, by omega, hB.three⟩

end Go.Proofs.YthjhokicojgpbaaGreatDoor
