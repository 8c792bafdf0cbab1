/- strings.Split at one byte; four numbers with points between. -/
import Derived.Test.YtmfflcemceonhaaDoorKfCons
import Derived.Test.YtmfflcemceonhaaDoorKfPsA
namespace Go.Proofs.YtmfflcemceonhaaDoor
open Go.RowKit

/-- What stands between the bytes c. -/
def parts (l : List UInt8) (c : UInt8) : List (List UInt8) := (Lib.splitB ⟨#[c]⟩ 0 (Lib.countB ⟨l.toArray⟩ ⟨#[c]⟩) ⟨l.toArray⟩).map (·.data.toList)
/-- A slice of strings is returned, in new memory. -/
def GivesL (ls : List (List UInt8)) (w : World) (e : Ending) (w' : World) : Prop := ∃ A cap, e = .returned (.slice A ls.length cap) ∧ Sl w' A ls.length cap (ls.map sv) ∧ Below w.heap.size w w'

theorem splitB_short (sep : ByteArray) : ∀ (k : Nat) (s : ByteArray), ∀ p ∈ Lib.splitB sep 0 k s, p.size ≤ s.size
  | 0, s => by intro p hp; rw [Lib.splitB_zero] at hp; rw [List.mem_singleton.1 hp]; exact Nat.le_refl _
  | k + 1, s => by
    intro p hp
    unfold Lib.splitB at hp
    split at hp
    · rw [List.mem_singleton.1 hp]; exact Nat.le_refl _
    · rcases List.mem_cons.1 hp with rfl | hp
      · rw [ByteArray.size_extract]; omega
      · have := splitB_short sep k _ p hp
        rw [ByteArray.size_extract] at this; omega
theorem parts_short (l : List UInt8) (c : UInt8) : ∀ p ∈ parts l c, p.length ≤ l.length := by
  intro p hp
  obtain ⟨x, hx, rfl⟩ := List.mem_map.1 hp
  have h := splitB_short _ _ _ x hx
  rw [Lib.size_eq, Lib.size_eq] at h
  simpa using h

theorem ba_back (x : ByteArray) : (⟨x.data.toList.toArray⟩ : ByteArray) = x := by cases x; simp

theorem split_any (l : List UInt8) (c : UInt8) (w : World) (hC : Cons w) (hl : l.length ≤ 100000) :
    Calls Tryd.prog 21 #[.string ⟨l.toArray⟩, .string ⟨#[c]⟩] w (GivesL (parts l c) w) := by
  obtain ⟨m, hm⟩ := hC.maxl
  have hlen := Lib.splitB_all ⟨#[c]⟩ (by show 1 ≤ 1; omega) 0 _ (⟨l.toArray⟩ : ByteArray) rfl
  refine (Tryd.strings_Split ⟨l.toArray⟩ ⟨#[c]⟩ m w (by rw [Lib.size_eq]; exact Nat.lt_of_le_of_lt hl (by decide)) hm (by show 1 ≤ 1; omega)).mono ?_
  rintro e w' ⟨rfl, rfl⟩
  have hn : (parts l c).length = Lib.countB ⟨l.toArray⟩ ⟨#[c]⟩ + 1 := by unfold parts; rw [List.length_map, hlen]
  refine ⟨_, _, by rw [hn], ?_, (Below.refl _ _).alloc (Nat.le_refl _) _⟩
  refine ⟨by simp, by rw [hn]; exact Nat.le_refl _, .inr ⟨w.heap.size, 0, rfl, by simp, fun j u hu => ?_⟩⟩
  rw [Nat.zero_add, World.cell?_alloc_at _ _ _ _ rfl]
  unfold parts at hu
  rw [List.map_map, List.getElem?_map] at hu
  obtain ⟨x, hx, rfl⟩ := Option.map_eq_some_iff.1 hu
  simp only [List.getElem?_toArray, List.getElem?_map, hx, Option.map_some, Function.comp, sv, ba_back]

end Go.Proofs.YtmfflcemceonhaaDoor
