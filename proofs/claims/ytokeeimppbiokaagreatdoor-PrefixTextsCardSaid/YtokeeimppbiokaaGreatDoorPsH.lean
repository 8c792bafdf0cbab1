/- only: a string of digits to base 16. -/
import Derived.Test.YtokeeimppbiokaaGreatDoorPsG
import Derived.Shelf.Strings.SlTrimAscii
namespace Go.Proofs.YtokeeimppbiokaaGreatDoor
open Go.RowKit

def hexes : List UInt8 := [48, 49, 50, 51, 52, 53, 54, 55, 56, 57, 97, 98, 99, 100, 101, 102, 65, 66, 67, 68, 69, 70]
set_option maxRecDepth 100000 in
theorem hexes_all : ∀ n, n < 256 → hexes.contains (UInt8.ofNat n) = isHex (UInt8.ofNat n) := by decide
theorem hexes_is (c : UInt8) : hexes.contains c = isHex c := by
  have := hexes_all c.toNat c.toNat_lt
  rwa [show UInt8.ofNat c.toNat = c by simp] at this
theorem dropWhile_nil {α : Type} (p : α → Bool) : ∀ l : List α, l.dropWhile p = [] ↔ l.all p = true
  | [] => by simp
  | a :: r => by
    rw [List.dropWhile_cons, List.all_cons]
    cases h : p a
    · simp
    · simpa using dropWhile_nil p r
theorem dropWhile_head {α : Type} (p : α → Bool) : ∀ (l : List α) (a : α) (r : List α), l.dropWhile p = a :: r → p a = false
  | [], _, _, h => by cases h
  | b :: l, a, r, h => by
    rw [List.dropWhile_cons] at h
    split at h
    · exact dropWhile_head p l a r h
    · rename_i hb; cases h; simpa using hb
theorem trimS_nil (l cs : List UInt8) : Lib.trimS l cs = [] ↔ l.all (cs.contains ·) = true := by
  unfold Lib.trimS Lib.trimLeftS
  rw [dropWhile_nil]
  unfold Lib.trimRightS
  rw [List.all_reverse]
  constructor
  · intro h
    cases hd : l.reverse.dropWhile (cs.contains ·) with
    | nil => rw [dropWhile_nil, List.all_reverse] at hd; exact hd
    | cons a r =>
      have h1 := dropWhile_head _ _ _ _ hd
      rw [hd, List.all_cons, h1] at h
      cases h
  · intro h
    have : l.reverse.dropWhile (cs.contains ·) = [] := by rw [dropWhile_nil, List.all_reverse]; exact h
    rw [this]; rfl

theorem only_nil (l : List UInt8) : (Lib.trimS l hexes).isEmpty = l.all isHex := by
  have h := trimS_nil l hexes
  have e : l.all (hexes.contains ·) = l.all isHex := by congr 1; funext c; exact hexes_is c
  rw [e] at h
  cases hb : l.all isHex
  · rw [hb] at h
    cases ht : Lib.trimS l hexes with
    | nil => cases h.1 ht
    | cons _ _ => rfl
  · rw [h.2 hb]; rfl

set_option maxHeartbeats 1000000 in
set_option maxRecDepth 100000 in
theorem only_any (l : List UInt8) (w : World) (hl : l.length ≤ 100000) :
    Calls Tryz.prog 59 #[.string ⟨l.toArray⟩, .string ⟨#[48, 49, 50, 51, 52, 53, 54, 55, 56, 57, 97, 98, 99, 100, 101, 102, 65, 66, 67, 68, 69, 70]⟩] w (GivesV (.bool (l.all isHex)) w) := by
  have HT : Hid (Calls Tryz.prog 80 #[.string ⟨l.toArray⟩, .string ⟨#[48, 49, 50, 51, 52, 53, 54, 55, 56, 57, 97, 98, 99, 100, 101, 102, 65, 66, 67, 68, 69, 70]⟩] w fun e w' => e = .returned (.string ⟨(Lib.trimS l hexes).toArray⟩) ∧ Below w.heap.size w w') := Lib.hid (
    Any.strings_Trim_laid Tryz.lays160 (by kernel_rfl) ⟨l.toArray⟩ ⟨#[48, 49, 50, 51, 52, 53, 54, 55, 56, 57, 97, 98, 99, 100, 101, 102, 65, 66, 67, 68, 69, 70]⟩ w (by rw [Lib.size_eq]; exact Nat.le_trans hl (by decide)) (by decide) (ascii_of_all (by decide)))
  have HN := Lib.hid (only_nil l)
  go_enter Tryz.func59, Tryz.ntmps59
  go_wp2_with fail
  refine HT.out.mono ?_
  rintro e w1 ⟨rfl, hb⟩
  go_wp2_with fail
  go_ret
  exact ⟨ret_eq (congrArg Value.bool HN.out), hb⟩

/-- The reference's reading of a group. -/
theorem groupL_some {p : List UInt8} {g : Nat} (h : groupL p = some g) : 1 ≤ p.length ∧ p.length ≤ 4 ∧ p.all isHex = true ∧ hexB 4294967296 p = some g := by
  have h4 : p.length ≤ 4 := by
    by_cases h4 : p.length ≤ 4
    · exact h4
    · unfold groupL at h; rw [if_neg h4] at h; cases h
  have h' := h
  unfold groupL hexB at h'
  rw [if_pos h4] at h'
  split at h'
  · rename_i k
    refine ⟨?_, h4, k.2.1, by rw [groupL_eq p _ (by decide) h4, h]⟩
    cases p with
    | nil => exact absurd rfl k.1
    | cons _ _ => simp
  · cases h'
theorem groupL_not {p : List UInt8} (h : groupL p = none) : ¬ (1 ≤ p.length ∧ p.length ≤ 4) ∨ p.all isHex = false := by
  by_cases h4 : 1 ≤ p.length ∧ p.length ≤ 4
  · refine .inr ?_
    cases ha : p.all isHex
    · rfl
    · have hl := hexVal_lt p p.length (Nat.le_refl _)
      rw [List.take_length] at hl
      have h' : (16 : Nat) ^ p.length ≤ 16 ^ 4 := Nat.pow_le_pow_right (by decide) h4.2
      unfold groupL hexB at h
      rw [if_pos h4.2, if_pos ⟨fun k => by rw [k] at h4; simp at h4, ha, by omega⟩] at h
      cases h
  · exact .inl h4
end Go.Proofs.YtokeeimppbiokaaGreatDoor
