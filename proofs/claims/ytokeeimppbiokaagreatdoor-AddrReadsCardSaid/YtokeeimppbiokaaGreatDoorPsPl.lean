/- What strings say, as functions on lists of bytes: numbers to base 10 and 16. -/
import Derived.Test.YtokeeimppbiokaaGreatDoorTxtPl
namespace Go.Proofs.YtokeeimppbiokaaGreatDoor

def isDig (c : UInt8) : Bool := decide (48 ≤ (c.toNat : Int)) && decide ((c.toNat : Int) ≤ 57)
def decStep (n : Nat) (c : UInt8) : Nat := n * 10 + (c.toNat - 48)
def decVal (l : List UInt8) : Nat := l.foldl decStep 0
theorem decVal_snoc (l : List UInt8) (c : UInt8) : decVal (l ++ [c]) = decVal l * 10 + (c.toNat - 48) := by simp [decVal, decStep]

/-- A number of at most three digits. -/
def numL (l : List UInt8) : Option Nat :=
  if l = [] ∨ 3 < l.length ∨ (l.head? = some 48 ∧ 1 < l.length) then none else if l.all isDig then some (decVal l) else none
/-- A number of a byte. -/
def byteL (l : List UInt8) : Option Nat := match numL l with
  | some n => if n ≤ 255 then some n else none
  | none => none

theorem take_at {α : Type} {l : List α} {k : Nat} {g : α} (h : l[k]? = some g) : l.take (k + 1) = l.take k ++ [g] := by
  rw [List.take_add_one, h]; rfl
theorem all_at {α : Type} {p : α → Bool} {l : List α} {k : Nat} {g : α} (h : l[k]? = some g) (ha : l.all p = true) : p g = true := List.all_eq_true.1 ha g (List.mem_of_getElem? h)
theorem decVal_take (l : List UInt8) (h : l.all isDig = true) : ∀ k, k ≤ l.length → decVal (l.take k) < 10 ^ k := by
  intro k
  induction k with
  | zero => intro _; simp [decVal]
  | succ k ih =>
    intro hk
    have h1 := ih (by omega)
    have hg : l[k]? = some l[k] := List.getElem?_eq_getElem (by omega)
    have h2 := all_at hg h
    rw [take_at hg, decVal_snoc, Nat.pow_succ]
    unfold isDig at h2
    simp at h2
    omega

/-- A digit to base 16. -/
def hexD (c : UInt8) : Option Nat :=
  if 48 ≤ c.toNat ∧ c.toNat ≤ 57 then some (c.toNat - 48) else if 97 ≤ c.toNat ∧ c.toNat ≤ 102 then some (c.toNat - 87) else if 65 ≤ c.toNat ∧ c.toNat ≤ 70 then some (c.toNat - 55) else none
def isHex (c : UInt8) : Bool := (hexD c).isSome
def hexVal (l : List UInt8) : Nat := l.foldl (fun n c => n * 16 + (hexD c).getD 0) 0
theorem hexVal_snoc (l : List UInt8) (c : UInt8) : hexVal (l ++ [c]) = hexVal l * 16 + (hexD c).getD 0 := by simp [hexVal]
theorem hexD_lt {c : UInt8} {d : Nat} (h : hexD c = some d) : d < 16 := by
  unfold hexD at h
  split at h
  · cases h; omega
  · split at h
    · cases h; omega
    · split at h
      · cases h; omega
      · cases h
theorem hexD_getD (c : UInt8) : (hexD c).getD 0 < 16 := by
  cases h : hexD c with
  | none => simp
  | some d => exact hexD_lt h
theorem hexVal_lt (l : List UInt8) : ∀ k, k ≤ l.length → hexVal (l.take k) < 16 ^ k := by
  intro k
  induction k with
  | zero => intro _; simp [hexVal]
  | succ k ih =>
    intro hk
    have h1 := ih (by omega)
    have hg : l[k]? = some l[k] := List.getElem?_eq_getElem (by omega)
    have h2 := hexD_getD l[k]
    rw [take_at hg, hexVal_snoc, Nat.pow_succ]
    omega
/-- A number to base 16 below m. -/
def hexB (m : Nat) (l : List UInt8) : Option Nat := if l ≠ [] ∧ l.all isHex = true ∧ hexVal l < m then some (hexVal l) else none
/-- A group of an address. -/
def groupL (l : List UInt8) : Option Nat := if l.length ≤ 4 then hexB 65536 l else none
theorem groupL_eq (l : List UInt8) (m : Nat) (hm : 65536 ≤ m) (h4 : l.length ≤ 4) : hexB m l = groupL l := by
  have h := hexVal_lt l l.length (Nat.le_refl _)
  rw [List.take_length] at h
  have h' : (16 : Nat) ^ l.length ≤ 16 ^ 4 := Nat.pow_le_pow_right (by decide) h4
  unfold groupL hexB
  rw [if_pos h4]
  have e1 : hexVal l < m := by omega
  have e2 : hexVal l < 65536 := by omega
  simp [e1, e2]
theorem groupL_lt {l : List UInt8} {g : Nat} (h : groupL l = some g) : g < 65536 := by
  unfold groupL hexB at h
  split at h
  · split at h
    · rename_i hc; cases h; exact hc.2.2
    · cases h
  · cases h
end Go.Proofs.YtokeeimppbiokaaGreatDoor
