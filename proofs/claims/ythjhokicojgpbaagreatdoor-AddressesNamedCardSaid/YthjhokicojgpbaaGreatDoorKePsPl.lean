/- What strings say, as functions on lists of bytes: numbers to base 10 and 16. -/
import Derived.Test.YthjhokicojgpbaaGreatDoorKeTxtPl
namespace Go.Proofs.YthjhokicojgpbaaGreatDoor

def isDig (c : UInt8) : Bool := decide (48 ≤ (c.toNat : Int)) && decide ((c.toNat : Int) ≤ 57)
def decStep (n : Nat) (c : UInt8) : Nat := n * 10 + (c.toNat - 48)
def decVal (l : List UInt8) : Nat := l.foldl decStep 0
/-- A number of at most three digits. -/
def numL (l : List UInt8) : Option Nat :=
  if l = [] ∨ 3 < l.length ∨ (l.head? = some 48 ∧ 1 < l.length) then none else if l.all isDig then some (decVal l) else none
/-- A number of a byte. -/
def byteL (l : List UInt8) : Option Nat := match numL l with
  | some n => if n ≤ 255 then some n else none
  | none => none

/-- A digit to base 16. -/
def hexD (c : UInt8) : Option Nat :=
  if 48 ≤ c.toNat ∧ c.toNat ≤ 57 then some (c.toNat - 48) else if 97 ≤ c.toNat ∧ c.toNat ≤ 102 then some (c.toNat - 87) else if 65 ≤ c.toNat ∧ c.toNat ≤ 70 then some (c.toNat - 55) else none
theorem hexD_lt {c : UInt8} {d : Nat} (h : hexD c = some d) : d < 16 := by
  unfold hexD at h
  split at h
  · cases h; omega
  · split at h
    · cases h; omega
    · split at h
      · cases h; omega
      · cases h
end Go.Proofs.YthjhokicojgpbaaGreatDoor
