/- Texts of addresses: the numeral of a group, the longest row of zeros as the program and as the reference seek it. -/
import Derived.Lib.Join
import Derived.Lib.ItoaNum
namespace Go.Proofs.YtokeeimppbiokaaGreatDoor

/-- A digit to base 16. -/
def hexc (k : Nat) : UInt8 := UInt8.ofNat (if k < 10 then 48 + k else 87 + k)
/-- The numeral of a number below 2^16 to base 16. -/
def hexL (u : Nat) : List UInt8 :=
  if u < 16 then [hexc u] else if u < 256 then [hexc (u / 16), hexc (u % 16)] else if u < 4096 then [hexc (u / 256), hexc (u / 16 % 16), hexc (u % 16)]
  else [hexc (u / 4096), hexc (u / 256 % 16), hexc (u / 16 % 16), hexc (u % 16)]

theorem hexc_zero : ∀ k, k < 16 → (hexc k = 48 ↔ k = 0) := by decide
theorem hexL_zero (u : Nat) (h : u < 65536) : hexL u = [48] ↔ u = 0 := by
  unfold hexL
  by_cases h1 : u < 16
  · rw [if_pos h1]
    simp [hexc_zero u h1]
  · rw [if_neg h1]
    constructor
    · intro e
      split at e
      · simp at e
      · split at e <;> simp at e
    · intro e; omega
theorem hexL_length (u : Nat) : (hexL u).length ≤ 4 := by
  unfold hexL
  split
  · simp
  · split
    · simp
    · split <;> simp

/-- How many zeros stand from place i on. -/
def runZ (z : List Bool) (i : Nat) : Nat := ((z.drop i).takeWhile id).length
/-- One step of the program's search. -/
def lzStep (z : List Bool) (acc : Nat × Nat) (i : Nat) : Nat × Nat := if acc.2 < runZ z i then (i, runZ z i) else acc
/-- The program's search over the places below k. -/
def lzTo (z : List Bool) (k : Nat) : Nat × Nat := (List.range k).foldl (lzStep z) (0, 0)
theorem lzTo_succ (z : List Bool) (k : Nat) : lzTo z (k + 1) = lzStep z (lzTo z k) k := by
  unfold lzTo; rw [List.range_succ, List.foldl_append]; rfl

/-- Are there n zeros from place i on? -/
def allZ (z : List Bool) (n i : Nat) : Bool := ((z.drop i).take n).all id
/-- The reference's search for n zeros, with k places left. -/
def refI (z : List Bool) (n : Nat) : Nat → Option (Nat × Nat)
  | 0 => none
  | k + 1 => if allZ z n (8 - n - k) then some (8 - n - k, n) else refI z n k
/-- The reference's search from m + 1 zeros down to two. -/
def refN (z : List Bool) : Nat → Option (Nat × Nat)
  | 0 => none
  | m + 1 => match refI z (m + 2) (7 - m) with
    | some p => some p
    | none => refN z m

def zTwo (p : Nat × Nat) : Option (Nat × Nat) := if p.2 < 2 then none else some p

theorem ref_lz8 : ∀ a b c d e f g h : Bool, refN [a, b, c, d, e, f, g, h] 7 = zTwo (lzTo [a, b, c, d, e, f, g, h] 8) := by decide +kernel
theorem list8 {α : Type} (l : List α) (h : l.length = 8) : ∃ a b c d e f g i, l = [a, b, c, d, e, f, g, i] := by
  match l, h with
  | [a, b, c, d, e, f, g, i], _ => exact ⟨a, b, c, d, e, f, g, i, rfl⟩
theorem ref_lz (z : List Bool) (h : z.length = 8) : refN z 7 = zTwo (lzTo z 8) := by
  obtain ⟨a, b, c, d, e, f, g, i, rfl⟩ := list8 z h
  exact ref_lz8 a b c d e f g i
theorem lz_in8 : ∀ a b c d e f g h : Bool, (lzTo [a, b, c, d, e, f, g, h] 8).1 + (lzTo [a, b, c, d, e, f, g, h] 8).2 ≤ 8 := by decide +kernel
theorem lz_in (z : List Bool) (h : z.length = 8) : (lzTo z 8).1 + (lzTo z 8).2 ≤ 8 := by
  obtain ⟨a, b, c, d, e, f, g, i, rfl⟩ := list8 z h
  exact lz_in8 a b c d e f g i

/-- The text of eight groups, where the row of zeros is the one given. -/
def sixText (p : Option (Nat × Nat)) (gs : List Nat) : List UInt8 := match p with
  | none => Lib.join (gs.map hexL) [58]
  | some (i, n) => Lib.join ((gs.take i).map hexL) [58] ++ [58, 58] ++ Lib.join ((gs.drop (i + n)).map hexL) [58]
/-- Which groups are zero. -/
def flagsZ (gs : List Nat) : List Bool := gs.map (· == 0)
theorem flagsZ_length (gs : List Nat) : (flagsZ gs).length = gs.length := by simp [flagsZ]
/-- The text of four bytes. -/
def fourText (n : Nat) : List UInt8 := Lib.join [Lib.decDigits (n / 16777216 % 256), Lib.decDigits (n / 65536 % 256), Lib.decDigits (n / 256 % 256), Lib.decDigits (n % 256)] [46]
end Go.Proofs.YtokeeimppbiokaaGreatDoor
