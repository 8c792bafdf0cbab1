/- Labels of names: what the program and the reference take for one (pure). -/
import Derived.Lib.Join
import Derived.Lib.ItoaNum
import Derived.Lib.AtoiAll
import Derived.Lib.SplitLaws
import Derived.Lib.TrimByte
import Derived.Lib.Strings
import Derived.Shelf.Strings.SlTrimAscii
namespace Go.Proofs.YtfbggfpihiegpaaGreatDoor

def hexc (k : Nat) : UInt8 := UInt8.ofNat (if k < 10 then 48 + k else 87 + k)
def hexL (u : Nat) : List UInt8 :=
  if u < 16 then [hexc u] else if u < 256 then [hexc (u / 16), hexc (u % 16)] else if u < 4096 then [hexc (u / 256), hexc (u / 16 % 16), hexc (u % 16)]
  else [hexc (u / 4096), hexc (u / 256 % 16), hexc (u / 16 % 16), hexc (u % 16)]

theorem hexL_length (u : Nat) : (hexL u).length ≤ 4 := by
  unfold hexL
  split
  · simp
  · split
    · simp
    · split <;> simp

def runZ (z : List Bool) (i : Nat) : Nat := ((z.drop i).takeWhile id).length
def lzStep (z : List Bool) (acc : Nat × Nat) (i : Nat) : Nat × Nat := if acc.2 < runZ z i then (i, runZ z i) else acc
def lzTo (z : List Bool) (k : Nat) : Nat × Nat := (List.range k).foldl (lzStep z) (0, 0)
theorem lzTo_succ (z : List Bool) (k : Nat) : lzTo z (k + 1) = lzStep z (lzTo z k) k := by
  unfold lzTo; rw [List.range_succ, List.foldl_append]; rfl

def zTwo (p : Nat × Nat) : Option (Nat × Nat) := if p.2 < 2 then none else some p

theorem list8 {α : Type} (l : List α) (h : l.length = 8) : ∃ a b c d e f g i, l = [a, b, c, d, e, f, g, i] := by
  match l, h with
  | [a, b, c, d, e, f, g, i], _ => exact ⟨a, b, c, d, e, f, g, i, rfl⟩
theorem lz_in8 : ∀ a b c d e f g h : Bool, (lzTo [a, b, c, d, e, f, g, h] 8).1 + (lzTo [a, b, c, d, e, f, g, h] 8).2 ≤ 8 := by decide +kernel
theorem lz_in (z : List Bool) (h : z.length = 8) : (lzTo z 8).1 + (lzTo z 8).2 ≤ 8 := by
  obtain ⟨a, b, c, d, e, f, g, i, rfl⟩ := list8 z h
  exact lz_in8 a b c d e f g i

def sixText (p : Option (Nat × Nat)) (gs : List Nat) : List UInt8 := match p with
  | none => Lib.join (gs.map hexL) [58]
  | some (i, n) => Lib.join ((gs.take i).map hexL) [58] ++ [58, 58] ++ Lib.join ((gs.drop (i + n)).map hexL) [58]
def flagsZ (gs : List Nat) : List Bool := gs.map (· == 0)
theorem flagsZ_length (gs : List Nat) : (flagsZ gs).length = gs.length := by simp [flagsZ]
def fourText (n : Nat) : List UInt8 := Lib.join [Lib.decDigits (n / 16777216 % 256), Lib.decDigits (n / 65536 % 256), Lib.decDigits (n / 256 % 256), Lib.decDigits (n % 256)] [46]
end Go.Proofs.YtfbggfpihiegpaaGreatDoor
namespace Go.Proofs.YtfbggfpihiegpaaGreatDoor

end Go.Proofs.YtfbggfpihiegpaaGreatDoor
namespace Go.Proofs.YtfbggfpihiegpaaGreatDoor

end Go.Proofs.YtfbggfpihiegpaaGreatDoor
namespace Go.Proofs.YtfbggfpihiegpaaGreatDoor

def pieces (l : List UInt8) (c : UInt8) : List (List UInt8) := Lib.splitK [c] 0 (l.count c) l
theorem pieces_one {l : List UInt8} {c : UInt8} (h : c ∉ l) : pieces l c = [l] := by
  unfold pieces; rw [List.count_eq_zero.2 h]; rfl
theorem index_mid {c : UInt8} (b : List UInt8) : ∀ {a : List UInt8}, c ∉ a → Lib.index (a ++ c :: b) [c] = a.length
  | [], _ => by rw [List.nil_append, Lib.index]; simp [List.isPrefixOf]
  | x :: t, h => by
    have hx : x ≠ c := fun e => h (by rw [e]; exact List.mem_cons_self)
    have ih := index_mid b (a := t) (fun e => h (List.mem_cons_of_mem _ e))
    have hp : ([c] : List UInt8).isPrefixOf (x :: (t ++ c :: b)) = false := by simp [List.isPrefixOf, Ne.symm hx]
    rw [List.cons_append, Lib.index, hp, ih]
    have : ((t.length : Int) == -1) = false := by rw [beq_eq_false_iff_ne]; omega
    rw [this]
    simp
theorem pieces_cons {a b : List UInt8} {c : UInt8} (h : c ∉ a) : pieces (a ++ c :: b) c = a :: pieces b c := by
  unfold pieces
  have hc : (a ++ c :: b).count c = b.count c + 1 := by rw [List.count_append, List.count_eq_zero.2 h, List.count_cons_self]; omega
  rw [hc, Lib.splitK, index_mid b h, if_neg (by rw [beq_iff_eq]; omega)]
  simp
end Go.Proofs.YtfbggfpihiegpaaGreatDoor
namespace Go.Proofs.YtfbggfpihiegpaaGreatDoor

end Go.Proofs.YtfbggfpihiegpaaGreatDoor
