/- Labels of names: what the program and the reference take for one (pure). -/
import Derived.Lib.Join
import Derived.Lib.ItoaNum
import Derived.Lib.AtoiAll
import Derived.Lib.SplitLaws
import Derived.Lib.TrimByte
import Derived.Lib.Strings
import Derived.Shelf.Strings.SlTrimAscii
namespace Go.Proofs.YtfiocnjogbpgoaaGreatDoor

/-- A digit to base 16. -/
def hexc (k : Nat) : UInt8 := UInt8.ofNat (if k < 10 then 48 + k else 87 + k)
/-- The numeral of a number below 2^16 to base 16. -/
def hexL (u : Nat) : List UInt8 :=
  if u < 16 then [hexc u] else if u < 256 then [hexc (u / 16), hexc (u % 16)] else if u < 4096 then [hexc (u / 256), hexc (u / 16 % 16), hexc (u % 16)]
  else [hexc (u / 4096), hexc (u / 256 % 16), hexc (u / 16 % 16), hexc (u % 16)]

theorem hexc_zero : ∀ k, k < 16 → (hexc k = 48 ↔ k = 0) := by decide
theorem hexL_zero (u : Nat) (h : u < 65536) : hexL u = [48] ↔ u = 0 := by
  unfold hexL
  by_cases h1 : u < 16
  · rw [if_pos h1]
    simp [hexc_zero u h1]
  · rw [if_neg h1]
    constructor
    · intro e
      split at e
      · simp at e
      · split at e <;> simp at e
    · intro e; omega
theorem hexL_length (u : Nat) : (hexL u).length ≤ 4 := by
  unfold hexL
  split
  · simp
  · split
    · simp
    · split <;> simp

/-- How many zeros stand from place i on. -/
def runZ (z : List Bool) (i : Nat) : Nat := ((z.drop i).takeWhile id).length
/-- One step of the program's search. -/
def lzStep (z : List Bool) (acc : Nat × Nat) (i : Nat) : Nat × Nat := if acc.2 < runZ z i then (i, runZ z i) else acc
/-- The program's search over the places below k. -/
def lzTo (z : List Bool) (k : Nat) : Nat × Nat := (List.range k).foldl (lzStep z) (0, 0)
theorem lzTo_succ (z : List Bool) (k : Nat) : lzTo z (k + 1) = lzStep z (lzTo z k) k := by
  unfold lzTo; rw [List.range_succ, List.foldl_append]; rfl

/-- Are there n zeros from place i on? -/
def allZ (z : List Bool) (n i : Nat) : Bool := ((z.drop i).take n).all id
/-- The reference's search for n zeros, with k places left. -/
def refI (z : List Bool) (n : Nat) : Nat → Option (Nat × Nat)
  | 0 => none
  | k + 1 => if allZ z n (8 - n - k) then some (8 - n - k, n) else refI z n k
/-- The reference's search from m + 1 zeros down to two. -/
def refN (z : List Bool) : Nat → Option (Nat × Nat)
  | 0 => none
  | m + 1 => match refI z (m + 2) (7 - m) with
    | some p => some p
    | none => refN z m

def zTwo (p : Nat × Nat) : Option (Nat × Nat) := if p.2 < 2 then none else some p

theorem ref_lz8 : ∀ a b c d e f g h : Bool, refN [a, b, c, d, e, f, g, h] 7 = zTwo (lzTo [a, b, c, d, e, f, g, h] 8) := by decide +kernel
theorem list8 {α : Type} (l : List α) (h : l.length = 8) : ∃ a b c d e f g i, l = [a, b, c, d, e, f, g, i] := by
  match l, h with
  | [a, b, c, d, e, f, g, i], _ => exact ⟨a, b, c, d, e, f, g, i, rfl⟩
theorem ref_lz (z : List Bool) (h : z.length = 8) : refN z 7 = zTwo (lzTo z 8) := by
  obtain ⟨a, b, c, d, e, f, g, i, rfl⟩ := list8 z h
  exact ref_lz8 a b c d e f g i
theorem lz_in8 : ∀ a b c d e f g h : Bool, (lzTo [a, b, c, d, e, f, g, h] 8).1 + (lzTo [a, b, c, d, e, f, g, h] 8).2 ≤ 8 := by decide +kernel
theorem lz_in (z : List Bool) (h : z.length = 8) : (lzTo z 8).1 + (lzTo z 8).2 ≤ 8 := by
  obtain ⟨a, b, c, d, e, f, g, i, rfl⟩ := list8 z h
  exact lz_in8 a b c d e f g i

/-- The text of eight groups, where the row of zeros is the one given. -/
def sixText (p : Option (Nat × Nat)) (gs : List Nat) : List UInt8 := match p with
  | none => Lib.join (gs.map hexL) [58]
  | some (i, n) => Lib.join ((gs.take i).map hexL) [58] ++ [58, 58] ++ Lib.join ((gs.drop (i + n)).map hexL) [58]
/-- Which groups are zero. -/
def flagsZ (gs : List Nat) : List Bool := gs.map (· == 0)
theorem flagsZ_length (gs : List Nat) : (flagsZ gs).length = gs.length := by simp [flagsZ]
/-- The text of four bytes. -/
def fourText (n : Nat) : List UInt8 := Lib.join [Lib.decDigits (n / 16777216 % 256), Lib.decDigits (n / 65536 % 256), Lib.decDigits (n / 256 % 256), Lib.decDigits (n % 256)] [46]
end Go.Proofs.YtfiocnjogbpgoaaGreatDoor
namespace Go.Proofs.YtfiocnjogbpgoaaGreatDoor

def isDig (c : UInt8) : Bool := decide (48 ≤ (c.toNat : Int)) && decide ((c.toNat : Int) ≤ 57)
def decStep (n : Nat) (c : UInt8) : Nat := n * 10 + (c.toNat - 48)
def decVal (l : List UInt8) : Nat := l.foldl decStep 0
/-- A number of at most three digits. -/
def numL (l : List UInt8) : Option Nat :=
  if l = [] ∨ 3 < l.length ∨ (l.head? = some 48 ∧ 1 < l.length) then none else if l.all isDig then some (decVal l) else none
/-- A number of a byte. -/
def byteL (l : List UInt8) : Option Nat := match numL l with
  | some n => if n ≤ 255 then some n else none
  | none => none

theorem take_at {α : Type} {l : List α} {k : Nat} {g : α} (h : l[k]? = some g) : l.take (k + 1) = l.take k ++ [g] := by
  rw [List.take_add_one, h]; rfl
/-- A digit to base 16. -/
def hexD (c : UInt8) : Option Nat :=
  if 48 ≤ c.toNat ∧ c.toNat ≤ 57 then some (c.toNat - 48) else if 97 ≤ c.toNat ∧ c.toNat ≤ 102 then some (c.toNat - 87) else if 65 ≤ c.toNat ∧ c.toNat ≤ 70 then some (c.toNat - 55) else none
def isHex (c : UInt8) : Bool := (hexD c).isSome
def hexVal (l : List UInt8) : Nat := l.foldl (fun n c => n * 16 + (hexD c).getD 0) 0
theorem hexD_lt {c : UInt8} {d : Nat} (h : hexD c = some d) : d < 16 := by
  unfold hexD at h
  split at h
  · cases h; omega
  · split at h
    · cases h; omega
    · split at h
      · cases h; omega
      · cases h
/-- A number to base 16 below m. -/
def hexB (m : Nat) (l : List UInt8) : Option Nat := if l ≠ [] ∧ l.all isHex = true ∧ hexVal l < m then some (hexVal l) else none
/-- A group of an address. -/
def groupL (l : List UInt8) : Option Nat := if l.length ≤ 4 then hexB 65536 l else none
theorem groupL_lt {l : List UInt8} {g : Nat} (h : groupL l = some g) : g < 65536 := by
  unfold groupL hexB at h
  split at h
  · split at h
    · rename_i hc; cases h; exact hc.2.2
    · cases h
  · cases h
end Go.Proofs.YtfiocnjogbpgoaaGreatDoor
namespace Go.Proofs.YtfiocnjogbpgoaaGreatDoor

def dec3 (n : Nat) : List UInt8 := if n < 10 then [UInt8.ofNat (48 + n)] else if n < 100 then [UInt8.ofNat (48 + n / 10), UInt8.ofNat (48 + n % 10)] else [UInt8.ofNat (48 + n / 10 / 10), UInt8.ofNat (48 + n / 10 % 10), UInt8.ofNat (48 + n % 10)]
theorem dec3_eq {n : Nat} (h : n < 1000) : Lib.decDigits n = dec3 n := by
  unfold dec3
  by_cases h1 : n < 10
  · rw [if_pos h1, Lib.decDigits_one h1]
  · rw [if_neg h1]
    by_cases h2 : n < 100
    · rw [if_pos h2, Lib.decDigits_two h1 h2]
    · rw [if_neg h2, Lib.decDigits, dif_neg h1, Lib.decDigits_two (by omega) (by omega)]
      rfl
set_option maxRecDepth 100000 in
theorem byte_dec3 : ∀ n, n < 256 → byteL (dec3 n) = some n := by decide
def isOk (e : Lib.NumEnd Int) (n : Nat) : Bool := match e with
  | .ok v => decide (v = (n : Int))
  | _ => false
set_option maxRecDepth 100000 in
theorem atoi_dec3' : ∀ n, n < 256 → isOk (Lib.atoiAll (dec3 n)) n = true := by decide
theorem atoi_dec3 {n : Nat} (h : n < 256) : Lib.atoiAll (dec3 n) = .ok (n : Int) := by
  have := atoi_dec3' n h
  unfold isOk at this
  split at this
  · rename_i v hv; rw [hv, of_decide_eq_true this]
  · cases this

theorem dig_is {c : UInt8} (h : isDig c = true) : 48 ≤ c.toNat ∧ c.toNat ≤ 57 := by
  unfold isDig at h; simp at h; omega
theorem u8_of {c : UInt8} {n : Nat} (h : n = c.toNat) : UInt8.ofNat n = c := by rw [h]; simp
theorem dec3_of {l : List UInt8} {n : Nat} (h : byteL l = some n) : n < 256 ∧ l = dec3 n := by
  unfold byteL at h
  split at h
  · rename_i m hm
    split at h
    · cases h
      refine ⟨by omega, ?_⟩
      unfold numL at hm
      split at hm
      · cases hm
      · rename_i h0
        split at hm
        · rename_i hd
          cases hm
          match l, h0, hd with
          | [], h0, _ => exact absurd (.inl rfl) h0
          | [a], h0, hd =>
            simp only [List.all_cons, List.all_nil, Bool.and_true] at hd
            have := dig_is hd
            have e : decVal [a] = a.toNat - 48 := by simp [decVal, decStep]
            rw [e]; unfold dec3
            rw [if_pos (by omega), u8_of (c := a) (by omega)]
          | [a, b], h0, hd =>
            simp only [List.all_cons, List.all_nil, Bool.and_true, Bool.and_eq_true] at hd
            have h1 := dig_is hd.1
            have h2 := dig_is hd.2
            have h3 : a.toNat ≠ 48 := fun k => h0 (.inr (.inr ⟨by rw [List.head?_cons]; congr 1; exact UInt8.toNat_inj.1 k, by simp⟩))
            have e : decVal [a, b] = (a.toNat - 48) * 10 + (b.toNat - 48) := by simp [decVal, decStep]
            rw [e]; unfold dec3
            rw [if_neg (by omega), if_pos (by omega), u8_of (c := a) (by omega), u8_of (c := b) (by omega)]
          | [a, b, c], h0, hd =>
            simp only [List.all_cons, List.all_nil, Bool.and_true, Bool.and_eq_true] at hd
            have h1 := dig_is hd.1
            have h2 := dig_is hd.2.1
            have h4 := dig_is hd.2.2
            have h3 : a.toNat ≠ 48 := fun k => h0 (.inr (.inr ⟨by rw [List.head?_cons]; congr 1; exact UInt8.toNat_inj.1 k, by simp⟩))
            have e : decVal [a, b, c] = ((a.toNat - 48) * 10 + (b.toNat - 48)) * 10 + (c.toNat - 48) := by simp [decVal, decStep]
            rw [e]; unfold dec3
            rw [if_neg (by omega), if_neg (by omega), u8_of (c := a) (by omega), u8_of (c := b) (by omega), u8_of (c := c) (by omega)]
          | a :: b :: c :: d :: r, h0, _ => exact absurd (.inr (.inl (by simp))) h0
        · cases hm
    · cases h
  · cases h

theorem byte_atoi {l : List UInt8} {n : Nat} (h : byteL l = some n) : n < 256 ∧ Lib.atoiAll l = .ok (n : Int) ∧ Lib.itoa (n : Int) = l := by
  obtain ⟨h1, h2⟩ := dec3_of h
  refine ⟨h1, by rw [h2, atoi_dec3 h1], ?_⟩
  have e : Lib.itoa (n : Int) = Lib.decDigits n := by unfold Lib.itoa; rw [if_neg (by omega)]; simp
  rw [e, dec3_eq (by omega), ← h2]
end Go.Proofs.YtfiocnjogbpgoaaGreatDoor
namespace Go.Proofs.YtfiocnjogbpgoaaGreatDoor

/-- What stands between the bytes c. -/
def pieces (l : List UInt8) (c : UInt8) : List (List UInt8) := Lib.splitK [c] 0 (l.count c) l
theorem pieces_one {l : List UInt8} {c : UInt8} (h : c ∉ l) : pieces l c = [l] := by
  unfold pieces; rw [List.count_eq_zero.2 h]; rfl
theorem index_mid {c : UInt8} (b : List UInt8) : ∀ {a : List UInt8}, c ∉ a → Lib.index (a ++ c :: b) [c] = a.length
  | [], _ => by rw [List.nil_append, Lib.index]; simp [List.isPrefixOf]
  | x :: t, h => by
    have hx : x ≠ c := fun e => h (by rw [e]; exact List.mem_cons_self)
    have ih := index_mid b (a := t) (fun e => h (List.mem_cons_of_mem _ e))
    have hp : ([c] : List UInt8).isPrefixOf (x :: (t ++ c :: b)) = false := by simp [List.isPrefixOf, Ne.symm hx]
    rw [List.cons_append, Lib.index, hp, ih]
    have : ((t.length : Int) == -1) = false := by rw [beq_eq_false_iff_ne]; omega
    rw [this]
    simp
theorem pieces_cons {a b : List UInt8} {c : UInt8} (h : c ∉ a) : pieces (a ++ c :: b) c = a :: pieces b c := by
  unfold pieces
  have hc : (a ++ c :: b).count c = b.count c + 1 := by rw [List.count_append, List.count_eq_zero.2 h, List.count_cons_self]; omega
  rw [hc, Lib.splitK, index_mid b h, if_neg (by rw [beq_iff_eq]; omega)]
  simp
end Go.Proofs.YtfiocnjogbpgoaaGreatDoor
namespace Go.Proofs.YtfiocnjogbpgoaaGreatDoor

end Go.Proofs.YtfiocnjogbpgoaaGreatDoor
