/- A number of a byte: the reference's way (strconv.Atoi and back) against byteL. -/
import Derived.Lib.Join
import Derived.Lib.ItoaNum
import Derived.Lib.AtoiAll
set_option maxRecDepth 100000
namespace Go.Proofs.YtkldcmmlllkhkaaGreatDoor

def hexc (k : Nat) : UInt8 := UInt8.ofNat (if k < 10 then 48 + k else 87 + k)
def hexL (u : Nat) : List UInt8 :=
  if u < 16 then [hexc u] else if u < 256 then [hexc (u / 16), hexc (u % 16)] else if u < 4096 then [hexc (u / 256), hexc (u / 16 % 16), hexc (u % 16)]
  else [hexc (u / 4096), hexc (u / 256 % 16), hexc (u / 16 % 16), hexc (u % 16)]

theorem hexc_zero : ∀ k, k < 16 → (hexc k = 48 ↔ k = 0) := by decide
theorem hexL_zero (u : Nat) (h : u < 65536) : hexL u = [48] ↔ u = 0 := by
  unfold hexL
  by_cases h1 : u < 16
  · rw [if_pos h1]
    simp [hexc_zero u h1]
  · rw [if_neg h1]
    constructor
    · intro e
      split at e
      · simp at e
      · split at e <;> simp at e
    · intro e; omega
theorem hexL_length (u : Nat) : (hexL u).length ≤ 4 := by
  unfold hexL
  split
  · simp
  · split
    · simp
    · split <;> simp

def runZ (z : List Bool) (i : Nat) : Nat := ((z.drop i).takeWhile id).length
def lzStep (z : List Bool) (acc : Nat × Nat) (i : Nat) : Nat × Nat := if acc.2 < runZ z i then (i, runZ z i) else acc
def lzTo (z : List Bool) (k : Nat) : Nat × Nat := (List.range k).foldl (lzStep z) (0, 0)
theorem lzTo_succ (z : List Bool) (k : Nat) : lzTo z (k + 1) = lzStep z (lzTo z k) k := by
  unfold lzTo; rw [List.range_succ, List.foldl_append]; rfl

def allZ (z : List Bool) (n i : Nat) : Bool := ((z.drop i).take n).all id
def refI (z : List Bool) (n : Nat) : Nat → Option (Nat × Nat)
  | 0 => none
  | k + 1 => if allZ z n (8 - n - k) then some (8 - n - k, n) else refI z n k
def refN (z : List Bool) : Nat → Option (Nat × Nat)
  | 0 => none
  | m + 1 => match refI z (m + 2) (7 - m) with
    | some p => some p
    | none => refN z m

def zTwo (p : Nat × Nat) : Option (Nat × Nat) := if p.2 < 2 then none else some p

theorem ref_lz8 : ∀ a b c d e f g h : Bool, refN [a, b, c, d, e, f, g, h] 7 = zTwo (lzTo [a, b, c, d, e, f, g, h] 8) := by decide +kernel
theorem list8 {α : Type} (l : List α) (h : l.length = 8) : ∃ a b c d e f g i, l = [a, b, c, d, e, f, g, i] := by
  match l, h with
  | [a, b, c, d, e, f, g, i], _ => exact ⟨a, b, c, d, e, f, g, i, rfl⟩
theorem ref_lz (z : List Bool) (h : z.length = 8) : refN z 7 = zTwo (lzTo z 8) := by
  obtain ⟨a, b, c, d, e, f, g, i, rfl⟩ := list8 z h
  exact ref_lz8 a b c d e f g i
theorem lz_in8 : ∀ a b c d e f g h : Bool, (lzTo [a, b, c, d, e, f, g, h] 8).1 + (lzTo [a, b, c, d, e, f, g, h] 8).2 ≤ 8 := by decide +kernel
theorem lz_in (z : List Bool) (h : z.length = 8) : (lzTo z 8).1 + (lzTo z 8).2 ≤ 8 := by
  obtain ⟨a, b, c, d, e, f, g, i, rfl⟩ := list8 z h
  exact lz_in8 a b c d e f g i

def sixText (p : Option (Nat × Nat)) (gs : List Nat) : List UInt8 := match p with
  | none => Lib.join (gs.map hexL) [58]
  | some (i, n) => Lib.join ((gs.take i).map hexL) [58] ++ [58, 58] ++ Lib.join ((gs.drop (i + n)).map hexL) [58]
def flagsZ (gs : List Nat) : List Bool := gs.map (· == 0)
theorem flagsZ_length (gs : List Nat) : (flagsZ gs).length = gs.length := by simp [flagsZ]
def fourText (n : Nat) : List UInt8 := Lib.join [Lib.decDigits (n / 16777216 % 256), Lib.decDigits (n / 65536 % 256), Lib.decDigits (n / 256 % 256), Lib.decDigits (n % 256)] [46]
end Go.Proofs.YtkldcmmlllkhkaaGreatDoor
namespace Go.Proofs.YtkldcmmlllkhkaaGreatDoor

def isDig (c : UInt8) : Bool := decide (48 ≤ (c.toNat : Int)) && decide ((c.toNat : Int) ≤ 57)
def decStep (n : Nat) (c : UInt8) : Nat := n * 10 + (c.toNat - 48)
def decVal (l : List UInt8) : Nat := l.foldl decStep 0
def numL (l : List UInt8) : Option Nat :=
  if l = [] ∨ 3 < l.length ∨ (l.head? = some 48 ∧ 1 < l.length) then none else if l.all isDig then some (decVal l) else none
def byteL (l : List UInt8) : Option Nat := match numL l with
  | some n => if n ≤ 255 then some n else none
  | none => none

theorem take_at {α : Type} {l : List α} {k : Nat} {g : α} (h : l[k]? = some g) : l.take (k + 1) = l.take k ++ [g] := by
  rw [List.take_add_one, h]; rfl
def hexD (c : UInt8) : Option Nat :=
  if 48 ≤ c.toNat ∧ c.toNat ≤ 57 then some (c.toNat - 48) else if 97 ≤ c.toNat ∧ c.toNat ≤ 102 then some (c.toNat - 87) else if 65 ≤ c.toNat ∧ c.toNat ≤ 70 then some (c.toNat - 55) else none
def isHex (c : UInt8) : Bool := (hexD c).isSome
def hexVal (l : List UInt8) : Nat := l.foldl (fun n c => n * 16 + (hexD c).getD 0) 0
theorem hexVal_snoc (l : List UInt8) (c : UInt8) : hexVal (l ++ [c]) = hexVal l * 16 + (hexD c).getD 0 := by simp [hexVal]
theorem hexD_lt {c : UInt8} {d : Nat} (h : hexD c = some d) : d < 16 := by
  unfold hexD at h
  split at h
  · cases h; omega
  · split at h
    · cases h; omega
    · split at h
      · cases h; omega
      · cases h
theorem hexD_getD (c : UInt8) : (hexD c).getD 0 < 16 := by
  cases h : hexD c with
  | none => simp
  | some d => exact hexD_lt h
theorem hexVal_lt (l : List UInt8) : ∀ k, k ≤ l.length → hexVal (l.take k) < 16 ^ k := by
  intro k
  induction k with
  | zero => intro _; simp [hexVal]
  | succ k ih =>
    intro hk
    have h1 := ih (by omega)
    have hg : l[k]? = some l[k] := List.getElem?_eq_getElem (by omega)
    have h2 := hexD_getD l[k]
    rw [take_at hg, hexVal_snoc, Nat.pow_succ]
    omega
def hexB (m : Nat) (l : List UInt8) : Option Nat := if l ≠ [] ∧ l.all isHex = true ∧ hexVal l < m then some (hexVal l) else none
def groupL (l : List UInt8) : Option Nat := if l.length ≤ 4 then hexB 65536 l else none
theorem groupL_eq (l : List UInt8) (m : Nat) (hm : 65536 ≤ m) (h4 : l.length ≤ 4) : hexB m l = groupL l := by
  have h := hexVal_lt l l.length (Nat.le_refl _)
  rw [List.take_length] at h
  have h' : (16 : Nat) ^ l.length ≤ 16 ^ 4 := Nat.pow_le_pow_right (by decide) h4
  unfold groupL hexB
  rw [if_pos h4]
  have e1 : hexVal l < m := by omega
  have e2 : hexVal l < 65536 := by omega
  simp [e1, e2]
theorem groupL_lt {l : List UInt8} {g : Nat} (h : groupL l = some g) : g < 65536 := by
  unfold groupL hexB at h
  split at h
  · split at h
    · rename_i hc; cases h; exact hc.2.2
    · cases h
  · cases h
end Go.Proofs.YtkldcmmlllkhkaaGreatDoor
namespace Go.Proofs.YtkldcmmlllkhkaaGreatDoor

def dec3 (n : Nat) : List UInt8 := if n < 10 then [UInt8.ofNat (48 + n)] else if n < 100 then [UInt8.ofNat (48 + n / 10), UInt8.ofNat (48 + n % 10)] else [UInt8.ofNat (48 + n / 10 / 10), UInt8.ofNat (48 + n / 10 % 10), UInt8.ofNat (48 + n % 10)]
theorem dec3_eq {n : Nat} (h : n < 1000) : Lib.decDigits n = dec3 n := by
  unfold dec3
  by_cases h1 : n < 10
  · rw [if_pos h1, Lib.decDigits_one h1]
  · rw [if_neg h1]
    by_cases h2 : n < 100
    · rw [if_pos h2, Lib.decDigits_two h1 h2]
    · rw [if_neg h2, Lib.decDigits, dif_neg h1, Lib.decDigits_two (by omega) (by omega)]
      rfl
theorem byte_dec3 : ∀ n, n < 256 → byteL (dec3 n) = some n := by decide
def isOk (e : Lib.NumEnd Int) (n : Nat) : Bool := match e with
  | .ok v => decide (v = (n : Int))
  | _ => false
theorem atoi_dec3' : ∀ n, n < 256 → isOk (Lib.atoiAll (dec3 n)) n = true := by decide
theorem atoi_dec3 {n : Nat} (h : n < 256) : Lib.atoiAll (dec3 n) = .ok (n : Int) := by
  have := atoi_dec3' n h
  unfold isOk at this
  split at this
  · rename_i v hv; rw [hv, of_decide_eq_true this]
  · cases this

theorem dig_is {c : UInt8} (h : isDig c = true) : 48 ≤ c.toNat ∧ c.toNat ≤ 57 := by
  unfold isDig at h; simp at h; omega
theorem u8_of {c : UInt8} {n : Nat} (h : n = c.toNat) : UInt8.ofNat n = c := by rw [h]; simp
theorem dec3_of {l : List UInt8} {n : Nat} (h : byteL l = some n) : n < 256 ∧ l = dec3 n := by
  unfold byteL at h
  split at h
  · rename_i m hm
    split at h
    · cases h
      refine ⟨by omega, ?_⟩
      unfold numL at hm
      split at hm
      · cases hm
      · rename_i h0
        split at hm
        · rename_i hd
          cases hm
          match l, h0, hd with
          | [], h0, _ => exact absurd (.inl rfl) h0
          | [a], h0, hd =>
            simp only [List.all_cons, List.all_nil, Bool.and_true] at hd
            have := dig_is hd
            have e : decVal [a] = a.toNat - 48 := by simp [decVal, decStep]
            rw [e]; unfold dec3
            rw [if_pos (by omega), u8_of (c := a) (by omega)]
          | [a, b], h0, hd =>
            simp only [List.all_cons, List.all_nil, Bool.and_true, Bool.and_eq_true] at hd
            have h1 := dig_is hd.1
            have h2 := dig_is hd.2
            have h3 : a.toNat ≠ 48 := fun k => h0 (.inr (.inr ⟨by rw [List.head?_cons]; congr 1; exact UInt8.toNat_inj.1 k, by simp⟩))
            have e : decVal [a, b] = (a.toNat - 48) * 10 + (b.toNat - 48) := by simp [decVal, decStep]
            rw [e]; unfold dec3
            rw [if_neg (by omega), if_pos (by omega), u8_of (c := a) (by omega), u8_of (c := b) (by omega)]
          | [a, b, c], h0, hd =>
            simp only [List.all_cons, List.all_nil, Bool.and_true, Bool.and_eq_true] at hd
            have h1 := dig_is hd.1
            have h2 := dig_is hd.2.1
            have h4 := dig_is hd.2.2
            have h3 : a.toNat ≠ 48 := fun k => h0 (.inr (.inr ⟨by rw [List.head?_cons]; congr 1; exact UInt8.toNat_inj.1 k, by simp⟩))
            have e : decVal [a, b, c] = ((a.toNat - 48) * 10 + (b.toNat - 48)) * 10 + (c.toNat - 48) := by simp [decVal, decStep]
            rw [e]; unfold dec3
            rw [if_neg (by omega), if_neg (by omega), u8_of (c := a) (by omega), u8_of (c := b) (by omega), u8_of (c := c) (by omega)]
          | a :: b :: c :: d :: r, h0, _ => exact absurd (.inr (.inl (by simp))) h0
        · cases hm
    · cases h
  · cases h

theorem byte_atoi {l : List UInt8} {n : Nat} (h : byteL l = some n) : n < 256 ∧ Lib.atoiAll l = .ok (n : Int) ∧ Lib.itoa (n : Int) = l := by
  obtain ⟨h1, h2⟩ := dec3_of h
  refine ⟨h1, by rw [h2, atoi_dec3 h1], ?_⟩
  have e : Lib.itoa (n : Int) = Lib.decDigits n := by unfold Lib.itoa; rw [if_neg (by omega)]; simp
  rw [e, dec3_eq (by omega), ← h2]
theorem byte_none {l : List UInt8} {v : Int} (h : byteL l = none) (h0 : 0 ≤ v) (h1 : v ≤ 255) : Lib.itoa v ≠ l := by
  intro k
  obtain ⟨n, rfl⟩ : ∃ n : Nat, v = (n : Int) := ⟨v.toNat, by omega⟩
  have e : Lib.itoa (n : Int) = Lib.decDigits n := by unfold Lib.itoa; rw [if_neg (by omega)]; simp
  rw [← k, e, dec3_eq (by omega), byte_dec3 n (by omega)] at h
  cases h
end Go.Proofs.YtkldcmmlllkhkaaGreatDoor
