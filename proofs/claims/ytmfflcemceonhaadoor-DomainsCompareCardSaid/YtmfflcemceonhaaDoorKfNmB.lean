/- Labels of names: what the program and the reference take for one (pure). -/
import Derived.Test.YtmfflcemceonhaaDoorKfNmA
import Derived.Lib.TrimByte
import Derived.Lib.Strings
import Derived.Shelf.Strings.SlTrimAscii
namespace Go.Proofs.YtmfflcemceonhaaDoor

def isSml (c : UInt8) : Bool := decide (97 ≤ (c.toNat : Int)) && decide ((c.toNat : Int) ≤ 122)
def isInn (c : UInt8) : Bool := isSml c || isDig c
def labR (r : List UInt8) : Bool := !r.isEmpty && (Lib.trimB r 45 == r) && r.all (fun c => isInn c || c == 45)
/-- Is it a label? -/
def labB (l : List UInt8) : Bool := decide (l.length ≤ 63) && labR (Lib.trimPrefix l [95])
def labBytes : List UInt8 := [97, 98, 99, 100, 101, 102, 103, 104, 105, 106, 107, 108, 109, 110, 111, 112, 113, 114, 115, 116, 117, 118, 119, 120, 121, 122, 48, 49, 50, 51, 52, 53, 54, 55, 56, 57, 45]
set_option maxRecDepth 100000 in
theorem lab_all : ∀ n, n < 256 → labBytes.contains (UInt8.ofNat n) = (isInn (UInt8.ofNat n) || UInt8.ofNat n == 45) := by decide
theorem lab_is (c : UInt8) : labBytes.contains c = (isInn c || c == 45) := by
  have h := lab_all c.toNat c.toNat_lt
  simpa using h
theorem dropW_nil {α : Type} (p : α → Bool) : ∀ l : List α, l.dropWhile p = [] ↔ l.all p = true
  | [] => by simp
  | a :: l => by
    by_cases h : p a = true
    · rw [List.dropWhile_cons_of_pos h, dropW_nil p l]; simp [h]
    · rw [List.dropWhile_cons_of_neg h]; simp [h]
theorem dropW_head {α : Type} (p : α → Bool) : ∀ (l : List α) (a : α) (r : List α), l.dropWhile p = a :: r → p a = false
  | [], a, r, h => by cases h
  | x :: l, a, r, h => by
    by_cases hx : p x = true
    · rw [List.dropWhile_cons_of_pos hx] at h; exact dropW_head p l a r h
    · rw [List.dropWhile_cons_of_neg hx] at h
      cases h; simpa using hx
theorem dropW_same {α : Type} (p : α → Bool) : ∀ l : List α, l.dropWhile p = l ↔ ∀ a, l.head? = some a → p a = false
  | [] => by simp
  | x :: l => by
    by_cases hx : p x = true
    · rw [List.dropWhile_cons_of_pos hx]
      constructor
      · intro e
        have h1 := congrArg List.length e
        have h2 := (List.dropWhile_sublist (p := p) (l := l)).length_le
        rw [List.length_cons] at h1
        omega
      · intro h; have := h x rfl; rw [hx] at this; cases this
    · rw [List.dropWhile_cons_of_neg hx]
      exact ⟨fun _ a ha => by cases ha; simpa using hx, fun _ => rfl⟩
theorem trimS_nil' (l cs : List UInt8) : Lib.trimS l cs = [] ↔ l.all (cs.contains ·) = true := by
  unfold Lib.trimS Lib.trimLeftS
  rw [dropW_nil]
  unfold Lib.trimRightS
  rw [List.all_reverse]
  constructor
  · intro h
    cases hd : l.reverse.dropWhile (cs.contains ·) with
    | nil => rw [dropW_nil, List.all_reverse] at hd; exact hd
    | cons a r =>
      have h1 := dropW_head _ _ _ _ hd
      rw [hd, List.all_cons, h1] at h
      cases h
  · intro h
    have : l.reverse.dropWhile (cs.contains ·) = [] := by rw [dropW_nil, List.all_reverse]; exact h
    rw [this]; rfl
theorem trimB_same (r : List UInt8) : Lib.trimB r 45 = r ↔ r.head? ≠ some 45 ∧ r.getLast? ≠ some 45 := by
  unfold Lib.trimB Lib.trimLeftB Lib.trimRightB
  have key : ∀ l : List UInt8, l.dropWhile (· == 45) = l ↔ l.head? ≠ some 45 := fun l => by
    rw [dropW_same]
    constructor
    · intro h e
      have := h 45 e
      simp at this
    · intro h a ha
      rw [beq_eq_false_iff_ne]
      rintro rfl
      exact h ha
  have hrev : r.reverse.dropWhile (· == 45) = r.reverse ↔ r.getLast? ≠ some 45 := by rw [key, List.head?_reverse]
  constructor
  · intro h
    have h1 := congrArg List.length h
    have h2 := (List.dropWhile_sublist (p := (· == (45 : UInt8))) (l := (r.reverse.dropWhile (· == 45)).reverse)).length_le
    have h3 := List.dropWhile_sublist (p := (· == (45 : UInt8))) (l := r.reverse)
    have h4 := h3.length_le
    rw [List.length_reverse] at h2
    have h5 : r.reverse.dropWhile (· == 45) = r.reverse := h3.eq_of_length (by rw [List.length_reverse] at h4 ⊢; omega)
    rw [h5, List.reverse_reverse] at h
    exact ⟨(key r).1 h, hrev.1 h5⟩
  · rintro ⟨h1, h2⟩
    rw [hrev.2 h2, List.reverse_reverse]
    exact (key r).2 h1
/-- The reference's look at a label, behind the first mark. -/
theorem labR_ref (r : List UInt8) : labR r = (!r.isEmpty && (Lib.trimS r labBytes).isEmpty && decide (r.head? ≠ some 45) && decide (r.getLast? ≠ some 45)) := by
  unfold labR
  have e1 : (Lib.trimS r labBytes).isEmpty = r.all (fun c => isInn c || c == 45) := by
    have h := trimS_nil' r labBytes
    have e : r.all (labBytes.contains ·) = r.all (fun c => isInn c || c == 45) := by congr 1; funext c; exact lab_is c
    rw [e] at h
    rw [Bool.eq_iff_iff, List.isEmpty_iff]
    exact h
  have e2 : (Lib.trimB r 45 == r) = (decide (r.head? ≠ some 45) && decide (r.getLast? ≠ some 45)) := by
    rw [Bool.eq_iff_iff, beq_iff_eq, Bool.and_eq_true, decide_eq_true_iff, decide_eq_true_iff]
    exact trimB_same r
  rw [e1, e2]
  cases r.isEmpty <;> cases decide (r.head? ≠ some 45) <;> cases decide (r.getLast? ≠ some 45) <;> cases r.all (fun c => isInn c || c == 45) <;> rfl
/-- What is wrong with a domain name. -/
def domF (l : List UInt8) : Int := if 253 < l.length then 2 else if (pieces l 46).all labB then 0 else 5
end Go.Proofs.YtmfflcemceonhaaDoor
