/- Domain names: the order of their labels, and what is below what. -/
import Derived.Test.YtmfflcemceonhaaDoorKfLaneB
import Derived.Lib.Strings
namespace Go.Proofs.YtmfflcemceonhaaDoor
open Go.RowKit
set_option linter.unusedVariables false
set_option linter.unusedSimpArgs false

/-- The order of two strings. -/
def cmpS (x y : List UInt8) : Int := if Op.bytesLess x y then -1 else if x == y then 0 else 1
/-- The order of two lists of strings. -/
def cmpLs : List (List UInt8) → List (List UInt8) → Int
  | [], [] => 0
  | [], _ :: _ => -1
  | _ :: _, [] => 1
  | x :: xs, y :: ys => if cmpS x y = 0 then cmpLs xs ys else cmpS x y
theorem cmpLs_left {xs ys : List (List UInt8)} {k : Nat} (hx : xs.length ≤ k) : cmpLs (xs.drop k) (ys.drop k) = if ys.length ≤ k then 0 else -1 := by
  rw [List.drop_eq_nil_of_le hx]
  by_cases h : ys.length ≤ k
  · rw [if_pos h, List.drop_eq_nil_of_le h]; rfl
  · rw [if_neg h]
    have : ys.drop k ≠ [] := by intro e; have := List.drop_eq_nil_iff.1 e; omega
    cases hd : ys.drop k with
    | nil => exact absurd hd this
    | cons a r => rfl
theorem cmpLs_right {xs ys : List (List UInt8)} {k : Nat} (hx : k < xs.length) (hy : ys.length ≤ k) : cmpLs (xs.drop k) (ys.drop k) = 1 := by
  rw [List.drop_eq_nil_of_le hy]
  cases hd : xs.drop k with
  | nil => have := List.drop_eq_nil_iff.1 hd; omega
  | cons a r => rfl
theorem cmpLs_both {xs ys : List (List UInt8)} {k : Nat} {x y : List UInt8} (hx : xs[k]? = some x) (hy : ys[k]? = some y) : cmpLs (xs.drop k) (ys.drop k) = if cmpS x y = 0 then cmpLs (xs.drop (k + 1)) (ys.drop (k + 1)) else cmpS x y := by
  rw [List.drop_eq_getElem_cons (List.getElem?_eq_some_iff.1 hx).1, List.drop_eq_getElem_cons (List.getElem?_eq_some_iff.1 hy).1, (List.getElem?_eq_some_iff.1 hx).2, (List.getElem?_eq_some_iff.1 hy).2]
  rfl

/-- A name is another one, or ends with it behind a dot. -/
def underB (a b : List UInt8) : Bool := decide (a = b) || Lib.hasSuffix a (46 :: b)
theorem hasSuffix_iff {a b : List UInt8} : Lib.hasSuffix a b = true ↔ b <:+ a := by unfold Lib.hasSuffix; exact List.isSuffixOf_iff_suffix
theorem under_cut (a b : List UInt8) : (Lib.hasSuffix a b && ((Lib.trimSuffix a b).isEmpty || Lib.hasSuffix (Lib.trimSuffix a b) [46])) = underB a b := by
  unfold underB
  by_cases h : Lib.hasSuffix a b = true
  · obtain ⟨p, rfl⟩ := hasSuffix_iff.1 h
    have ht : Lib.trimSuffix (p ++ b) b = p := by
      unfold Lib.trimSuffix
      rw [if_pos h, List.length_append, Nat.add_sub_cancel, List.take_left]
    rw [h, ht, Bool.true_and]
    cases p with
    | nil => simp
    | cons c r =>
      have hne : decide (c :: r ++ b = b) = false := by
        rw [decide_eq_false_iff_not]
        intro e
        have := congrArg List.length e
        rw [List.length_append, List.length_cons] at this
        omega
      rw [hne, Bool.false_or]
      show (false || _) = _
      rw [Bool.false_or]
      rw [Bool.eq_iff_iff, hasSuffix_iff, hasSuffix_iff]
      constructor
      · rintro ⟨q, hq⟩
        refine ⟨q, ?_⟩
        rw [← hq]; simp
      · rintro ⟨q, hq⟩
        refine ⟨q, ?_⟩
        have e : (q ++ [46]) ++ b = (c :: r) ++ b := by rw [← hq]; simp
        exact List.append_cancel_right e
  · rw [Bool.not_eq_true] at h
    rw [h, Bool.false_and]
    symm
    rw [Bool.or_eq_false_iff]
    constructor
    · rw [decide_eq_false_iff_not]
      rintro rfl
      rw [hasSuffix_iff.2 (List.suffix_refl _)] at h
      cases h
    · rw [Bool.eq_false_iff]
      intro g
      obtain ⟨q, hq⟩ := hasSuffix_iff.1 g
      have : Lib.hasSuffix a b = true := hasSuffix_iff.2 ⟨q ++ [46], by rw [← hq]; simp⟩
      rw [h] at this
      cases this
end Go.Proofs.YtmfflcemceonhaaDoor
