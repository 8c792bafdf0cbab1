/- Medians of numbers, as lists. -/
import Derived.Test.YtmfflcemceonhaaGen
namespace Go.Proofs.Ytmfflcemceonhaa
open Go.RowKit
set_option linter.unusedVariables false

/-- Numbers in their order. -/
def srtI (zs : List Int) : List Int := zs.mergeSort (fun x y => decide (x ≤ y))
theorem srt_len (zs : List Int) : (srtI zs).length = zs.length := List.length_mergeSort ..
theorem srt_mem {zs : List Int} {z : Int} (h : z ∈ srtI zs) : z ∈ zs := List.mem_mergeSort.1 h
/-- Twice the middle of numbers in their order. -/
def midS (s : List Int) : Int := s.getD ((s.length - 1) / 2) 0 + s.getD (s.length / 2) 0
def twiceI (zs : List Int) : Int := midS (srtI zs)
def diffI (m z : Int) : Int := max (2 * z - m) (m - 2 * z)
def fourI (zs : List Int) : Int := twiceI (zs.map (diffI (twiceI zs)))
theorem mid_bound {s : List Int} {B : Int} (hs : s ≠ []) (h : ∀ z ∈ s, 0 ≤ z ∧ z ≤ B) : 0 ≤ midS s ∧ midS s ≤ 2 * B := by
  have hl : 0 < s.length := List.length_pos_iff.2 hs
  have h1 : (s.length - 1) / 2 < s.length := by omega
  have h2 : s.length / 2 < s.length := by omega
  have a := h (s.getD ((s.length - 1) / 2) 0) (by rw [List.getD_eq_getElem?_getD, List.getElem?_eq_getElem h1]; exact List.getElem_mem _)
  have b := h (s.getD (s.length / 2) 0) (by rw [List.getD_eq_getElem?_getD, List.getElem?_eq_getElem h2]; exact List.getElem_mem _)
  unfold midS
  omega
theorem srt_ne {zs : List Int} (h : zs ≠ []) : srtI zs ≠ [] := by
  intro e
  have := srt_len zs
  rw [e] at this
  exact h (List.eq_nil_of_length_eq_zero this.symm)
theorem twice_bound {zs : List Int} {B : Int} (hs : zs ≠ []) (h : ∀ z ∈ zs, 0 ≤ z ∧ z ≤ B) : 0 ≤ twiceI zs ∧ twiceI zs ≤ 2 * B :=
  mid_bound (srt_ne hs) fun z hz => h z (srt_mem hz)
theorem diff_bound {zs : List Int} {B m : Int} (hm : 0 ≤ m ∧ m ≤ 2 * B) (h : ∀ z ∈ zs, 0 ≤ z ∧ z ≤ B) : ∀ d ∈ zs.map (diffI m), 0 ≤ d ∧ d ≤ 2 * B := by
  intro d hd
  obtain ⟨z, hz, rfl⟩ := List.mem_map.1 hd
  have := h z hz
  unfold diffI
  omega
theorem four_bound {zs : List Int} {B : Int} (hs : zs ≠ []) (h : ∀ z ∈ zs, 0 ≤ z ∧ z ≤ B) : 0 ≤ fourI zs ∧ fourI zs ≤ 4 * B := by
  have := twice_bound (zs := zs.map (diffI (twiceI zs))) (B := 2 * B) (by simpa using hs) (diff_bound (twice_bound hs h) h)
  unfold fourI
  omega

/-- A fraction in lowest terms. -/
def fracV (n d : Nat) : Value := .agg #[.int .i64 ((n / Nat.gcd n d : Nat) : Int), .int .i64 ((d / Nat.gcd n d : Nat) : Int)]

/-- What is wrong with numbers. -/
def okNum (z : Int) : Bool := decide (0 ≤ z) && decide (z ≤ 2000000000000)
def numsF (zs : List Int) : Int := if zs = [] then 8 else if 3000 < zs.length then 2 else if zs.all okNum then 0 else 1
theorem okNum_iff {z : Int} : okNum z = true ↔ 0 ≤ z ∧ z ≤ 2000000000000 := by
  unfold okNum; rw [Bool.and_eq_true, decide_eq_true_iff, decide_eq_true_iff]
theorem numsF_zero {zs : List Int} (h : numsF zs = 0) : zs ≠ [] ∧ zs.length ≤ 3000 ∧ ∀ z ∈ zs, 0 ≤ z ∧ z ≤ 2000000000000 := by
  unfold numsF at h
  by_cases h1 : zs = []
  · rw [if_pos h1] at h; cases h
  · rw [if_neg h1] at h
    by_cases h2 : 3000 < zs.length
    · rw [if_pos h2] at h; cases h
    · rw [if_neg h2] at h
      by_cases h3 : zs.all okNum
      · exact ⟨h1, by omega, fun z hz => okNum_iff.1 (List.all_eq_true.1 h3 z hz)⟩
      · rw [if_neg h3] at h; cases h
theorem maxOf_ge : ∀ (zs : List Int) (m : Int), m ≤ zs.foldl max m ∧ ∀ z ∈ zs, z ≤ zs.foldl max m
  | [], m => ⟨Int.le_refl _, fun z h => by cases h⟩
  | x :: r, m => by
    obtain ⟨h1, h2⟩ := maxOf_ge r (max m x)
    refine ⟨by simp only [List.foldl_cons]; omega, fun z hz => ?_⟩
    simp only [List.foldl_cons]
    rcases List.mem_cons.1 hz with rfl | hz
    · omega
    · exact h2 z hz
theorem maxOf_mem : ∀ (zs : List Int) (m : Int), zs.foldl max m = m ∨ zs.foldl max m ∈ zs
  | [], m => .inl rfl
  | x :: r, m => by
    simp only [List.foldl_cons]
    rcases maxOf_mem r (max m x) with h | h
    · rw [h]
      by_cases c : m ≤ x
      · right; rw [show max m x = x by omega]; exact List.mem_cons_self
      · left; omega
    · exact .inr (List.mem_cons_of_mem _ h)
theorem minOf_le : ∀ (zs : List Int) (m : Int), zs.foldl min m ≤ m ∧ ∀ z ∈ zs, zs.foldl min m ≤ z
  | [], m => ⟨Int.le_refl _, fun z h => by cases h⟩
  | x :: r, m => by
    obtain ⟨h1, h2⟩ := minOf_le r (min m x)
    refine ⟨by simp only [List.foldl_cons]; omega, fun z hz => ?_⟩
    simp only [List.foldl_cons]
    rcases List.mem_cons.1 hz with rfl | hz
    · omega
    · exact h2 z hz
theorem minOf_mem : ∀ (zs : List Int) (m : Int), zs.foldl min m = m ∨ zs.foldl min m ∈ zs
  | [], m => .inl rfl
  | x :: r, m => by
    simp only [List.foldl_cons]
    rcases minOf_mem r (min m x) with h | h
    · rw [h]
      by_cases c : x ≤ m
      · right; rw [show min m x = x by omega]; exact List.mem_cons_self
      · left; omega
    · exact .inr (List.mem_cons_of_mem _ h)
/-- The steps of the greatest common divisor, as the program takes them. -/
theorem gcd_step (a b : Nat) : Nat.gcd b (a % b) = Nat.gcd a b := by
  rw [Nat.gcd_comm a b, Nat.gcd_rec b a, Nat.gcd_comm]
/-- What is left when the ends are taken away, one pair at a time. -/
theorem peel_end {n k : Nat} (h1 : 2 * k < n) (h2 : ¬ 2 < n - 2 * k) : k = (n - 1) / 2 ∧ k + (n - 2 * k - 1) = n / 2 := by omega
end Go.Proofs.Ytmfflcemceonhaa
