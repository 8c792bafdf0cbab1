/- Medians of numbers that are moved, and how many lie to each side (pure). -/
import Derived.Test.YtfiocnjogbpgoaaGreatDoorKiStB
namespace Go.Proofs.YtfiocnjogbpgoaaGreatDoor
open Go.RowKit

theorem gbB {u u' : World} {r : Option Nat} (h : Below u.heap.size u u') : u.grownBy u' r := gb_below (gb_refl u r) h
theorem gb2B {w u : World} (h : w.grownBy u none) : Below w.heap.size w u := ⟨h.os, h.tape, h.output, h.size, fun k hk => h.block k hk (by simp)⟩
theorem Blk.gn {w u : World} {p : Nat} {cs : List Value} {t : TypeId} (h : Blk w p cs t) (hg : w.grownBy u none) : Blk u p cs t := h.below (gb2B hg)
end Go.Proofs.YtfiocnjogbpgoaaGreatDoor
namespace Go.Proofs.YtfiocnjogbpgoaaGreatDoor
open Go.RowKit
set_option linter.unusedVariables false

/-- Numbers in their order. -/
def srtI (zs : List Int) : List Int := zs.mergeSort (fun x y => decide (x ≤ y))
theorem srt_len (zs : List Int) : (srtI zs).length = zs.length := List.length_mergeSort ..
theorem srt_mem {zs : List Int} {z : Int} (h : z ∈ srtI zs) : z ∈ zs := List.mem_mergeSort.1 h
/-- Twice the middle of numbers in their order. -/
def midS (s : List Int) : Int := s.getD ((s.length - 1) / 2) 0 + s.getD (s.length / 2) 0
def twiceI (zs : List Int) : Int := midS (srtI zs)
def diffI (m z : Int) : Int := max (2 * z - m) (m - 2 * z)
def fourI (zs : List Int) : Int := twiceI (zs.map (diffI (twiceI zs)))
theorem mid_bound {s : List Int} {B : Int} (hs : s ≠ []) (h : ∀ z ∈ s, 0 ≤ z ∧ z ≤ B) : 0 ≤ midS s ∧ midS s ≤ 2 * B := by
  have hl : 0 < s.length := List.length_pos_iff.2 hs
  have h1 : (s.length - 1) / 2 < s.length := by omega
  have h2 : s.length / 2 < s.length := by omega
  have a := h (s.getD ((s.length - 1) / 2) 0) (by rw [List.getD_eq_getElem?_getD, List.getElem?_eq_getElem h1]; exact List.getElem_mem _)
  have b := h (s.getD (s.length / 2) 0) (by rw [List.getD_eq_getElem?_getD, List.getElem?_eq_getElem h2]; exact List.getElem_mem _)
  unfold midS
  omega
theorem srt_ne {zs : List Int} (h : zs ≠ []) : srtI zs ≠ [] := by
  intro e
  have := srt_len zs
  rw [e] at this
  exact h (List.eq_nil_of_length_eq_zero this.symm)
theorem twice_bound {zs : List Int} {B : Int} (hs : zs ≠ []) (h : ∀ z ∈ zs, 0 ≤ z ∧ z ≤ B) : 0 ≤ twiceI zs ∧ twiceI zs ≤ 2 * B :=
  mid_bound (srt_ne hs) fun z hz => h z (srt_mem hz)
theorem diff_bound {zs : List Int} {B m : Int} (hm : 0 ≤ m ∧ m ≤ 2 * B) (h : ∀ z ∈ zs, 0 ≤ z ∧ z ≤ B) : ∀ d ∈ zs.map (diffI m), 0 ≤ d ∧ d ≤ 2 * B := by
  intro d hd
  obtain ⟨z, hz, rfl⟩ := List.mem_map.1 hd
  have := h z hz
  unfold diffI
  omega
theorem four_bound {zs : List Int} {B : Int} (hs : zs ≠ []) (h : ∀ z ∈ zs, 0 ≤ z ∧ z ≤ B) : 0 ≤ fourI zs ∧ fourI zs ≤ 4 * B := by
  have := twice_bound (zs := zs.map (diffI (twiceI zs))) (B := 2 * B) (by simpa using hs) (diff_bound (twice_bound hs h) h)
  unfold fourI
  omega

/-- A fraction in lowest terms. -/
def fracV (n d : Nat) : Value := .agg #[.int .i64 ((n / Nat.gcd n d : Nat) : Int), .int .i64 ((d / Nat.gcd n d : Nat) : Int)]

/-- What is wrong with numbers. -/
def okNum (z : Int) : Bool := decide (0 ≤ z) && decide (z ≤ 2000000000000)
def numsF (zs : List Int) : Int := if zs = [] then 8 else if 3000 < zs.length then 2 else if zs.all okNum then 0 else 1
theorem okNum_iff {z : Int} : okNum z = true ↔ 0 ≤ z ∧ z ≤ 2000000000000 := by
  unfold okNum; rw [Bool.and_eq_true, decide_eq_true_iff, decide_eq_true_iff]
theorem numsF_zero {zs : List Int} (h : numsF zs = 0) : zs ≠ [] ∧ zs.length ≤ 3000 ∧ ∀ z ∈ zs, 0 ≤ z ∧ z ≤ 2000000000000 := by
  unfold numsF at h
  by_cases h1 : zs = []
  · rw [if_pos h1] at h; cases h
  · rw [if_neg h1] at h
    by_cases h2 : 3000 < zs.length
    · rw [if_pos h2] at h; cases h
    · rw [if_neg h2] at h
      by_cases h3 : zs.all okNum
      · exact ⟨h1, by omega, fun z hz => okNum_iff.1 (List.all_eq_true.1 h3 z hz)⟩
      · rw [if_neg h3] at h; cases h
/-- The steps of the greatest common divisor, as the program takes them. -/
theorem gcd_step (a b : Nat) : Nat.gcd b (a % b) = Nat.gcd a b := by
  rw [Nat.gcd_comm a b, Nat.gcd_rec b a, Nat.gcd_comm]
end Go.Proofs.YtfiocnjogbpgoaaGreatDoor
namespace Go.Proofs.YtfiocnjogbpgoaaGreatDoor
open Go.RowKit
set_option linter.unusedVariables false
set_option linter.unusedSimpArgs false

/-- All numbers moved. -/
def upI (c : Int) (zs : List Int) : List Int := zs.map (· + c)
theorem srt_up (c : Int) (zs : List Int) : srtI (upI c zs) = upI c (srtI zs) := by
  unfold srtI upI
  rw [List.map_mergeSort (s := fun x y => decide (x ≤ y))]
  intro a _ b _
  simp
theorem up_len (c : Int) (zs : List Int) : (upI c zs).length = zs.length := List.length_map _
theorem mid_up (c : Int) {s : List Int} (hs : s ≠ []) : midS (upI c s) = midS s + 2 * c := by
  have hl : 0 < s.length := List.length_pos_iff.2 hs
  have h1 : (s.length - 1) / 2 < s.length := by omega
  have h2 : s.length / 2 < s.length := by omega
  unfold midS
  rw [up_len]
  unfold upI
  simp only [List.getD_eq_getElem?_getD, List.getElem?_map, List.getElem?_eq_getElem h1, List.getElem?_eq_getElem h2, Option.map_some, Option.getD_some]
  omega
theorem twice_up (c : Int) {zs : List Int} (hs : zs ≠ []) : twiceI (upI c zs) = twiceI zs + 2 * c := by
  unfold twiceI
  rw [srt_up, mid_up c (srt_ne hs)]
theorem four_up (c : Int) {zs : List Int} (hs : zs ≠ []) : fourI (upI c zs) = fourI zs := by
  unfold fourI
  rw [twice_up c hs]
  congr 1
  unfold upI
  rw [List.map_map]
  apply List.map_congr_left
  intro z _
  simp only [Function.comp, diffI]
  omega
theorem srt_sorted (zs : List Int) : (srtI zs).Pairwise (· ≤ ·) := by
  have h := List.pairwise_mergeSort (le := fun x y : Int => decide (x ≤ y)) (fun a b c h1 h2 => by simp at *; omega) (fun a b => by simp; omega) zs
  exact h.imp fun h => by simpa using h
theorem srt_perm (zs : List Int) : (srtI zs).Perm zs := List.mergeSort_perm _ _
/-- No more than k of a list are so, if none is so from place k on. -/
theorem count_front {p : Int → Bool} : ∀ (s : List Int) (k : Nat), (∀ i z, s[i]? = some z → k ≤ i → p z = false) → s.countP p ≤ k
  | [], k, _ => by simp
  | x :: r, 0, h => by
    have h0 : p x = false := h 0 x rfl (Nat.le_refl _)
    have := count_front r 0 (fun i z hz _ => h (i + 1) z hz (by omega))
    rw [List.countP_cons, h0]; simpa using this
  | x :: r, k + 1, h => by
    have := count_front r k (fun i z hz hk => h (i + 1) z hz (by omega))
    rw [List.countP_cons]
    split <;> omega
theorem count_back {p : Int → Bool} : ∀ (s : List Int) (k : Nat), (∀ i z, s[i]? = some z → i < k → p z = false) → s.countP p ≤ s.length - k
  | s, 0, _ => List.countP_le_length
  | [], k + 1, _ => by simp
  | x :: r, k + 1, h => by
    have h0 : p x = false := h 0 x rfl (Nat.succ_pos _)
    have := count_back r k (fun i z hz hk => h (i + 1) z hz (by omega))
    rw [List.countP_cons, h0]
    simp only [List.length_cons]
    simp
    omega
theorem at_le {s : List Int} (hs : s.Pairwise (· ≤ ·)) {i j : Nat} {x y : Int} (hx : s[i]? = some x) (hy : s[j]? = some y) (h : i ≤ j) : x ≤ y := by
  rcases Nat.eq_or_lt_of_le h with rfl | h
  · rw [hx] at hy; cases hy; exact Int.le_refl _
  · obtain ⟨hi, rfl⟩ := List.getElem?_eq_some_iff.1 hx
    obtain ⟨hj, rfl⟩ := List.getElem?_eq_some_iff.1 hy
    exact List.pairwise_iff_getElem.1 hs i j hi hj h
def lessB (t z : Int) : Bool := decide (2 * z < t)
def moreB (t z : Int) : Bool := decide (t < 2 * z)
theorem below_half {zs : List Int} (hx : zs ≠ []) : 2 * zs.countP (lessB (twiceI zs)) ≤ zs.length := by
  have hl : 0 < (srtI zs).length := List.length_pos_iff.2 (srt_ne hx)
  have hss := srt_sorted zs
  rw [← (srt_perm zs).countP_eq, ← srt_len zs]
  have h1 : ((srtI zs).length - 1) / 2 < (srtI zs).length := by omega
  have h2 : (srtI zs).length / 2 < (srtI zs).length := by omega
  have := count_front (p := lessB (twiceI zs)) (srtI zs) ((srtI zs).length / 2) (fun i z hz hk => by
    have a := at_le hss (List.getElem?_eq_getElem h1) (List.getElem?_eq_getElem h2) (by omega)
    have b := at_le hss (List.getElem?_eq_getElem h2) hz hk
    unfold lessB twiceI midS
    simp only [List.getD_eq_getElem?_getD, List.getElem?_eq_getElem h1, List.getElem?_eq_getElem h2, Option.getD_some]
    exact decide_eq_false (by omega))
  omega
theorem above_half {zs : List Int} (hx : zs ≠ []) : 2 * zs.countP (moreB (twiceI zs)) ≤ zs.length := by
  have hl : 0 < (srtI zs).length := List.length_pos_iff.2 (srt_ne hx)
  have hss := srt_sorted zs
  rw [← (srt_perm zs).countP_eq, ← srt_len zs]
  have h1 : ((srtI zs).length - 1) / 2 < (srtI zs).length := by omega
  have h2 : (srtI zs).length / 2 < (srtI zs).length := by omega
  have := count_back (p := moreB (twiceI zs)) (srtI zs) (((srtI zs).length - 1) / 2 + 1) (fun i z hz hk => by
    have a := at_le hss (List.getElem?_eq_getElem h1) (List.getElem?_eq_getElem h2) (by omega)
    have b := at_le hss hz (List.getElem?_eq_getElem h1) (by omega)
    unfold moreB twiceI midS
    simp only [List.getD_eq_getElem?_getD, List.getElem?_eq_getElem h1, List.getElem?_eq_getElem h2, Option.getD_some]
    exact decide_eq_false (by omega))
  omega
/-- A half in lowest terms. -/
theorem gcd_two (t : Nat) : Nat.gcd t 2 = if t % 2 = 0 then 2 else 1 := by
  rw [Nat.gcd_comm, Nat.gcd_rec]
  rcases Nat.mod_two_eq_zero_or_one t with h | h <;> rw [h] <;> simp
def numI (t : Int) : Int := if t % 2 = 0 then t / 2 else t
def denI (t : Int) : Int := if t % 2 = 0 then 1 else 2
theorem frac_two {t : Int} (h : 0 ≤ t) : fracV t.toNat 2 = .agg #[.int .i64 (numI t), .int .i64 (denI t)] := by
  unfold fracV numI denI
  rw [gcd_two]
  by_cases c : t % 2 = 0
  · have c' : t.toNat % 2 = 0 := by omega
    rw [if_pos c, if_pos c', if_pos c, show ((t.toNat / 2 : Nat) : Int) = t / 2 by omega]
    rfl
  · have c' : ¬ t.toNat % 2 = 0 := by omega
    rw [if_neg c, if_neg c', if_neg c, show ((t.toNat / 1 : Nat) : Int) = t by omega]
    rfl
theorem den_pos (t : Int) : 1 ≤ denI t ∧ denI t ≤ 2 := by unfold denI; split <;> omega
theorem num_bound {t B : Int} (h : 0 ≤ t) (hB : t ≤ B) : 0 ≤ numI t ∧ numI t ≤ B := by unfold numI; split <;> omega
theorem less_num (t z : Int) : z * denI t < numI t ↔ 2 * z < t := by unfold numI denI; split <;> omega
theorem more_num (t z : Int) : numI t < z * denI t ↔ t < 2 * z := by unfold numI denI; split <;> omega
theorem den_up (t c : Int) : denI (t + 2 * c) = denI t := by
  unfold denI
  have : (t + 2 * c) % 2 = t % 2 := by omega
  rw [this]
theorem num_up (t c : Int) : numI (t + 2 * c) = numI t + c * denI t := by
  unfold numI denI
  have : (t + 2 * c) % 2 = t % 2 := by omega
  rw [this]
  split <;> omega
end Go.Proofs.YtfiocnjogbpgoaaGreatDoor
