/- Texts with and without a colon: the program's and the reference's readings agree (pure). -/
import Derived.Test.YtokeeimppbiokaaGreatDoorPsK
namespace Go.Proofs.YtokeeimppbiokaaGreatDoor
open Go.RowKit

theorem parts_eq (l : List UInt8) (c : UInt8) : parts l c = Lib.splitK [c] 0 (l.count c) l := by
  unfold parts
  have h := Lib.splitB_data ⟨#[c]⟩ 0 (Lib.countB ⟨l.toArray⟩ ⟨#[c]⟩) ⟨l.toArray⟩
  have e : Lib.countB ⟨l.toArray⟩ ⟨#[c]⟩ = l.count c := by rw [← Lib.count_one]
  rw [e] at h ⊢
  exact h
theorem parts_one {l : List UInt8} {c : UInt8} (h : c ∉ l) : parts l c = [l] := by
  rw [parts_eq, List.count_eq_zero.2 h]; rfl

theorem index_at {l : List UInt8} {c : UInt8} {i : Nat} (h : Lib.index l [c] = i) : l[i]? = some c := by
  rcases Lib.index_spec l [c] with ⟨h', _⟩ | ⟨j, h1, _, h2, _⟩
  · omega
  · have : j = i := by omega
    subst this
    exact Lib.occAt_head rfl h2

theorem mem_splitK (c : UInt8) : ∀ (k : Nat) (l : List UInt8) (x : UInt8), x ∈ l → x ≠ c → ∃ p ∈ Lib.splitK [c] 0 k l, x ∈ p
  | 0, l, x, hx, _ => ⟨l, by rw [Lib.splitK]; exact List.mem_singleton_self _, hx⟩
  | k + 1, l, x, hx, hc => by
    rw [Lib.splitK]
    split
    · exact ⟨l, List.mem_singleton_self _, hx⟩
    · rename_i hi
      obtain ⟨i, h⟩ : ∃ i : Nat, Lib.index l [c] = i := by
        rcases Lib.index_spec l [c] with ⟨h', _⟩ | ⟨j, h1, _⟩
        · rw [h'] at hi; exact absurd rfl hi
        · exact ⟨j, h1⟩
      rw [h]
      have hat := index_at h
      obtain ⟨j, hj, hjx⟩ := List.mem_iff_getElem.1 hx
      have hil : i < l.length := (List.getElem?_eq_some_iff.1 hat).1
      rcases Nat.lt_trichotomy j i with hlt | heq | hgt
      · refine ⟨_, List.mem_cons_self, List.mem_iff_getElem?.2 ⟨j, ?_⟩⟩
        have : j < (i : Int).toNat + 0 := by simp; exact hlt
        rw [List.getElem?_take_of_lt this, List.getElem?_eq_getElem hj, hjx]
      · subst heq
        rw [List.getElem?_eq_getElem hj, hjx] at hat
        cases hat; exact absurd rfl hc
      · have hm : x ∈ l.drop ((i : Int).toNat + 1) := by
          refine List.mem_iff_getElem?.2 ⟨j - (i + 1), ?_⟩
          rw [List.getElem?_drop, show (i : Int).toNat + 1 + (j - (i + 1)) = j by simp; omega, List.getElem?_eq_getElem hj, hjx]
        obtain ⟨p, hp, hxp⟩ := mem_splitK c k _ x hm hc
        exact ⟨p, List.mem_cons_of_mem _ hp, hxp⟩

theorem goB_digits : ∀ (ps : List (List UInt8)) (n m : Nat), goB ps n = some m → ∀ p ∈ ps, p.all isDig = true
  | [], _, _, _ => by simp
  | q :: r, n, m, h => by
    rw [goB] at h
    split at h
    · rename_i b hb
      intro p hp
      rcases List.mem_cons.1 hp with rfl | hp
      · unfold byteL at hb
        split at hb
        · rename_i k hk
          unfold numL at hk
          split at hk
          · cases hk
          · split at hk
            · rename_i hd; exact hd
            · cases hk
        · cases hb
      · exact goB_digits r _ m h p hp
    · cases h
/-- With a colon it is no text of four numbers. -/
theorem four_colon {l : List UInt8} (h : (58 : UInt8) ∈ l) : fourL l = none := by
  cases hf : fourL l with
  | none => rfl
  | some n =>
    unfold fourL fourP at hf
    split at hf
    · have hd := goB_digits _ _ _ hf
      obtain ⟨p, hp, hx⟩ := mem_splitK 46 (l.count 46) l 58 h (by decide)
      rw [← parts_eq] at hp
      have := List.all_eq_true.1 (hd p hp) 58 hx
      exact absurd this (by decide)
    · cases hf
theorem cut_colon {l : List UInt8} (h : (58 : UInt8) ∉ l) : (Lib.cut l [58, 58]).2.2 = false := by
  unfold Lib.cut
  split
  · rename_i hi
    rcases Lib.index_spec l [58, 58] with ⟨h', _⟩ | ⟨j, h1, _, h2, _⟩
    · omega
    · exact absurd (List.mem_iff_getElem?.2 ⟨j, Lib.occAt_head rfl h2⟩) h
  · rfl
/-- Without a colon there are no groups. -/
theorem groups_none {l : List UInt8} (h : (58 : UInt8) ∉ l) (hf : fourL l = none) : groupsL l = none := by
  unfold groupsL
  rw [cut_colon h]
  unfold rowL
  by_cases hl : l = []
  · rw [if_pos hl]; rfl
  · rw [if_neg hl, parts_one h]
    cases hg : groupL l with
    | none => rw [rowA_none (by rw [if_pos ⟨rfl, rfl⟩]; exact hf) hg]; rfl
    | some g => rw [rowA_group (by rw [if_pos ⟨rfl, rfl⟩]; exact hf) hg]; rfl
theorem index_mem (l : List UInt8) (c : UInt8) : (0 ≤ Lib.indexByte l c) ↔ c ∈ l := by
  induction l with
  | nil => simp [Lib.indexByte]
  | cons b r ih =>
    rw [Lib.indexByte]
    by_cases hb : b = c
    · subst hb; simp
    · have hb' : (b == c) = false := by simpa using hb
      rw [hb', List.mem_cons]
      have hc : ¬ c = b := fun h => hb h.symm
      have hge : ∀ r : List UInt8, -1 ≤ Lib.indexByte r c := fun r => by
        induction r with
        | nil => simp [Lib.indexByte]
        | cons d r ih =>
          rw [Lib.indexByte]
          split
          · omega
          · split <;> omega
      have := hge r
      simp only [hc, false_or]
      rw [← ih]
      simp only [Bool.false_eq_true, if_false]
      split
      · rename_i h; have := beq_iff_eq.1 h; omega
      · rename_i h; have : Lib.indexByte r c ≠ -1 := fun k => h (beq_iff_eq.2 k); omega

theorem rowA_small (t : Bool) : ∀ (ps : List (List UInt8)) (acc gs : List Nat), (∀ g ∈ acc, g < 65536) → rowA t acc ps = some gs → ∀ g ∈ gs, g < 65536
  | [], acc, gs, ha, h => by rw [rowA] at h; cases h; exact ha
  | p :: r, acc, gs, ha, h => by
    rw [rowA] at h
    split at h
    · rename_i n hn
      have hn32 : n < 4294967296 := by
        split at hn
        · exact fourL_lt hn
        · cases hn
      refine rowA_small t r _ gs (fun g hg => ?_) h
      rcases List.mem_append.1 hg with hg | hg
      · exact ha g hg
      · simp at hg
        rcases hg with rfl | rfl <;> omega
    · split at h
      · rename_i g0 hg0
        refine rowA_small t r _ gs (fun g hg => ?_) h
        rcases List.mem_append.1 hg with hg | hg
        · exact ha g hg
        · simp at hg; subst hg; exact groupL_lt hg0
      · cases h
theorem rowL_small {t : Bool} {l : List UInt8} {gs : List Nat} (h : rowL t l = some gs) : ∀ g ∈ gs, g < 65536 := by
  unfold rowL at h
  split at h
  · cases h; simp
  · exact rowA_small t _ _ _ (by simp) h
/-- Eight groups. -/
theorem groupsL_eight {l : List UInt8} {gs : List Nat} (h : groupsL l = some gs) : gs.length = 8 ∧ ∀ g ∈ gs, g < 65536 := by
  unfold groupsL at h
  split at h
  · cases ha : rowL false (Lib.cut l [58, 58]).1 with
    | none => rw [ha] at h; cases h
    | some x =>
      cases hb : rowL true (Lib.cut l [58, 58]).2.1 with
      | none => rw [ha, hb] at h; cases h
      | some y =>
        rw [ha, hb] at h
        have e : joinR (some x) (some y) = if x.length + y.length ≤ 7 then some (x ++ List.replicate (8 - x.length - y.length) 0 ++ y) else none := rfl
        rw [e] at h
        by_cases h7 : x.length + y.length ≤ 7
        · rw [if_pos h7] at h
          cases h
          refine ⟨by simp; omega, fun g hg => ?_⟩
          rcases List.mem_append.1 hg with hg | hg
          · rcases List.mem_append.1 hg with hg | hg
            · exact rowL_small ha g hg
            · have := (List.mem_replicate.1 hg).2; omega
          · exact rowL_small hb g hg
        · rw [if_neg h7] at h
          cases h
  · cases ha : rowL true l with
    | none => rw [ha] at h; cases h
    | some x =>
      rw [ha] at h
      have e : eightR (some x) = if x.length = 8 then some x else none := rfl
      rw [e] at h
      by_cases h8 : x.length = 8
      · rw [if_pos h8] at h
        cases h; exact ⟨h8, rowL_small ha⟩
      · rw [if_neg h8] at h
        cases h

/-- Groups of 16 bits, the first one the highest. -/
def acc16 (gs : List Nat) : Nat := gs.foldl (fun n g => n * 65536 + g) 0
theorem acc16_snoc (gs : List Nat) (g : Nat) : acc16 (gs ++ [g]) = acc16 gs * 65536 + g := by simp [acc16]
theorem acc16_lt : ∀ (k : Nat) (gs : List Nat), gs.length = k → (∀ g ∈ gs, g < 65536) → acc16 gs < 65536 ^ k
  | 0, gs, h, _ => by rw [List.eq_nil_of_length_eq_zero h]; decide
  | k + 1, gs, h, hg => by
    have hne : gs ≠ [] := by intro e; rw [e] at h; cases h
    rw [← List.dropLast_concat_getLast hne, acc16_snoc]
    have h1 := acc16_lt k gs.dropLast (by rw [List.length_dropLast]; omega) (fun g h => hg g (List.dropLast_subset _ h))
    have h2 := hg _ (List.getLast_mem hne)
    rw [Nat.pow_succ]; omega
/-- An address that is read: whether it is of 128 bits, its two halves. -/
def looseL (l : List UInt8) : Option (Bool × Nat × Nat) :=
  if (58 : UInt8) ∈ l then (groupsL l).map fun gs => (true, acc16 (gs.take 4), acc16 (gs.drop 4)) else (fourL l).map fun n => (false, 0, n)
theorem looseL_four {l : List UInt8} {n : Nat} (h : fourL l = some n) : looseL l = some (false, 0, n) := by
  unfold looseL
  rw [if_neg (fun k => by rw [four_colon k] at h; cases h), h]; rfl
/-- The reference's way: four numbers first, then groups. -/
theorem looseL_groups {l : List UInt8} (h : fourL l = none) : looseL l = (groupsL l).map fun gs => (true, acc16 (gs.take 4), acc16 (gs.drop 4)) := by
  unfold looseL
  by_cases hc : (58 : UInt8) ∈ l
  · rw [if_pos hc]
  · rw [if_neg hc, h, groups_none hc h]; rfl
end Go.Proofs.YtokeeimppbiokaaGreatDoor
