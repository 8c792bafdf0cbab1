/- Sets: has a list of ranges an address? -/
import Derived.Test.YtmgdkefoehlamaaGreatDoorKnGzA
import Derived.Test.YtmgdkefoehlamaaGreatDoorKnSvB
import Derived.Test.YtmgdkefoehlamaaGreatDoorKnStM
import Derived.Test.YtmgdkefoehlamaaGreatDoorKnStO
import Derived.Test.YtmgdkefoehlamaaGreatDoorKnStG
namespace Go.Proofs.YtmgdkefoehlamaaGreatDoor
open Go.RowKit
set_option linter.unusedVariables false
set_option linter.unusedSimpArgs false

theorem ad_fam {a : Ad} (h : a.R) : s2n a.s ≤ a.n ∧ a.n ≤ topN a.s := by
  refine ⟨?_, h.le_top⟩
  unfold Ad.n
  omega
theorem fam_of {a : Ad} (h : a.R) {s : Bool} (h1 : s2n s ≤ a.n) (h2 : a.n ≤ topN s) : a.s = s := by
  obtain ⟨k1, k2⟩ := ad_fam h
  revert h1 h2 k1 k2
  generalize a.n = m
  cases a.s <;> cases s <;> simp only [s2n_true, s2n_false, topN_true, topN_false] <;> intro h1 h2 k1 k2
  all_goals first | rfl | trivial | (exfalso; omega)
theorem fam_val {s : Bool} {m : Nat} (h1 : s2n s ≤ m) (h2 : m ≤ topN s) : Val m := by
  unfold Val
  revert h1 h2
  cases s <;> simp only [s2n_true, s2n_false, topN_true, topN_false] <;> intro h1 h2 <;> omega
theorem val_fam {m : Nat} (h : Val m) : ∃ s, s2n s ≤ m ∧ m ≤ topN s := by
  rcases h with h | h
  · exact ⟨false, by simp only [s2n_false, topN_false]; omega⟩
  · exact ⟨true, by simp only [s2n_true, topN_true]; omega⟩
theorem fam_one {s t : Bool} {m : Nat} (h1 : s2n s ≤ m) (h2 : m ≤ topN s) (h3 : s2n t ≤ m) (h4 : m ≤ topN t) : s = t := by
  revert h1 h2 h3 h4
  cases s <;> cases t <;> simp only [s2n_true, s2n_false, topN_true, topN_false] <;> intro h1 h2 h3 h4
  all_goals first | rfl | trivial | (exfalso; omega)
theorem adOf_fam {s : Bool} {m : Nat} (h1 : s2n s ≤ m) (h2 : m ≤ topN s) : (adOf m).R ∧ (adOf m).n = m ∧ (adOf m).s = s := by
  have hv := fam_val h1 h2
  have hR := adOf_R hv
  have hn : (adOf m).n = m := adOf_n (by rcases hv with h | h <;> omega)
  exact ⟨hR, hn, fam_of hR (by rw [hn]; exact h1) (by rw [hn]; exact h2)⟩
theorem rg_fam {x : Ad × Ad} (h : RgR x) : s2n x.1.s ≤ x.1.n ∧ x.2.n ≤ topN x.1.s := ⟨(ad_fam h.1).1, by rw [h.2.2.1]; exact (ad_fam h.2.1).2⟩
theorem rg_fam_of {x : Ad × Ad} (h : RgR x) {s : Bool} {m : Nat} (h1 : s2n s ≤ m) (h2 : m ≤ topN s) (h3 : x.1.n ≤ m) (h4 : m ≤ x.2.n) : x.1.s = s := by
  obtain ⟨k1, k2⟩ := rg_fam h
  exact fam_one (by omega) (by omega) h1 h2
theorem adOf_rg {s : Bool} {a b : Nat} (h1 : s2n s ≤ a) (h2 : a ≤ b) (h3 : b ≤ topN s) : RgR (adOf a, adOf b) ∧ (adOf a).n = a ∧ (adOf b).n = b := by
  obtain ⟨p1, p2, p3⟩ := adOf_fam h1 (by omega)
  obtain ⟨q1, q2, q3⟩ := adOf_fam (s := s) (m := b) (by omega) h3
  exact ⟨⟨p1, q1, by rw [p3, q3], by rw [p2, q2]; exact h2⟩, p2, q2⟩

def hasB (xs : List (Ad × Ad)) (m : Nat) : Bool := xs.any fun x => decide (x.1.n ≤ m ∧ m ≤ x.2.n)
theorem hasB_iff (xs : List (Ad × Ad)) (m : Nat) : hasB xs m = true ↔ InA xs m := by
  unfold hasB InA
  rw [List.any_eq_true]
  constructor
  · rintro ⟨x, hx, h⟩; exact ⟨x, hx, of_decide_eq_true h⟩
  · rintro ⟨x, hx, h⟩; exact ⟨x, hx, decide_eq_true h⟩

structure Cut (cs : List Ad) : Prop where
  sorted : cs.Pairwise (fun a b => a.n < b.n)
  right : ∀ a ∈ cs, a.R
  base : ∀ s : Bool, ∃ a ∈ cs, a.n = s2n s
def lastC (cs : List Ad) (i : Nat) (a : Ad) : Nat := match cs[i + 1]? with
  | some b => if b.s = a.s then b.n - 1 else topN a.s
  | none => topN a.s
theorem cut_lt {cs : List Ad} (h : cs.Pairwise (fun a b => a.n < b.n)) {i j : Nat} {a b : Ad} (hi : cs[i]? = some a) (hj : cs[j]? = some b) (hij : i < j) : a.n < b.n := by
  obtain ⟨h1, rfl⟩ := List.getElem?_eq_some_iff.1 hi
  obtain ⟨h2, rfl⟩ := List.getElem?_eq_some_iff.1 hj
  exact List.pairwise_iff_getElem.1 h i j h1 h2 hij
theorem lastC_le {cs : List Ad} (h : Cut cs) {i : Nat} {a : Ad} (hi : cs[i]? = some a) : a.n ≤ lastC cs i a ∧ lastC cs i a ≤ topN a.s := by
  have ha := ad_fam (h.right a (List.mem_of_getElem? hi))
  unfold lastC
  cases hn : cs[i + 1]? with
  | none => exact ⟨ha.2, Nat.le_refl _⟩
  | some b =>
    have hlt := cut_lt h.sorted hi hn (Nat.lt_succ_self i)
    have hb := ad_fam (h.right b (List.mem_of_getElem? hn))
    by_cases e : b.s = a.s
    · simp only [if_pos e]; rw [e] at hb; omega
    · simp only [if_neg e]; exact ⟨ha.2, Nat.le_refl _⟩
theorem cut_none {cs : List Ad} (h : Cut cs) {i : Nat} {a : Ad} (hi : cs[i]? = some a) {c : Ad} (hc : c ∈ cs) (hac : a.n < c.n) : lastC cs i a < c.n := by
  obtain ⟨j, hj⟩ := List.mem_iff_getElem?.1 hc
  have ha := ad_fam (h.right a (List.mem_of_getElem? hi))
  have hcf := ad_fam (h.right c hc)
  have hij : i < j := by
    rcases Nat.lt_trichotomy i j with k | k | k
    · exact k
    · subst k; rw [hi] at hj; cases hj; omega
    · have := cut_lt h.sorted hj hi k; omega
  have hlen : j < cs.length := (List.getElem?_eq_some_iff.1 hj).1
  obtain ⟨b, hb⟩ : ∃ b, cs[i + 1]? = some b := ⟨cs[i + 1]'(by omega), List.getElem?_eq_getElem _⟩
  have hbc : b.n ≤ c.n := by
    rcases Nat.lt_trichotomy (i + 1) j with k | k | k
    · exact Nat.le_of_lt (cut_lt h.sorted hb hj k)
    · subst k; rw [hb] at hj; cases hj; exact Nat.le_refl _
    · omega
  have hab := cut_lt h.sorted hi hb (Nat.lt_succ_self i)
  have hbf := ad_fam (h.right b (List.mem_of_getElem? hb))
  unfold lastC
  rw [hb]
  by_cases e : b.s = a.s
  · simp only [if_pos e]; omega
  · simp only [if_neg e]
    revert ha hbf e
    generalize a.s = sa
    generalize b.s = sb
    cases sa <;> cases sb <;> simp only [s2n_true, s2n_false, topN_true, topN_false] <;> intro ha hbf e
    all_goals first | (exact absurd rfl e) | (exact e.elim) | trivial | omega
theorem cut_at : ∀ (cs : List Ad) (m : Nat), (∃ a ∈ cs, a.n ≤ m) → ∃ i a, cs[i]? = some a ∧ a.n ≤ m ∧ ∀ b, cs[i + 1]? = some b → m < b.n
  | [], m, ⟨a, ha, _⟩ => by cases ha
  | x :: t, m, ⟨a, ha, hm⟩ => by
    by_cases h : ∃ c ∈ t, c.n ≤ m
    · obtain ⟨i, b, h1, h2, h3⟩ := cut_at t m h
      exact ⟨i + 1, b, h1, h2, h3⟩
    · rcases List.mem_cons.1 ha with rfl | ha'
      · refine ⟨0, a, rfl, hm, fun b hb => ?_⟩
        have hbt : b ∈ t := List.mem_of_getElem? hb
        rcases Nat.lt_or_ge m b.n with k | k
        · exact k
        · exact absurd ⟨b, hbt, k⟩ h
      · exact absurd ⟨a, ha', hm⟩ h
theorem cut_cover {cs : List Ad} (h : Cut cs) {m : Nat} (hv : Val m) : ∃ i a, cs[i]? = some a ∧ a.n ≤ m ∧ m ≤ lastC cs i a := by
  obtain ⟨s, hs1, hs2⟩ := val_fam hv
  obtain ⟨z, hz, hzn⟩ := h.base s
  obtain ⟨i, a, hi, ha, hn⟩ := cut_at cs m ⟨z, hz, by omega⟩
  refine ⟨i, a, hi, ha, ?_⟩
  have haR := h.right a (List.mem_of_getElem? hi)
  have has : a.s = s := by
    refine fam_of haR ?_ (by omega)
    rcases Nat.lt_or_ge a.n (s2n s) with k | k
    · exfalso
      obtain ⟨j, hj⟩ := List.mem_iff_getElem?.1 hz
      have := cut_none h hi hz (by omega)
      have hle := lastC_le h hi
      unfold lastC at this hle
      cases hb : cs[i + 1]? with
      | none =>
        have hlen : cs.length ≤ i + 1 := List.getElem?_eq_none_iff.1 hb
        have hji : j ≤ i := by have := (List.getElem?_eq_some_iff.1 hj).1; omega
        rcases Nat.lt_or_ge j i with q | q
        · have := cut_lt h.sorted hj hi q; omega
        · have e : j = i := by omega
          subst e; rw [hi] at hj; cases hj; omega
      | some b =>
        have := hn b hb
        have hij : i < j := by
          rcases Nat.lt_trichotomy i j with q | q | q
          · exact q
          · subst q; rw [hi] at hj; cases hj; omega
          · have := cut_lt h.sorted hj hi q; omega
        rcases Nat.lt_trichotomy (i + 1) j with q | q | q
        · have := cut_lt h.sorted hb hj q; omega
        · subst q; rw [hb] at hj; cases hj; omega
        · omega
    · exact k
  unfold lastC
  cases hb : cs[i + 1]? with
  | none => simp only; rw [has]; exact hs2
  | some b =>
    have := hn b hb
    by_cases e : b.s = a.s
    · simp only [if_pos e]; omega
    · simp only [if_neg e]; rw [has]; exact hs2
theorem cut_same {cs : List Ad} (h : Cut cs) {xs : List (Ad × Ad)} (hR : ∀ x ∈ xs, RgR x) (h1 : ∀ x ∈ xs, ∃ c ∈ cs, c.n = x.1.n) (h2 : ∀ x ∈ xs, x.2.n ≠ topN x.2.s → ∃ c ∈ cs, c.n = x.2.n + 1)
    {i : Nat} {a : Ad} (hi : cs[i]? = some a) {m : Nat} (hm1 : a.n ≤ m) (hm2 : m ≤ lastC cs i a) : hasB xs m = hasB xs a.n := by
  rw [Bool.eq_iff_iff, hasB_iff, hasB_iff]
  have hle := lastC_le h hi
  have haf := ad_fam (h.right a (List.mem_of_getElem? hi))
  constructor
  · rintro ⟨x, hx, k1, k2⟩
    refine ⟨x, hx, ?_, by omega⟩
    rcases Nat.lt_or_ge a.n x.1.n with k | k
    · obtain ⟨c, hc, hcn⟩ := h1 x hx
      have := cut_none h hi hc (by omega)
      omega
    · exact k
  · rintro ⟨x, hx, k1, k2⟩
    refine ⟨x, hx, by omega, ?_⟩
    rcases Nat.lt_or_ge x.2.n m with k | k
    · exfalso
      have hxs := rg_fam_of (hR x hx) haf.1 haf.2 k1 k2
      have hxf := (hR x hx).2.2.1
      obtain ⟨c, hc, hcn⟩ := h2 x hx (by rw [← hxf, hxs]; omega)
      have := cut_none h hi hc (by omega)
      omega
    · exact k
def whL (cs : List Ad) (h : Nat → Bool) : Nat → List (Ad × Ad)
  | 0 => []
  | k + 1 => match cs[k]? with
    | some a => if h a.n then whL cs h k ++ [(a, adOf (lastC cs k a))] else whL cs h k
    | none => whL cs h k
theorem mem_whL (cs : List Ad) (h : Nat → Bool) (x : Ad × Ad) : ∀ k, x ∈ whL cs h k ↔ ∃ i a, i < k ∧ cs[i]? = some a ∧ h a.n = true ∧ x = (a, adOf (lastC cs i a))
  | 0 => ⟨fun hx => (by cases hx), fun ⟨i, _, hi, _⟩ => (by omega)⟩
  | k + 1 => by
    have ih := mem_whL cs h x k
    have up : (∃ i a, i < k ∧ cs[i]? = some a ∧ h a.n = true ∧ x = (a, adOf (lastC cs i a))) → ∃ i a, i < k + 1 ∧ cs[i]? = some a ∧ h a.n = true ∧ x = (a, adOf (lastC cs i a)) := fun ⟨i, a, h1, h2⟩ => ⟨i, a, by omega, h2⟩
    unfold whL
    cases hc : cs[k]? with
    | none =>
      simp only
      rw [ih]
      refine ⟨up, ?_⟩
      rintro ⟨i, a, h1, h2, h3⟩
      rcases Nat.lt_or_ge i k with q | q
      · exact ⟨i, a, q, h2, h3⟩
      · have e : i = k := by omega
        subst e; rw [hc] at h2; cases h2
    | some a =>
      simp only
      by_cases ha : h a.n = true
      · rw [if_pos ha, List.mem_append, ih, List.mem_singleton]
        constructor
        · rintro (q | q)
          · exact up q
          · exact ⟨k, a, by omega, hc, ha, q⟩
        · rintro ⟨i, b, h1, h2, h3, h4⟩
          rcases Nat.lt_or_ge i k with q | q
          · exact .inl ⟨i, b, q, h2, h3, h4⟩
          · have e : i = k := by omega
            subst e; rw [hc] at h2; cases h2
            exact .inr h4
      · rw [if_neg ha, ih]
        refine ⟨up, ?_⟩
        rintro ⟨i, b, h1, h2, h3, h4⟩
        rcases Nat.lt_or_ge i k with q | q
        · exact ⟨i, b, q, h2, h3, h4⟩
        · have e : i = k := by omega
          subst e; rw [hc] at h2; cases h2
          exact absurd h3 ha
theorem whL_len (cs : List Ad) (h : Nat → Bool) : ∀ k, (whL cs h k).length ≤ k
  | 0 => Nat.le_refl _
  | k + 1 => by
    have ih := whL_len cs h k
    unfold whL
    cases cs[k]? with
    | none => simp only; omega
    | some a =>
      simp only
      by_cases ha : h a.n = true
      · rw [if_pos ha, List.length_append]; simp; omega
      · rw [if_neg ha]; omega
theorem whL_R {cs : List Ad} (hc : Cut cs) (h : Nat → Bool) (k : Nat) : ∀ x ∈ whL cs h k, RgR x := by
  intro x hx
  obtain ⟨i, a, _, h2, _, rfl⟩ := (mem_whL cs h x k).1 hx
  have h1 := lastC_le hc h2
  have haR := hc.right a (List.mem_of_getElem? h2)
  have haf := ad_fam haR
  obtain ⟨q1, q2, q3⟩ := adOf_fam (s := a.s) (m := lastC cs i a) (by omega) h1.2
  exact ⟨haR, q1, q3.symm, by rw [q2]; exact h1.1⟩
theorem whL_in {cs : List Ad} (hc : Cut cs) (h : Nat → Bool) (hsame : ∀ i a m, cs[i]? = some a → a.n ≤ m → m ≤ lastC cs i a → h m = h a.n) (m : Nat) : InA (whL cs h cs.length) m ↔ Val m ∧ h m = true := by
  constructor
  · intro hm
    refine ⟨inA_val (whL_R hc h _) hm, ?_⟩
    obtain ⟨x, hx, k1, k2⟩ := hm
    obtain ⟨i, a, _, h2, h3, rfl⟩ := (mem_whL cs h x _).1 hx
    have h1 := lastC_le hc h2
    have haf := ad_fam (hc.right a (List.mem_of_getElem? h2))
    obtain ⟨q1, q2, q3⟩ := adOf_fam (s := a.s) (m := lastC cs i a) (by omega) h1.2
    rw [hsame i a m h2 k1 (by rw [← q2]; exact k2)]
    exact h3
  · rintro ⟨hv, hm⟩
    obtain ⟨i, a, hi, h1, h2⟩ := cut_cover hc hv
    have hle := lastC_le hc hi
    have haf := ad_fam (hc.right a (List.mem_of_getElem? hi))
    obtain ⟨q1, q2, q3⟩ := adOf_fam (s := a.s) (m := lastC cs i a) (by omega) hle.2
    refine ⟨(a, adOf (lastC cs i a)), (mem_whL cs h _ _).2 ⟨i, a, (List.getElem?_eq_some_iff.1 hi).1, hi, ?_, rfl⟩, h1, by rw [q2]; exact h2⟩
    rw [← hsame i a m hi h1 h2]
    exact hm
end Go.Proofs.YtmgdkefoehlamaaGreatDoor
namespace Go.Proofs.YtmgdkefoehlamaaGreatDoor
open Go.RowKit
set_option linter.unusedVariables false
set_option linter.unusedSimpArgs false

structure GapI (zs : List (Ad × Ad)) (s : Bool) (k at_ : Nat) (dn : Bool) (out : List (Ad × Ad)) (N : Nat) : Prop where
  apart : out.Pairwise (fun x y => x.2.n + 1 < y.1.n)
  right : ∀ y ∈ out, RgR y
  mem : ∀ m, InA out m ↔ Val m ∧ m < at_ ∧ ¬ InA zs m
  lo : ∀ y ∈ out, y.2.n + 1 < at_
  base : s2n s ≤ at_
  done : dn = true → at_ = topN s + 1
  more : dn = false → at_ ≤ topN s
  front : ∀ j x, k ≤ j → zs[j]? = some x → x.1.s = s → at_ ≤ x.1.n
  back : ∀ j x, j < k → zs[j]? = some x → x.1.s = s → x.2.n < at_
  len : out.length ≤ N + k
theorem GapI.skip {zs : List (Ad × Ad)} (hR : ∀ z ∈ zs, RgR z) {s : Bool} {k a N : Nat} {dn : Bool} {out : List (Ad × Ad)} (h : GapI zs s k a dn out N) {x : Ad × Ad} (hx : zs[k]? = some x) (hs : x.1.s ≠ s ∨ dn = true) : GapI zs s (k + 1) a dn out N where
  apart := h.apart
  right := h.right
  mem := h.mem
  lo := h.lo
  base := h.base
  done := h.done
  more := h.more
  front := fun j y hj => h.front j y (by omega)
  back := fun j y hj hy he => by
    rcases Nat.lt_or_ge j k with q | q
    · exact h.back j y q hy he
    · have e : j = k := by omega
      subst e
      rw [hx] at hy
      cases hy
      rcases hs with k1 | k1
      · exact absurd he k1
      · exfalso
        have h1 := h.front j x (Nat.le_refl _) hx he
        have h2 := h.done k1
        have h3 := rg_fam (hR x (List.mem_of_getElem? hx))
        have h4 := (hR x (List.mem_of_getElem? hx)).2.2.2
        rw [he] at h3
        omega
  len := by have := h.len; omega
theorem GapI.free {zs : List (Ad × Ad)} (hR : ∀ z ∈ zs, RgR z) (hp : zs.Pairwise (fun x y => x.2.n + 1 < y.1.n)) {s : Bool} {k a N : Nat} {dn : Bool} {out : List (Ad × Ad)} (h : GapI zs s k a dn out N) {m : Nat} (hm : a ≤ m) (hmt : m ≤ topN s) (hx : ∀ x, zs[k]? = some x → m < x.1.n) : ¬ InA zs m := by
  rintro ⟨z, hz, h1, h2⟩
  obtain ⟨j, hj⟩ := List.mem_iff_getElem?.1 hz
  have hzs := rg_fam_of (hR z hz) (Nat.le_trans h.base hm) hmt h1 h2
  rcases Nat.lt_trichotomy j k with q | q | q
  · have := h.back j z q hj hzs; omega
  · subst q; have := hx z hj; omega
  · have hk : k < zs.length := by have := (List.getElem?_eq_some_iff.1 hj).1; omega
    obtain ⟨x, hxk⟩ : ∃ x, zs[k]? = some x := ⟨zs[k], List.getElem?_eq_getElem hk⟩
    have h4 : x.2.n + 1 < z.1.n := by
      obtain ⟨h5, rfl⟩ := List.getElem?_eq_some_iff.1 hj
      obtain ⟨h6, rfl⟩ := List.getElem?_eq_some_iff.1 hxk
      exact List.pairwise_iff_getElem.1 hp k j h6 h5 q
    have hxr := (hR x (List.mem_of_getElem? hxk)).2.2.2
    have := hx x hxk
    omega
theorem GapI.take {zs : List (Ad × Ad)} (hR : ∀ z ∈ zs, RgR z) (hp : zs.Pairwise (fun x y => x.2.n + 1 < y.1.n)) {s : Bool} {k a N : Nat} {out : List (Ad × Ad)} (h : GapI zs s k a false out N) {x : Ad × Ad} (hx : zs[k]? = some x) (hs : x.1.s = s) :
    GapI zs s (k + 1) (x.2.n + 1) (decide (x.2.n = topN s)) (if a < x.1.n then out ++ [(adOf a, adOf (x.1.n - 1))] else out) N := by
  have hxR := hR x (List.mem_of_getElem? hx)
  have hxf := rg_fam hxR
  rw [hs] at hxf
  have hxl := hxR.2.2.2
  have ha := h.front k x (Nat.le_refl _) hx hs
  have hb := h.base
  have hpt : ∀ j z, k < j → zs[j]? = some z → x.2.n + 1 < z.1.n := fun j z hj hz => by
    obtain ⟨h5, rfl⟩ := List.getElem?_eq_some_iff.1 hz
    obtain ⟨h6, rfl⟩ := List.getElem?_eq_some_iff.1 hx
    exact List.pairwise_iff_getElem.1 hp k j h6 h5 hj
  have hxm : ∀ m, x.1.n ≤ m → m ≤ x.2.n → InA zs m := fun m h1 h2 => ⟨x, List.mem_of_getElem? hx, h1, h2⟩
  have rest : ∀ out' : List (Ad × Ad), out'.Pairwise (fun x y => x.2.n + 1 < y.1.n) → (∀ y ∈ out', RgR y) → (∀ m, InA out' m ↔ Val m ∧ m < x.1.n ∧ ¬ InA zs m) → (∀ y ∈ out', y.2.n + 1 < x.2.n + 1) → out'.length ≤ N + (k + 1) →
      GapI zs s (k + 1) (x.2.n + 1) (decide (x.2.n = topN s)) out' N := fun out' p1 p2 p3 p4 p5 =>
    { apart := p1
      right := p2
      mem := fun m => by
        rw [p3]
        constructor
        · rintro ⟨q1, q2, q3⟩; exact ⟨q1, by omega, q3⟩
        · rintro ⟨q1, q2, q3⟩
          refine ⟨q1, ?_, q3⟩
          rcases Nat.lt_or_ge m x.1.n with q | q
          · exact q
          · exact absurd (hxm m q (by omega)) q3
      lo := p4
      base := by omega
      done := fun e => by rw [of_decide_eq_true e]
      more := fun e => by have := of_decide_eq_false e; omega
      front := fun j z hj hz _ => by have := hpt j z (by omega) hz; omega
      back := fun j z hj hz he => by
        rcases Nat.lt_or_ge j k with q | q
        · have := h.back j z q hz he; omega
        · have e : j = k := by omega
          subst e; rw [hx] at hz; cases hz; omega
      len := p5 }
  by_cases hlt : a < x.1.n
  · rw [if_pos hlt]
    obtain ⟨r1, r2, r3⟩ := adOf_rg (s := s) (a := a) (b := x.1.n - 1) hb (by omega) (by omega)
    have hfree : ∀ m, a ≤ m → m ≤ x.1.n - 1 → ¬ InA zs m := fun m h1 h2 => h.free hR hp h1 (by omega) (fun y hy => by rw [hx] at hy; cases hy; omega)
    refine rest _ ?_ ?_ ?_ ?_ ?_
    · refine List.pairwise_append.2 ⟨h.apart, List.pairwise_singleton _ _, fun y hy z hz => ?_⟩
      rw [List.mem_singleton.1 hz]
      show y.2.n + 1 < (adOf a).n
      rw [r2]
      exact h.lo y hy
    · intro y hy
      rcases List.mem_append.1 hy with hy | hy
      · exact h.right y hy
      · rw [List.mem_singleton.1 hy]; exact r1
    · intro m
      rw [inA_append, h.mem, inA_cons]
      show (_ ∨ ((adOf a).n ≤ m ∧ m ≤ (adOf (x.1.n - 1)).n) ∨ _) ↔ _
      rw [r2, r3]
      constructor
      · rintro (⟨q1, q2, q3⟩ | ⟨q1, q2⟩ | q)
        · exact ⟨q1, by omega, q3⟩
        · exact ⟨fam_val (s := s) (by omega) (by omega), by omega, hfree m q1 q2⟩
        · exact absurd q (inA_nil m)
      · rintro ⟨q1, q2, q3⟩
        rcases Nat.lt_or_ge m a with q | q
        · exact .inl ⟨q1, q, q3⟩
        · exact .inr (.inl ⟨q, by omega⟩)
    · intro y hy
      rcases List.mem_append.1 hy with hy | hy
      · have := h.lo y hy; omega
      · rw [List.mem_singleton.1 hy]
        show (adOf (x.1.n - 1)).n + 1 < _
        rw [r3]; omega
    · have := h.len
      rw [List.length_append]; simp; omega
  · rw [if_neg hlt]
    have e : a = x.1.n := by omega
    refine rest _ h.apart h.right (fun m => by rw [h.mem, e]) (fun y hy => by have := h.lo y hy; omega) (by have := h.len; omega)
theorem GapI.ends {zs : List (Ad × Ad)} (hR : ∀ z ∈ zs, RgR z) (hp : zs.Pairwise (fun x y => x.2.n + 1 < y.1.n)) {s : Bool} {a N : Nat} {dn : Bool} {out : List (Ad × Ad)} (h : GapI zs s zs.length a dn out N) :
    ∃ out', out' = (if dn then out else out ++ [(adOf a, adOf (topN s))]) ∧ out'.Pairwise (fun x y => x.2.n + 1 < y.1.n) ∧ (∀ y ∈ out', RgR y ∧ y.2.n ≤ topN s) ∧ (∀ m, InA out' m ↔ Val m ∧ m ≤ topN s ∧ ¬ InA zs m) ∧ out'.length ≤ N + zs.length + 1 := by
  refine ⟨_, rfl, ?_⟩
  have hb := h.base
  have hlen := h.len
  cases dn with
  | true =>
    have hd := h.done rfl
    refine ⟨h.apart, fun y hy => ⟨h.right y hy, by have := h.lo y hy; omega⟩, fun m => ?_, by simp only [if_true]; omega⟩
    simp only [if_true]
    rw [h.mem, hd]
    constructor
    · rintro ⟨q1, q2, q3⟩; exact ⟨q1, by omega, q3⟩
    · rintro ⟨q1, q2, q3⟩; exact ⟨q1, by omega, q3⟩
  | false =>
    have hm := h.more rfl
    simp only [Bool.false_eq_true, if_false]
    obtain ⟨r1, r2, r3⟩ := adOf_rg (s := s) (a := a) (b := topN s) hb hm (Nat.le_refl _)
    have hfree : ∀ m, a ≤ m → m ≤ topN s → ¬ InA zs m := fun m h1 h2 => h.free hR hp h1 h2 (fun y hy => by
      have := (List.getElem?_eq_some_iff.1 hy).1; omega)
    refine ⟨?_, ?_, ?_, ?_⟩
    · refine List.pairwise_append.2 ⟨h.apart, List.pairwise_singleton _ _, fun y hy z hz => ?_⟩
      rw [List.mem_singleton.1 hz]
      show y.2.n + 1 < (adOf a).n
      rw [r2]
      exact h.lo y hy
    · intro y hy
      rcases List.mem_append.1 hy with hy | hy
      · exact ⟨h.right y hy, by have := h.lo y hy; omega⟩
      · rw [List.mem_singleton.1 hy]
        exact ⟨r1, by show (adOf (topN s)).n ≤ _; rw [r3]; exact Nat.le_refl _⟩
    · intro m
      rw [inA_append, h.mem, inA_cons]
      show (_ ∨ ((adOf a).n ≤ m ∧ m ≤ (adOf (topN s)).n) ∨ _) ↔ _
      rw [r2, r3]
      constructor
      · rintro (⟨q1, q2, q3⟩ | ⟨q1, q2⟩ | q)
        · exact ⟨q1, by omega, q3⟩
        · exact ⟨fam_val (s := s) (by omega) q2, q2, hfree m q1 q2⟩
        · exact absurd q (inA_nil m)
      · rintro ⟨q1, q2, q3⟩
        rcases Nat.lt_or_ge m a with q | q
        · exact .inl ⟨q1, q, q3⟩
        · exact .inr (.inl ⟨q, q2⟩)
    · rw [List.length_append]; simp; omega
theorem gaps_told {zs out : List (Ad × Ad)} (h1 : out.Pairwise (fun x y => x.2.n + 1 < y.1.n)) (h2 : ∀ y ∈ out, RgR y ∧ y.2.n ≤ topN true) (h3 : ∀ m, InA out m ↔ Val m ∧ m ≤ topN true ∧ ¬ InA zs m) : Tells out (fun m => Val m ∧ ¬ InA zs m) :=
  ⟨h1, fun m => by
    rw [h3]
    constructor
    · rintro ⟨q1, _, q3⟩; exact ⟨q1, q3⟩
    · rintro ⟨q1, q3⟩
      refine ⟨q1, ?_, q3⟩
      unfold Val at q1
      rw [topN_true]; omega, fun y hy => (h2 y hy).1⟩
end Go.Proofs.YtmgdkefoehlamaaGreatDoor
namespace Go.Proofs.YtmgdkefoehlamaaGreatDoor
open Go.RowKit
set_option linter.unusedVariables false
set_option linter.unusedSimpArgs false

theorem prev_step {a : Ad} (h : a.R) (hne : a.n ≠ s2n a.s) : (a.lo = 0 → 0 < a.hi ∧ adOf (a.n - 1) = ⟨a.s, a.hi - 1, 18446744073709551615⟩) ∧ (a.lo ≠ 0 → adOf (a.n - 1) = ⟨a.s, a.hi, a.lo - 1⟩) := by
  have hlt := h.1.n_lt
  have hge := (ad_fam h).1
  obtain ⟨⟨h1, h2⟩, ⟨h3, h4⟩⟩ := h.1
  constructor
  · intro hl
    have hhi : 0 < a.hi := by
      rcases Int.lt_or_le 0 a.hi with g | g
      · exact g
      · exfalso
        apply hne
        have hh : a.hi = 0 := by omega
        unfold Ad.n Ad.v num
        rw [hh, hl]
        rfl
    refine ⟨hhi, Ad.ext' (adOf_U _) ⟨⟨by show 0 ≤ a.hi - 1; omega, by show a.hi - 1 < _; omega⟩, ⟨by show (0 : Int) ≤ 18446744073709551615; omega, by show (18446744073709551615 : Int) < _; omega⟩⟩ ?_⟩
    rw [adOf_n (by omega)]
    unfold Ad.n Ad.v num
    simp only
    rw [hl]
    omega
  · intro hl
    refine Ad.ext' (adOf_U _) ⟨⟨h1, h2⟩, ⟨by show 0 ≤ a.lo - 1; omega, by show a.lo - 1 < _; omega⟩⟩ ?_
    rw [adOf_n (by omega)]
    unfold Ad.n Ad.v num
    simp only
    omega

set_option maxRecDepth 100000 in
set_option maxHeartbeats 4000000 in
theorem before_any (a : Ad) (w : World) (h : a.R) (hne : a.n ≠ s2n a.s) : Calls Tryz.prog 241 #[adA a] w (GivesV (adA (adOf (a.n - 1))) w) := by
  obtain ⟨h1, h2⟩ := two_new w (adC a) [.bool false, .int .u64 0, .int .u64 0] 38 38
  have hG := below_two w (.cells (adC a).toArray 38) (.cells #[.bool false, .int .u64 0, .int .u64 0] 38)
  have hst := prev_step h hne
  have c2 := h1.cell (i := 2) (v := .int .u64 a.lo) rfl
  have c1 := h1.cell (i := 1) (v := .int .u64 a.hi) rfl
  have f1 := h1.free 1
  have f2 := h1.free 2
  obtain ⟨⟨g1, g2⟩, ⟨g3, g4⟩⟩ := h.1
  by_cases hl : a.lo = 0
  · obtain ⟨hhi, st⟩ := hst.1 hl
    obtain ⟨M, hM⟩ : ∃ M : Int, M = 18446744073709551615 := ⟨_, rfl⟩
    have w1 : IntKind.u64.wrap (-1) = M := by rw [IntKind.wrap_u64, hM]; rfl
    have w2 : IntKind.u64.wrap (a.hi - 1) = a.hi - 1 := by rw [IntKind.wrap_u64]; omega
    have k1' := (h1.set 1 (.int .u64 (a.hi - 1))).set 2 (.int .u64 M)
    have k2' := (h2.other (a := ⟨w.heap.size, 1, none⟩) (by simp) (.int .u64 (a.hi - 1))).other (a := ⟨w.heap.size, 2, none⟩) (by simp) (.int .u64 M)
    have e1 : ((adC a).set 1 (.int .u64 (a.hi - 1))).set 2 (.int .u64 M) = adC (adOf (a.n - 1)) := by rw [st, hM]; rfl
    rw [e1] at k1'
    have L1 := k1'.ld rowAd rfl
    have S1 := stT_row rowAd k2' rfl (adC_len (adOf (a.n - 1))) (adC_one _)
    rw [hl] at c2
    clear hst hM g1 g2 g3 g4 hne h hl st e1 hhi
    go_enter Tryz.func241, Tryz.ntmps241
    go_upto_region 1 with fail
    generalize (w.alloc (.cells (adC a).toArray 38)).alloc (.cells #[.bool false, .int .u64 0, .int .u64 0] 38) = W at *
    go_wp2_with fail
    refine bodyPost_ret (v := adA (adOf (a.n - 1))) ?_ rfl ⟨rfl, ((hG.setCell (p := ⟨w.heap.size, 1, none⟩) (Nat.le_refl _) _).setCell (p := ⟨w.heap.size, 2, none⟩) (Nat.le_refl _) _).trans ⟨rfl, rfl, rfl, by simp, fun k hk => setRow_other _ _ _ _ (by omega)⟩⟩
    exact results_row rowAd rfl _ _ _ _ _ rfl (k2'.row _) rfl
  · have st := hst.2 hl
    have b0 : (a.lo == 0) = false := by simp [hl]
    have k1' := h1.set 2 (.int .u64 (a.lo - 1))
    have k2' := h2.other (a := ⟨w.heap.size, 2, none⟩) (by simp) (.int .u64 (a.lo - 1))
    have e1 : (adC a).set 2 (.int .u64 (a.lo - 1)) = adC (adOf (a.n - 1)) := by rw [st]; rfl
    rw [e1] at k1'
    have L1 := k1'.ld rowAd rfl
    have S1 := stT_row rowAd k2' rfl (adC_len (adOf (a.n - 1))) (adC_one _)
    have w1 : IntKind.u64.wrap (a.lo - 1) = a.lo - 1 := by rw [IntKind.wrap_u64]; omega
    clear hst g1 g2 g3 g4 hne h hl st e1
    go_enter Tryz.func241, Tryz.ntmps241
    go_upto_region 1 with fail
    generalize (w.alloc (.cells (adC a).toArray 38)).alloc (.cells #[.bool false, .int .u64 0, .int .u64 0] 38) = W at *
    go_wp2_with fail
    refine bodyPost_ret (v := adA (adOf (a.n - 1))) ?_ rfl ⟨rfl, (hG.setCell (p := ⟨w.heap.size, 2, none⟩) (Nat.le_refl _) _).trans ⟨rfl, rfl, rfl, by simp, fun k hk => setRow_other _ _ _ _ (by omega)⟩⟩
    exact results_row rowAd rfl _ _ _ _ _ rfl (k2'.row _) rfl
end Go.Proofs.YtmgdkefoehlamaaGreatDoor
namespace Go.Proofs.YtmgdkefoehlamaaGreatDoor
open Go.RowKit
set_option linter.unusedVariables false
set_option linter.unusedSimpArgs false

def hsF (x : Ad × Ad) (t : Nat) : Int := if x.2.n < t then -1 else if t < x.1.n then 1 else 0
set_option maxRecDepth 100000 in
theorem has1_any (x : Ad × Ad) (a : Ad) (w : World) (hx : RgR x) (ha : a.U) : Calls Tryz.prog 323 #[rgA x, rgA (a, a)] w (GivesV (.int .i64 (hsF x a.n)) w) := by
  have H1 := fun w' => Lib.hid ((spanCmp_d x.2 a w' hx.2.1.1 ha).mono fun e w2 h => h.v)
  have H2 := fun w' => Lib.hid ((spanCmp_d x.1 a w' hx.1.1 ha).mono fun e w2 h => h.v)
  obtain ⟨h1, h2⟩ := two_new w (rgC x) (rgC (a, a)) 53 53
  have hbw := below_two w (.cells (rgC x).toArray 53) (.cells (rgC (a, a)).toArray 53)
  have hV := Lib.hid (show (x.2.n < a.n → hsF x a.n = -1) ∧ (¬ x.2.n < a.n → hsF x a.n = max (cmpN x.1.n a.n) 0) from ⟨fun h => if_pos h, fun h => by
    unfold hsF cmpN
    rw [if_neg h]
    rcases Nat.lt_trichotomy x.1.n a.n with k | k | k
    · rw [if_neg (by omega), if_pos k]; rfl
    · rw [if_neg (by omega), if_neg (by omega), if_pos k]; rfl
    · rw [if_pos k, if_neg (by omega), if_neg (by omega)]; rfl⟩)
  have hcl := Lib.hid (cmpN_lt x.2.n a.n)
  generalize hsF x a.n = V at *
  generalize hc1 : cmpN x.2.n a.n = c1 at *
  generalize hc2 : cmpN x.1.n a.n = c2 at *
  clear hx ha hc1 hc2
  go_enter Tryz.func323, Tryz.ntmps323
  go_upto_region 1 with fail
  generalize (w.alloc (.cells (rgC x).toArray 53)).alloc (.cells (rgC (a, a)).toArray 53) = W at *
  have k1 := h1.ldAt rowAd 0 (adC x.1) (adC x.2) rfl rfl
  have k2 := h1.ldAt rowAd 3 (adC x.2) [] rfl rfl
  have k3 := h2.ldAt rowAd 0 (adC a) (adC a) rfl rfl
  have k4 := h2.ldAt rowAd 3 (adC a) [] rfl rfl
  go_wp2_with fail
  refine (H1 _).out.mono ?_
  rintro e w1 ⟨rfl, hb1⟩
  replace h1 := h1.below hb1
  replace h2 := h2.below hb1
  replace hbw := hbw.trans (hb1.mono hbw.size)
  clear hb1 k1 k2 k3 k4 H1
  have k1 := h1.ldAt rowAd 0 (adC x.1) (adC x.2) rfl rfl
  have k3 := h2.ldAt rowAd 0 (adC a) (adC a) rfl rfl
  have k4 := h2.ldAt rowAd 3 (adC a) [] rfl rfl
  by_cases hlt : x.2.n < a.n
  · have e1 := Lib.hid (hV.out.1 hlt)
    have HV : c1 < 0 := by have h := hcl.out; rw [decide_eq_true hlt] at h; exact of_decide_eq_true h
    clear hV hcl hlt
    go_wp2_with fail
    go_ret
    exact ⟨by rw [e1.out]; rfl, hbw⟩
  · have e1 := Lib.hid (hV.out.2 hlt)
    have HV : ¬ c1 < 0 := by have h := hcl.out; rw [decide_eq_false hlt] at h; exact of_decide_eq_false h
    clear hV hcl hlt
    go_wp2_with fail
    refine (H2 _).out.mono ?_
    rintro e w2 ⟨rfl, hb2⟩
    replace hbw := hbw.trans (hb2.mono hbw.size)
    clear hb2 k1 k3 k4 H2
    go_wp2_with fail
    all_goals go_ret
    all_goals exact ⟨by rw [e1.out]; first | rfl | (congr 2; omega), hbw⟩

theorem hs_neg (x : Ad × Ad) (t : Nat) : hsF x t < 0 ↔ x.2.n < t := by
  unfold hsF
  by_cases h : x.2.n < t
  · rw [if_pos h]; exact ⟨fun _ => h, fun _ => by decide⟩
  · rw [if_neg h]
    refine ⟨fun k => ?_, fun k => absurd k h⟩
    by_cases h2 : t < x.1.n
    · rw [if_pos h2] at k; omega
    · rw [if_neg h2] at k; omega
theorem hs_zero {x : Ad × Ad} (hx : x.1.n ≤ x.2.n) (t : Nat) : hsF x t = 0 ↔ x.1.n ≤ t ∧ t ≤ x.2.n := by
  unfold hsF
  by_cases h : x.2.n < t
  · rw [if_pos h]; exact ⟨fun k => absurd k (by decide), fun k => absurd k.2 (by omega)⟩
  · rw [if_neg h]
    by_cases h2 : t < x.1.n
    · rw [if_pos h2]; exact ⟨fun k => absurd k (by decide), fun k => absurd k.1 (by omega)⟩
    · rw [if_neg h2]; exact ⟨fun _ => by omega, fun _ => rfl⟩
theorem apart_get {l : List (Ad × Ad)} (hp : l.Pairwise (fun x y => x.2.n + 1 < y.1.n)) {i j : Nat} {x y : Ad × Ad} (hx : l[i]? = some x) (hy : l[j]? = some y) (h : i < j) : x.2.n + 1 < y.1.n := by
  obtain ⟨h5, rfl⟩ := List.getElem?_eq_some_iff.1 hx
  obtain ⟨h6, rfl⟩ := List.getElem?_eq_some_iff.1 hy
  exact List.pairwise_iff_getElem.1 hp i j h5 h6 h
def SrI (zs : List (Ad × Ad)) (t i j : Nat) : Prop := (∀ k x, k < i → zs[k]? = some x → x.2.n < t) ∧ (∀ k x, j ≤ k → zs[k]? = some x → t ≤ x.2.n)
theorem SrI.up {zs : List (Ad × Ad)} (hp : zs.Pairwise (fun x y => x.2.n + 1 < y.1.n)) (hR : ∀ z ∈ zs, RgR z) {t i j h : Nat} (H : SrI zs t i j) {x : Ad × Ad} (hx : zs[h]? = some x) (hl : x.2.n < t) : SrI zs t (h + 1) j :=
  ⟨fun k y hk hy => by
    rcases Nat.lt_or_ge k h with q | q
    · have := apart_get hp hy hx q
      have := (hR x (List.mem_of_getElem? hx)).2.2.2
      omega
    · have e : k = h := by omega
      subst e; rw [hx] at hy; cases hy; exact hl, H.2⟩
theorem SrI.down {zs : List (Ad × Ad)} (hp : zs.Pairwise (fun x y => x.2.n + 1 < y.1.n)) (hR : ∀ z ∈ zs, RgR z) {t i j h : Nat} (H : SrI zs t i j) {x : Ad × Ad} (hx : zs[h]? = some x) (hl : ¬ x.2.n < t) : SrI zs t i h :=
  ⟨H.1, fun k y hk hy => by
    rcases Nat.lt_or_ge h k with q | q
    · have := apart_get hp hx hy q
      have := (hR y (List.mem_of_getElem? hy)).2.2.2
      omega
    · have e : k = h := by omega
      subst e; rw [hx] at hy; cases hy; omega⟩
theorem SrI.found {zs : List (Ad × Ad)} (hp : zs.Pairwise (fun x y => x.2.n + 1 < y.1.n)) (hR : ∀ z ∈ zs, RgR z) {t i : Nat} (H : SrI zs t i i) {x : Ad × Ad} (hx : zs[i]? = some x) : hasB zs t = decide (hsF x t = 0) := by
  rw [Bool.eq_iff_iff, hasB_iff, decide_eq_true_iff, hs_zero (hR x (List.mem_of_getElem? hx)).2.2.2]
  constructor
  · rintro ⟨y, hy, h1, h2⟩
    obtain ⟨k, hk⟩ := List.mem_iff_getElem?.1 hy
    rcases Nat.lt_trichotomy k i with q | q | q
    · have := H.1 k y q hk; omega
    · subst q; rw [hx] at hk; cases hk; exact ⟨h1, h2⟩
    · have := apart_get hp hx hk q
      have := H.2 i x (Nat.le_refl _) hx
      omega
  · intro h
    exact ⟨x, List.mem_of_getElem? hx, h⟩
theorem SrI.none {zs : List (Ad × Ad)} {t i : Nat} (H : SrI zs t i i) (hi : zs.length ≤ i) : hasB zs t = false := by
  rw [Bool.eq_false_iff]
  intro h
  obtain ⟨y, hy, h1, h2⟩ := (hasB_iff _ _).1 h
  obtain ⟨k, hk⟩ := List.mem_iff_getElem?.1 hy
  have := H.1 k y (by have := (List.getElem?_eq_some_iff.1 hk).1; omega) hk
  omega

set_option maxRecDepth 100000 in
set_option maxHeartbeats 4000000 in
theorem search_any (A : Option Addr) (n cap : Nat) (zs : List (Ad × Ad)) (w : World) (hS : SlE eRg w A n cap zs) (hn : n ≤ 100000) (hR : ∀ x ∈ zs, RgR x) (hp : zs.Pairwise (fun x y => x.2.n + 1 < y.1.n)) (a : Ad) (ha : a.U) :
    Calls Tryz.prog 322 #[.slice A n cap, rgA (a, a), .func (.func 323) #[] #[]] w fun e w' => ∃ i : Int, e = .returned (.tuple #[.int .i64 i, .bool (hasB zs a.n)]) ∧ Below w.heap.size w w' := by
  have hpl := Lib.hid hS.1
  replace hS := Lib.hid hS
  replace hR := Lib.hid hR
  replace hp := Lib.hid hp
  have hCa := Blk.new w (rgC (a, a)) 53
  have hbw0 : Below w.heap.size w (w.alloc (.cells (rgC (a, a)).toArray 53)) := (Below.refl _ _).alloc (Nat.le_refl _) _
  have H1 := Lib.hid (fun (x : Ad × Ad) w' (hx : RgR x) => has1_any x a w' hx ha)
  obtain ⟨t, ht⟩ : ∃ t, t = a.n := ⟨_, rfl⟩
  rw [← ht] at H1 ⊢
  clear ht ha
  go_enter Tryz.func322, Tryz.ntmps322
  go_wp2_with fail
  go_loopw [9, 10] (fun vi vj wr => ∃ i j : Nat, i ≤ j ∧ j ≤ n ∧ vi = .int .i64 i ∧ vj = .int .i64 j ∧ Hid (SrI zs t i j) ∧ Blk wr w.heap.size (rgC (a, a)) 53 ∧ Below w.heap.size w wr) (fun vi vj _ => (intOf vj).toNat - (intOf vi).toNat)
  case atStart => exact ⟨0, n, by omega, by omega, rfl, rfl, Lib.hid ⟨fun k x hk => by omega, fun k x hk hx => by have := (List.getElem?_eq_some_iff.1 hx).1; have := hpl.out; omega⟩, hCa, hbw0⟩
  case round =>
    obtain ⟨i, j, hij, hj, rfl, rfl, hI, hC, hbw⟩ := hrel
    by_cases hlt : i < j
    · have hlt' : (i : Int) < j := by omega
      obtain ⟨h, hh⟩ : ∃ h, h = (i + j) / 2 := ⟨_, rfl⟩
      have hh1 : i ≤ h := by omega
      have hh2 : h < j := by omega
      have hh3 : h < n := by omega
      obtain ⟨x, hx⟩ : ∃ x, zs[h]? = some x := ⟨zs[h]'(by have := hpl.out; omega), List.getElem?_eq_getElem _⟩
      obtain ⟨g0, off, rfl, _, _⟩ := hS.out.at' hh3
      have LD : ∀ W, Below w.heap.size w W → (ldT 53 (.pointer (some ⟨g0, off + h * 6, none⟩))).run Tryz.prog W = .ok (.value (rgA x)) W := fun W hW => SlE.ld rowRg (hS.out.below hW) hx
      have hxR := hR.out x (List.mem_of_getElem? hx)
      have HX := fun w' => Lib.hid (H1.out x w' hxR)
      have hup := fun hl => Lib.hid (hI.out.up hp.out hR.out hx hl)
      have hdn := fun hl => Lib.hid (hI.out.down hp.out hR.out hx hl)
      have hng := Lib.hid (hs_neg x t)
      generalize hsF x t = V at *
      replace hx := Lib.hid hx
      have q1 : IntKind.i64.wrap ((i : Int) + j) = (i : Int) + j := IntWalk.i64_in _ (by omega)
      have q2 : IntKind.u64.wrap ((i : Int) + j) = (i : Int) + j := by rw [IntKind.wrap_u64]; omega
      have q3 : ((i : Int) + j) / 2 = h := by omega
      have q4 : IntKind.i64.wrap (h : Int) = h := IntWalk.i64_in _ (by omega)
      have hh4 : (h : Int) < n := by omega
      replace hh := Lib.hid hh
      go_upto_region 5 with fail
      refine wx_begin (none) [] (by kernel_rfl) (fun u0 hb0' hz0' => ?_)
      replace hC := hC.below hb0'
      replace hbw := hbw.trans (hb0'.mono hbw.size)
      clear hb0' hz0'
      refine wx_pure (i := 0) (d := some 24) (v := ?_) (by simp only [gzA, gzB, gzC] <;> rfl) (by rfl) (by kernel_rfl) (by kernel_rfl) (by kernel_rfl) (fun _ _ _ h => h) (by rfl) ?_ ?_
      rotate_left
      · ((intro u); go_simp; try with_reducible rfl)
      try simp only [Act.put, gzD, gzE, gzF]
      refine wx_pure (i := 1) (d := some 25) (v := ?_) (by simp only [gzA, gzB, gzC] <;> rfl) (by rfl) (by kernel_rfl) (by kernel_rfl) (by kernel_rfl) (fun _ _ _ h => h) (by rfl) ?_ ?_
      rotate_left
      · ((intro u); go_simp; try with_reducible rfl)
      try simp only [Act.put, gzD, gzE, gzF]
      refine wx_pure (i := 2) (d := some 26) (v := ?_) (by simp only [gzA, gzB, gzC] <;> rfl) (by rfl) (by kernel_rfl) (by kernel_rfl) (by kernel_rfl) (fun _ _ _ h => h) (by rfl) ?_ ?_
      rotate_left
      · ((intro u); go_simp; try with_reducible rfl)
      try simp only [Act.put, gzD, gzE, gzF]
      refine wx_pure (i := 3) (d := some 27) (v := ?_) (by simp only [gzA, gzB, gzC] <;> rfl) (by rfl) (by kernel_rfl) (by kernel_rfl) (by kernel_rfl) (fun _ _ _ h => h) (by rfl) ?_ ?_
      rotate_left
      · ((intro u); go_simp; try with_reducible rfl)
      try simp only [Act.put, gzD, gzE, gzF]
      refine wx_take (i := 4) (d := some 28) (v := ?_) (by simp only [gzA, gzB, gzC] <;> rfl) (by rfl) (by kernel_rfl) (by kernel_rfl) (by kernel_rfl) (fun _ _ _ h => h) (by rfl) (by kernel_rfl) ?_ ?_
      rotate_left
      · ((intro u hu); have k1 := (hC.gn hu).ld rowRg rfl; have k2 := LD _ (hbw.grown hu hbw.size (fun _ h => by cases h)); go_simp; try with_reducible rfl)
      try simp only [Act.put, gzD, gzE, gzF]
      refine wx_take (i := 5) (d := some 29) (v := ?_) (by simp only [gzA, gzB, gzC] <;> rfl) (by rfl) (by kernel_rfl) (by kernel_rfl) (by kernel_rfl) (fun _ _ _ h => h) (by rfl) (by kernel_rfl) ?_ ?_
      rotate_left
      · ((intro u hu); have k1 := (hC.gn hu).ld rowRg rfl; have k2 := LD _ (hbw.grown hu hbw.size (fun _ h => by cases h)); go_simp; try with_reducible rfl)
      try simp only [Act.put, gzD, gzE, gzF]
      refine wx_one (i := 6) (by simp only [gzA, gzB, gzC] <;> rfl) (by kernel_rfl) (by rfl) (fun K hK => ?_)
      go_simp
      refine (HX _).out.mono ?_
      rintro e u1 ⟨rfl, hv1⟩
      refine hK _ _ (gbB hv1) ?_
      replace hC := hC.below hv1
      replace hbw := hbw.trans (hv1.mono hbw.size)
      clear hK K hv1
      try simp only [Act.put, gzD, gzE, gzF]
      refine wx_pure (i := 7) (d := some 31) (v := ?_) (by simp only [gzA, gzB, gzC] <;> rfl) (by rfl) (by kernel_rfl) (by kernel_rfl) (by kernel_rfl) (fun _ _ _ h => h) (by rfl) ?_ ?_
      rotate_left
      · ((intro u); go_simp; try with_reducible rfl)
      try simp only [Act.put, gzD, gzE, gzF]
      refine wx_done (by kernel_rfl) ?_ _
      skip
      by_cases hl : x.2.n < t
      · have HV : V < 0 := hng.out.2 hl
        have hI2 := hup hl
        clear hup hdn hng hl
        go_wp2_with fail
        go_roundw
        case rel => exact ⟨h + 1, j, by omega, hj, by go_num, rfl, hI2, hC, hbw⟩
        case measure => simp [intOf]; omega
      · have HV : ¬ V < 0 := fun h => hl (hng.out.1 h)
        have hI2 := hdn hl
        clear hup hdn hng hl
        go_wp2_with fail
        go_roundw
        case rel => exact ⟨i, h, hh1, by omega, rfl, rfl, hI2, hC, hbw⟩
        case measure => simp [intOf]; omega
    · have e : j = i := by omega
      subst e
      clear hlt hij
      by_cases hin : j < n
      · have hin' : (j : Int) < n := by omega
        obtain ⟨x, hx⟩ : ∃ x, zs[j]? = some x := ⟨zs[j]'(by have := hpl.out; omega), List.getElem?_eq_getElem _⟩
        obtain ⟨g0, off, rfl, _, _⟩ := hS.out.at' hin
        have LD : ∀ W, Below w.heap.size w W → (ldT 53 (.pointer (some ⟨g0, off + j * 6, none⟩))).run Tryz.prog W = .ok (.value (rgA x)) W := fun W hW => SlE.ld rowRg (hS.out.below hW) hx
        have hxR := hR.out x (List.mem_of_getElem? hx)
        have HX := fun w' => Lib.hid (H1.out x w' hxR)
        have hfin := Lib.hid (hI.out.found hp.out hR.out hx)
        generalize hsF x t = V at *
        replace hx := Lib.hid hx
        go_upto_region 8 with fail
        refine wx_begin (none) [] (by kernel_rfl) (fun u0 hb0' hz0' => ?_)
        replace hC := hC.below hb0'
        replace hbw := hbw.trans (hb0'.mono hbw.size)
        clear hb0' hz0'
        refine wx_pure (i := 0) (d := some 35) (v := ?_) (by simp only [gzA, gzB, gzC] <;> rfl) (by rfl) (by kernel_rfl) (by kernel_rfl) (by kernel_rfl) (fun _ _ _ h => h) (by rfl) ?_ ?_
        rotate_left
        · ((intro u); go_simp; try with_reducible rfl)
        try simp only [Act.put, gzD, gzE, gzF]
        refine wx_pure (i := 1) (d := some 36) (v := ?_) (by simp only [gzA, gzB, gzC] <;> rfl) (by rfl) (by kernel_rfl) (by kernel_rfl) (by kernel_rfl) (fun _ _ _ h => h) (by rfl) ?_ ?_
        rotate_left
        · ((intro u); go_simp; try with_reducible rfl)
        try simp only [Act.put, gzD, gzE, gzF]
        refine wx_pure (i := 2) (d := some 37) (v := ?_) (by simp only [gzA, gzB, gzC] <;> rfl) (by rfl) (by kernel_rfl) (by kernel_rfl) (by kernel_rfl) (fun _ _ _ h => h) (by rfl) ?_ ?_
        rotate_left
        · ((intro u); go_simp; try with_reducible rfl)
        try simp only [Act.put, gzD, gzE, gzF]
        refine wx_pure (i := 3) (d := some 38) (v := ?_) (by simp only [gzA, gzB, gzC] <;> rfl) (by rfl) (by kernel_rfl) (by kernel_rfl) (by kernel_rfl) (fun _ _ _ h => h) (by rfl) ?_ ?_
        rotate_left
        · ((intro u); go_simp; try with_reducible rfl)
        try simp only [Act.put, gzD, gzE, gzF]
        refine wx_pure (i := 4) (d := some 39) (v := ?_) (by simp only [gzA, gzB, gzC] <;> rfl) (by rfl) (by kernel_rfl) (by kernel_rfl) (by kernel_rfl) (fun _ _ _ h => h) (by rfl) ?_ ?_
        rotate_left
        · ((intro u); go_simp; try with_reducible rfl)
        try simp only [Act.put, gzD, gzE, gzF]
        refine wx_pure (i := 5) (d := some 40) (v := ?_) (by simp only [gzA, gzB, gzC] <;> rfl) (by rfl) (by kernel_rfl) (by kernel_rfl) (by kernel_rfl) (fun _ _ _ h => h) (by rfl) ?_ ?_
        rotate_left
        · ((intro u); go_simp; try with_reducible rfl)
        try simp only [Act.put, gzD, gzE, gzF]
        refine wx_pure (i := 6) (d := some 41) (v := ?_) (by simp only [gzA, gzB, gzC] <;> rfl) (by rfl) (by kernel_rfl) (by kernel_rfl) (by kernel_rfl) (fun _ _ _ h => h) (by rfl) ?_ ?_
        rotate_left
        · ((intro u); go_simp; try with_reducible rfl)
        try simp only [Act.put, gzD, gzE, gzF]
        refine wx_pure (i := 7) (d := some 42) (v := ?_) (by simp only [gzA, gzB, gzC] <;> rfl) (by rfl) (by kernel_rfl) (by kernel_rfl) (by kernel_rfl) (fun _ _ _ h => h) (by rfl) ?_ ?_
        rotate_left
        · ((intro u); go_simp; try with_reducible rfl)
        try simp only [Act.put, gzD, gzE, gzF]
        refine wx_pure (i := 8) (d := some 43) (v := ?_) (by simp only [gzA, gzB, gzC] <;> rfl) (by rfl) (by kernel_rfl) (by kernel_rfl) (by kernel_rfl) (fun _ _ _ h => h) (by rfl) ?_ ?_
        rotate_left
        · ((intro u); go_simp; try with_reducible rfl)
        try simp only [Act.put, gzD, gzE, gzF]
        refine wx_take (i := 9) (d := some 44) (v := ?_) (by simp only [gzA, gzB, gzC] <;> rfl) (by rfl) (by kernel_rfl) (by kernel_rfl) (by kernel_rfl) (fun _ _ _ h => h) (by rfl) (by kernel_rfl) ?_ ?_
        rotate_left
        · ((intro u hu); have k1 := (hC.gn hu).ld rowRg rfl; have k2 := LD _ (hbw.grown hu hbw.size (fun _ h => by cases h)); go_simp; try with_reducible rfl)
        try simp only [Act.put, gzD, gzE, gzF]
        refine wx_take (i := 10) (d := some 45) (v := ?_) (by simp only [gzA, gzB, gzC] <;> rfl) (by rfl) (by kernel_rfl) (by kernel_rfl) (by kernel_rfl) (fun _ _ _ h => h) (by rfl) (by kernel_rfl) ?_ ?_
        rotate_left
        · ((intro u hu); have k1 := (hC.gn hu).ld rowRg rfl; have k2 := LD _ (hbw.grown hu hbw.size (fun _ h => by cases h)); go_simp; try with_reducible rfl)
        try simp only [Act.put, gzD, gzE, gzF]
        refine wx_one (i := 11) (by simp only [gzA, gzB, gzC] <;> rfl) (by kernel_rfl) (by rfl) (fun K hK => ?_)
        go_simp
        refine (HX _).out.mono ?_
        rintro e u1 ⟨rfl, hv1⟩
        refine hK _ _ (gbB hv1) ?_
        replace hC := hC.below hv1
        replace hbw := hbw.trans (hv1.mono hbw.size)
        clear hK K hv1
        try simp only [Act.put, gzD, gzE, gzF]
        refine wx_pure (i := 12) (d := some 47) (v := ?_) (by simp only [gzA, gzB, gzC] <;> rfl) (by rfl) (by kernel_rfl) (by kernel_rfl) (by kernel_rfl) (fun _ _ _ h => h) (by rfl) ?_ ?_
        rotate_left
        · ((intro u); go_simp; try with_reducible rfl)
        try simp only [Act.put, gzD, gzE, gzF]
        refine wx_pure (i := 13) (d := some 48) (v := ?_) (by simp only [gzA, gzB, gzC] <;> rfl) (by rfl) (by kernel_rfl) (by kernel_rfl) (by kernel_rfl) (fun _ _ _ h => h) (by rfl) ?_ ?_
        rotate_left
        · ((intro u); go_simp; try with_reducible rfl)
        try simp only [Act.put, gzD, gzE, gzF]
        refine wx_pure (i := 14) (d := some 6) (v := ?_) (by simp only [gzA, gzB, gzC] <;> rfl) (by rfl) (by kernel_rfl) (by kernel_rfl) (by kernel_rfl) (fun _ _ _ h => h) (by rfl) ?_ ?_
        rotate_left
        · ((intro u); go_simp; try with_reducible rfl)
        try simp only [Act.put, gzD, gzE, gzF]
        refine wx_pure (i := 15) (d := some 7) (v := ?_) (by simp only [gzA, gzB, gzC] <;> rfl) (by rfl) (by kernel_rfl) (by kernel_rfl) (by kernel_rfl) (fun _ _ _ h => h) (by rfl) ?_ ?_
        rotate_left
        · ((intro u); go_simp; try with_reducible rfl)
        try simp only [Act.put, gzD, gzE, gzF]
        refine wx_done (by kernel_rfl) ?_ _
        skip
        go_wp2_with fail
        go_ret2
        exact ⟨_, by rw [hfin.out]; first | rfl | skip, hbw⟩
      · have hin' : ¬ (j : Int) < n := by omega
        have hfin := Lib.hid (hI.out.none (by have := hpl.out; omega))
        go_upto_region 8 with fail
        refine wx_begin (none) [] (by kernel_rfl) (fun u0 hb0' hz0' => ?_)
        replace hC := hC.below hb0'
        replace hbw := hbw.trans (hb0'.mono hbw.size)
        clear hb0' hz0'
        refine wx_pure (i := 0) (d := some 35) (v := ?_) (by simp only [gzA, gzB, gzC] <;> rfl) (by rfl) (by kernel_rfl) (by kernel_rfl) (by kernel_rfl) (fun _ _ _ h => h) (by rfl) ?_ ?_
        rotate_left
        · ((intro u); go_simp; try with_reducible rfl)
        try simp only [Act.put, gzD, gzE, gzF]
        refine wx_pure (i := 1) (d := some 36) (v := ?_) (by simp only [gzA, gzB, gzC] <;> rfl) (by rfl) (by kernel_rfl) (by kernel_rfl) (by kernel_rfl) (fun _ _ _ h => h) (by rfl) ?_ ?_
        rotate_left
        · ((intro u); go_simp; try with_reducible rfl)
        try simp only [Act.put, gzD, gzE, gzF]
        refine wx_pure (i := 2) (d := some 37) (v := ?_) (by simp only [gzA, gzB, gzC] <;> rfl) (by rfl) (by kernel_rfl) (by kernel_rfl) (by kernel_rfl) (fun _ _ _ h => h) (by rfl) ?_ ?_
        rotate_left
        · ((intro u); go_simp; try with_reducible rfl)
        try simp only [Act.put, gzD, gzE, gzF]
        refine wx_pure (i := 3) (d := some 38) (v := ?_) (by simp only [gzA, gzB, gzC] <;> rfl) (by rfl) (by kernel_rfl) (by kernel_rfl) (by kernel_rfl) (fun _ _ _ h => h) (by rfl) ?_ ?_
        rotate_left
        · ((intro u); go_simp; try with_reducible rfl)
        try simp only [Act.put, gzD, gzE, gzF]
        refine wx_pure (i := 4) (d := some 39) (v := ?_) (by simp only [gzA, gzB, gzC] <;> rfl) (by rfl) (by kernel_rfl) (by kernel_rfl) (by kernel_rfl) (fun _ _ _ h => h) (by rfl) ?_ ?_
        rotate_left
        · ((intro u); go_simp; try with_reducible rfl)
        try simp only [Act.put, gzD, gzE, gzF]
        refine wx_skip (i := 5) (d := some 40) (by simp only [gzA, gzB, gzC] <;> rfl) (by rfl) (by kernel_rfl) (by kernel_rfl) (by kernel_rfl) (fun _ _ _ h => h) (by rfl) ?_
        try simp only [Act.put, gzD, gzE, gzF]
        refine wx_skip (i := 6) (d := some 41) (by simp only [gzA, gzB, gzC] <;> rfl) (by rfl) (by kernel_rfl) (by kernel_rfl) (by kernel_rfl) (fun _ _ _ h => h) (by rfl) ?_
        try simp only [Act.put, gzD, gzE, gzF]
        refine wx_skip (i := 7) (d := some 42) (by simp only [gzA, gzB, gzC] <;> rfl) (by rfl) (by kernel_rfl) (by kernel_rfl) (by kernel_rfl) (fun _ _ _ h => h) (by rfl) ?_
        try simp only [Act.put, gzD, gzE, gzF]
        refine wx_skip (i := 8) (d := some 43) (by simp only [gzA, gzB, gzC] <;> rfl) (by rfl) (by kernel_rfl) (by kernel_rfl) (by kernel_rfl) (fun _ _ _ h => h) (by rfl) ?_
        try simp only [Act.put, gzD, gzE, gzF]
        refine wx_skip (i := 9) (d := some 44) (by simp only [gzA, gzB, gzC] <;> rfl) (by rfl) (by kernel_rfl) (by kernel_rfl) (by kernel_rfl) (fun _ _ _ h => h) (by rfl) ?_
        try simp only [Act.put, gzD, gzE, gzF]
        refine wx_skip (i := 10) (d := some 45) (by simp only [gzA, gzB, gzC] <;> rfl) (by rfl) (by kernel_rfl) (by kernel_rfl) (by kernel_rfl) (fun _ _ _ h => h) (by rfl) ?_
        try simp only [Act.put, gzD, gzE, gzF]
        refine wx_skip (i := 11) (d := some 46) (by simp only [gzA, gzB, gzC] <;> rfl) (by rfl) (by kernel_rfl) (by kernel_rfl) (by kernel_rfl) (fun _ _ _ h => h) (by rfl) ?_
        try simp only [Act.put, gzD, gzE, gzF]
        refine wx_skip (i := 12) (d := some 47) (by simp only [gzA, gzB, gzC] <;> rfl) (by rfl) (by kernel_rfl) (by kernel_rfl) (by kernel_rfl) (fun _ _ _ h => h) (by rfl) ?_
        try simp only [Act.put, gzD, gzE, gzF]
        refine wx_pure (i := 13) (d := some 48) (v := ?_) (by simp only [gzA, gzB, gzC] <;> rfl) (by rfl) (by kernel_rfl) (by kernel_rfl) (by kernel_rfl) (fun _ _ _ h => h) (by rfl) ?_ ?_
        rotate_left
        · ((intro u); go_simp; try with_reducible rfl)
        try simp only [Act.put, gzD, gzE, gzF]
        refine wx_pure (i := 14) (d := some 6) (v := ?_) (by simp only [gzA, gzB, gzC] <;> rfl) (by rfl) (by kernel_rfl) (by kernel_rfl) (by kernel_rfl) (fun _ _ _ h => h) (by rfl) ?_ ?_
        rotate_left
        · ((intro u); go_simp; try with_reducible rfl)
        try simp only [Act.put, gzD, gzE, gzF]
        refine wx_pure (i := 15) (d := some 7) (v := ?_) (by simp only [gzA, gzB, gzC] <;> rfl) (by rfl) (by kernel_rfl) (by kernel_rfl) (by kernel_rfl) (fun _ _ _ h => h) (by rfl) ?_ ?_
        rotate_left
        · ((intro u); go_simp; try with_reducible rfl)
        try simp only [Act.put, gzD, gzE, gzF]
        refine wx_done (by kernel_rfl) ?_ _
        skip
        go_wp2_with fail
        go_ret2
        first | exact ⟨_, by rw [hfin.out]; rfl, hbw⟩ | exact ⟨⟨_, by rw [hfin.out]; rfl⟩, hbw⟩

set_option maxRecDepth 100000 in
theorem meets_any (A : Option Addr) (n cap : Nat) (zs : List (Ad × Ad)) (w : World) (hS : SlE eRg w A n cap zs) (hn : n ≤ 100000) (hR : ∀ x ∈ zs, RgR x) (hp : zs.Pairwise (fun x y => x.2.n + 1 < y.1.n)) (a : Ad) (ha : a.U) :
    Calls Tryz.prog 244 #[.slice A n cap, rgA (a, a)] w (GivesV (.bool (hasB zs a.n)) w) := by
  have hC := Blk.new w (rgC (a, a)) 53
  have hbw : Below w.heap.size w (w.alloc (.cells (rgC (a, a)).toArray 53)) := (Below.refl _ _).alloc (Nat.le_refl _) _
  have HS := Lib.hid (search_any A n cap zs _ (hS.below hbw) hn hR hp a ha)
  have k1 := hC.ld rowRg rfl
  generalize hasB zs a.n = V at *
  clear hS hR hp ha
  go_enter Tryz.func244, Tryz.ntmps244
  go_wp2_with fail
  refine HS.out.mono ?_
  rintro e w1 ⟨i, rfl, hb1⟩
  replace hbw := hbw.trans (hb1.mono hbw.size)
  go_wp2_with fail
  go_ret
  exact ⟨rfl, hbw⟩

set_option maxRecDepth 100000 in
theorem has_any (A : Option Addr) (n cap : Nat) (zs : List (Ad × Ad)) (w : World) (hS : SlE eRg w A n cap zs) (hn : n ≤ 100000) (hR : ∀ x ∈ zs, RgR x) (hp : zs.Pairwise (fun x y => x.2.n + 1 < y.1.n)) (a : Ad) (ha : a.U) :
    Calls Tryz.prog 158 #[.slice A n cap, adA a] w (GivesV (.bool (hasB zs a.n)) w) := by
  have hC := Blk.new w (adC a) 38
  have hbw : Below w.heap.size w (w.alloc (.cells (adC a).toArray 38)) := (Below.refl _ _).alloc (Nat.le_refl _) _
  have HM := Lib.hid (meets_any A n cap zs _ (hS.below hbw) hn hR hp a ha)
  have k1 := hC.ld rowAd rfl
  generalize hasB zs a.n = V at *
  clear hS hR hp ha
  go_enter Tryz.func158, Tryz.ntmps158
  go_wp2_with fail
  refine HM.out.mono ?_
  rintro e w1 ⟨rfl, hb1⟩
  replace hbw := hbw.trans (hb1.mono hbw.size)
  go_wp2_with fail
  go_ret
  exact ⟨rfl, hbw⟩
end Go.Proofs.YtmgdkefoehlamaaGreatDoor
