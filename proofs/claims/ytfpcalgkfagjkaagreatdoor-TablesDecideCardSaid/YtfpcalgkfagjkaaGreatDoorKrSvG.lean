/- Sets: addresses are sorted. -/
import Derived.Test.YtfpcalgkfagjkaaGreatDoorKrSvB
import Derived.Test.YtfpcalgkfagjkaaGreatDoorKrStP
import Derived.Test.YtfpcalgkfagjkaaGreatDoorKrStG
set_option linter.unusedVariables false
set_option linter.unusedSimpArgs false
set_option maxRecDepth 100000
namespace Go.Proofs.YtfpcalgkfagjkaaGreatDoor
open Go.RowKit

theorem ad_fam {a : Ad} (h : a.R) : s2n a.s ≤ a.n ∧ a.n ≤ topN a.s := by
  refine ⟨?_, h.le_top⟩
  unfold Ad.n
  omega
theorem fam_of {a : Ad} (h : a.R) {s : Bool} (h1 : s2n s ≤ a.n) (h2 : a.n ≤ topN s) : a.s = s := by
  obtain ⟨k1, k2⟩ := ad_fam h
  revert h1 h2 k1 k2
  generalize a.n = m
  cases a.s <;> cases s <;> simp only [s2n_true, s2n_false, topN_true, topN_false] <;> intro h1 h2 k1 k2
  all_goals first | rfl | trivial | (exfalso; omega)
theorem fam_val {s : Bool} {m : Nat} (h1 : s2n s ≤ m) (h2 : m ≤ topN s) : Val m := by
  unfold Val
  revert h1 h2
  cases s <;> simp only [s2n_true, s2n_false, topN_true, topN_false] <;> intro h1 h2 <;> omega
theorem val_fam {m : Nat} (h : Val m) : ∃ s, s2n s ≤ m ∧ m ≤ topN s := by
  rcases h with h | h
  · exact ⟨false, by simp only [s2n_false, topN_false]; omega⟩
  · exact ⟨true, by simp only [s2n_true, topN_true]; omega⟩
theorem fam_one {s t : Bool} {m : Nat} (h1 : s2n s ≤ m) (h2 : m ≤ topN s) (h3 : s2n t ≤ m) (h4 : m ≤ topN t) : s = t := by
  revert h1 h2 h3 h4
  cases s <;> cases t <;> simp only [s2n_true, s2n_false, topN_true, topN_false] <;> intro h1 h2 h3 h4
  all_goals first | rfl | trivial | (exfalso; omega)
theorem adOf_fam {s : Bool} {m : Nat} (h1 : s2n s ≤ m) (h2 : m ≤ topN s) : (adOf m).R ∧ (adOf m).n = m ∧ (adOf m).s = s := by
  have hv := fam_val h1 h2
  have hR := adOf_R hv
  have hn : (adOf m).n = m := adOf_n (by rcases hv with h | h <;> omega)
  exact ⟨hR, hn, fam_of hR (by rw [hn]; exact h1) (by rw [hn]; exact h2)⟩
theorem rg_fam {x : Ad × Ad} (h : RgR x) : s2n x.1.s ≤ x.1.n ∧ x.2.n ≤ topN x.1.s := ⟨(ad_fam h.1).1, by rw [h.2.2.1]; exact (ad_fam h.2.1).2⟩
theorem rg_fam_of {x : Ad × Ad} (h : RgR x) {s : Bool} {m : Nat} (h1 : s2n s ≤ m) (h2 : m ≤ topN s) (h3 : x.1.n ≤ m) (h4 : m ≤ x.2.n) : x.1.s = s := by
  obtain ⟨k1, k2⟩ := rg_fam h
  exact fam_one (by omega) (by omega) h1 h2
theorem adOf_rg {s : Bool} {a b : Nat} (h1 : s2n s ≤ a) (h2 : a ≤ b) (h3 : b ≤ topN s) : RgR (adOf a, adOf b) ∧ (adOf a).n = a ∧ (adOf b).n = b := by
  obtain ⟨p1, p2, p3⟩ := adOf_fam h1 (by omega)
  obtain ⟨q1, q2, q3⟩ := adOf_fam (s := s) (m := b) (by omega) h3
  exact ⟨⟨p1, q1, by rw [p3, q3], by rw [p2, q2]; exact h2⟩, p2, q2⟩

def hasB (xs : List (Ad × Ad)) (m : Nat) : Bool := xs.any fun x => decide (x.1.n ≤ m ∧ m ≤ x.2.n)
theorem hasB_iff (xs : List (Ad × Ad)) (m : Nat) : hasB xs m = true ↔ InA xs m := by
  unfold hasB InA
  rw [List.any_eq_true]
  constructor
  · rintro ⟨x, hx, h⟩; exact ⟨x, hx, of_decide_eq_true h⟩
  · rintro ⟨x, hx, h⟩; exact ⟨x, hx, decide_eq_true h⟩

structure Cut (cs : List Ad) : Prop where
  sorted : cs.Pairwise (fun a b => a.n < b.n)
  right : ∀ a ∈ cs, a.R
  base : ∀ s : Bool, ∃ a ∈ cs, a.n = s2n s
def lastC (cs : List Ad) (i : Nat) (a : Ad) : Nat := match cs[i + 1]? with
  | some b => if b.s = a.s then b.n - 1 else topN a.s
  | none => topN a.s
theorem cut_lt {cs : List Ad} (h : cs.Pairwise (fun a b => a.n < b.n)) {i j : Nat} {a b : Ad} (hi : cs[i]? = some a) (hj : cs[j]? = some b) (hij : i < j) : a.n < b.n := by
  obtain ⟨h1, rfl⟩ := List.getElem?_eq_some_iff.1 hi
  obtain ⟨h2, rfl⟩ := List.getElem?_eq_some_iff.1 hj
  exact List.pairwise_iff_getElem.1 h i j h1 h2 hij
theorem lastC_le {cs : List Ad} (h : Cut cs) {i : Nat} {a : Ad} (hi : cs[i]? = some a) : a.n ≤ lastC cs i a ∧ lastC cs i a ≤ topN a.s := by
  have ha := ad_fam (h.right a (List.mem_of_getElem? hi))
  unfold lastC
  cases hn : cs[i + 1]? with
  | none => exact ⟨ha.2, Nat.le_refl _⟩
  | some b =>
    have hlt := cut_lt h.sorted hi hn (Nat.lt_succ_self i)
    have hb := ad_fam (h.right b (List.mem_of_getElem? hn))
    by_cases e : b.s = a.s
    · simp only [if_pos e]; rw [e] at hb; omega
    · simp only [if_neg e]; exact ⟨ha.2, Nat.le_refl _⟩
theorem cut_none {cs : List Ad} (h : Cut cs) {i : Nat} {a : Ad} (hi : cs[i]? = some a) {c : Ad} (hc : c ∈ cs) (hac : a.n < c.n) : lastC cs i a < c.n := by
  obtain ⟨j, hj⟩ := List.mem_iff_getElem?.1 hc
  have ha := ad_fam (h.right a (List.mem_of_getElem? hi))
  have hcf := ad_fam (h.right c hc)
  have hij : i < j := by
    rcases Nat.lt_trichotomy i j with k | k | k
    · exact k
    · subst k; rw [hi] at hj; cases hj; omega
    · have := cut_lt h.sorted hj hi k; omega
  have hlen : j < cs.length := (List.getElem?_eq_some_iff.1 hj).1
  obtain ⟨b, hb⟩ : ∃ b, cs[i + 1]? = some b := ⟨cs[i + 1]'(by omega), List.getElem?_eq_getElem _⟩
  have hbc : b.n ≤ c.n := by
    rcases Nat.lt_trichotomy (i + 1) j with k | k | k
    · exact Nat.le_of_lt (cut_lt h.sorted hb hj k)
    · subst k; rw [hb] at hj; cases hj; exact Nat.le_refl _
    · omega
  have hab := cut_lt h.sorted hi hb (Nat.lt_succ_self i)
  have hbf := ad_fam (h.right b (List.mem_of_getElem? hb))
  unfold lastC
  rw [hb]
  by_cases e : b.s = a.s
  · simp only [if_pos e]; omega
  · simp only [if_neg e]
    revert ha hbf e
    generalize a.s = sa
    generalize b.s = sb
    cases sa <;> cases sb <;> simp only [s2n_true, s2n_false, topN_true, topN_false] <;> intro ha hbf e
    all_goals first | (exact absurd rfl e) | (exact e.elim) | trivial | omega
theorem cut_at : ∀ (cs : List Ad) (m : Nat), (∃ a ∈ cs, a.n ≤ m) → ∃ i a, cs[i]? = some a ∧ a.n ≤ m ∧ ∀ b, cs[i + 1]? = some b → m < b.n
  | [], m, ⟨a, ha, _⟩ => by cases ha
  | x :: t, m, ⟨a, ha, hm⟩ => by
    by_cases h : ∃ c ∈ t, c.n ≤ m
    · obtain ⟨i, b, h1, h2, h3⟩ := cut_at t m h
      exact ⟨i + 1, b, h1, h2, h3⟩
    · rcases List.mem_cons.1 ha with rfl | ha'
      · refine ⟨0, a, rfl, hm, fun b hb => ?_⟩
        have hbt : b ∈ t := List.mem_of_getElem? hb
        rcases Nat.lt_or_ge m b.n with k | k
        · exact k
        · exact absurd ⟨b, hbt, k⟩ h
      · exact absurd ⟨a, ha', hm⟩ h
theorem cut_cover {cs : List Ad} (h : Cut cs) {m : Nat} (hv : Val m) : ∃ i a, cs[i]? = some a ∧ a.n ≤ m ∧ m ≤ lastC cs i a := by
  obtain ⟨s, hs1, hs2⟩ := val_fam hv
  obtain ⟨z, hz, hzn⟩ := h.base s
  obtain ⟨i, a, hi, ha, hn⟩ := cut_at cs m ⟨z, hz, by omega⟩
  refine ⟨i, a, hi, ha, ?_⟩
  have haR := h.right a (List.mem_of_getElem? hi)
  have has : a.s = s := by
    refine fam_of haR ?_ (by omega)
    rcases Nat.lt_or_ge a.n (s2n s) with k | k
    · exfalso
      obtain ⟨j, hj⟩ := List.mem_iff_getElem?.1 hz
      have := cut_none h hi hz (by omega)
      have hle := lastC_le h hi
      unfold lastC at this hle
      cases hb : cs[i + 1]? with
      | none =>
        have hlen : cs.length ≤ i + 1 := List.getElem?_eq_none_iff.1 hb
        have hji : j ≤ i := by have := (List.getElem?_eq_some_iff.1 hj).1; omega
        rcases Nat.lt_or_ge j i with q | q
        · have := cut_lt h.sorted hj hi q; omega
        · have e : j = i := by omega
          subst e; rw [hi] at hj; cases hj; omega
      | some b =>
        have := hn b hb
        have hij : i < j := by
          rcases Nat.lt_trichotomy i j with q | q | q
          · exact q
          · subst q; rw [hi] at hj; cases hj; omega
          · have := cut_lt h.sorted hj hi q; omega
        rcases Nat.lt_trichotomy (i + 1) j with q | q | q
        · have := cut_lt h.sorted hb hj q; omega
        · subst q; rw [hb] at hj; cases hj; omega
        · omega
    · exact k
  unfold lastC
  cases hb : cs[i + 1]? with
  | none => simp only; rw [has]; exact hs2
  | some b =>
    have := hn b hb
    by_cases e : b.s = a.s
    · simp only [if_pos e]; omega
    · simp only [if_neg e]; rw [has]; exact hs2
theorem cut_same {cs : List Ad} (h : Cut cs) {xs : List (Ad × Ad)} (hR : ∀ x ∈ xs, RgR x) (h1 : ∀ x ∈ xs, ∃ c ∈ cs, c.n = x.1.n) (h2 : ∀ x ∈ xs, x.2.n ≠ topN x.2.s → ∃ c ∈ cs, c.n = x.2.n + 1)
    {i : Nat} {a : Ad} (hi : cs[i]? = some a) {m : Nat} (hm1 : a.n ≤ m) (hm2 : m ≤ lastC cs i a) : hasB xs m = hasB xs a.n := by
  rw [Bool.eq_iff_iff, hasB_iff, hasB_iff]
  have hle := lastC_le h hi
  have haf := ad_fam (h.right a (List.mem_of_getElem? hi))
  constructor
  · rintro ⟨x, hx, k1, k2⟩
    refine ⟨x, hx, ?_, by omega⟩
    rcases Nat.lt_or_ge a.n x.1.n with k | k
    · obtain ⟨c, hc, hcn⟩ := h1 x hx
      have := cut_none h hi hc (by omega)
      omega
    · exact k
  · rintro ⟨x, hx, k1, k2⟩
    refine ⟨x, hx, by omega, ?_⟩
    rcases Nat.lt_or_ge x.2.n m with k | k
    · exfalso
      have hxs := rg_fam_of (hR x hx) haf.1 haf.2 k1 k2
      have hxf := (hR x hx).2.2.1
      obtain ⟨c, hc, hcn⟩ := h2 x hx (by rw [← hxf, hxs]; omega)
      have := cut_none h hi hc (by omega)
      omega
    · exact k

structure GapI (zs : List (Ad × Ad)) (s : Bool) (k at_ : Nat) (dn : Bool) (out : List (Ad × Ad)) (N : Nat) : Prop where
  apart : out.Pairwise (fun x y => x.2.n + 1 < y.1.n)
  right : ∀ y ∈ out, RgR y
  mem : ∀ m, InA out m ↔ Val m ∧ m < at_ ∧ ¬ InA zs m
  lo : ∀ y ∈ out, y.2.n + 1 < at_
  base : s2n s ≤ at_
  done : dn = true → at_ = topN s + 1
  more : dn = false → at_ ≤ topN s
  front : ∀ j x, k ≤ j → zs[j]? = some x → x.1.s = s → at_ ≤ x.1.n
  back : ∀ j x, j < k → zs[j]? = some x → x.1.s = s → x.2.n < at_
  len : out.length ≤ N + k
theorem GapI.skip {zs : List (Ad × Ad)} (hR : ∀ z ∈ zs, RgR z) {s : Bool} {k a N : Nat} {dn : Bool} {out : List (Ad × Ad)} (h : GapI zs s k a dn out N) {x : Ad × Ad} (hx : zs[k]? = some x) (hs : x.1.s ≠ s ∨ dn = true) : GapI zs s (k + 1) a dn out N where
  apart := h.apart
  right := h.right
  mem := h.mem
  lo := h.lo
  base := h.base
  done := h.done
  more := h.more
  front := fun j y hj => h.front j y (by omega)
  back := fun j y hj hy he => by
    rcases Nat.lt_or_ge j k with q | q
    · exact h.back j y q hy he
    · have e : j = k := by omega
      subst e
      rw [hx] at hy
      cases hy
      rcases hs with k1 | k1
      · exact absurd he k1
      · exfalso
        have h1 := h.front j x (Nat.le_refl _) hx he
        have h2 := h.done k1
        have h3 := rg_fam (hR x (List.mem_of_getElem? hx))
        have h4 := (hR x (List.mem_of_getElem? hx)).2.2.2
        rw [he] at h3
        omega
  len := by have := h.len; omega
theorem GapI.free {zs : List (Ad × Ad)} (hR : ∀ z ∈ zs, RgR z) (hp : zs.Pairwise (fun x y => x.2.n + 1 < y.1.n)) {s : Bool} {k a N : Nat} {dn : Bool} {out : List (Ad × Ad)} (h : GapI zs s k a dn out N) {m : Nat} (hm : a ≤ m) (hmt : m ≤ topN s) (hx : ∀ x, zs[k]? = some x → m < x.1.n) : ¬ InA zs m := by
  rintro ⟨z, hz, h1, h2⟩
  obtain ⟨j, hj⟩ := List.mem_iff_getElem?.1 hz
  have hzs := rg_fam_of (hR z hz) (Nat.le_trans h.base hm) hmt h1 h2
  rcases Nat.lt_trichotomy j k with q | q | q
  · have := h.back j z q hj hzs; omega
  · subst q; have := hx z hj; omega
  · have hk : k < zs.length := by have := (List.getElem?_eq_some_iff.1 hj).1; omega
    obtain ⟨x, hxk⟩ : ∃ x, zs[k]? = some x := ⟨zs[k], List.getElem?_eq_getElem hk⟩
    have h4 : x.2.n + 1 < z.1.n := by
      obtain ⟨h5, rfl⟩ := List.getElem?_eq_some_iff.1 hj
      obtain ⟨h6, rfl⟩ := List.getElem?_eq_some_iff.1 hxk
      exact List.pairwise_iff_getElem.1 hp k j h6 h5 q
    have hxr := (hR x (List.mem_of_getElem? hxk)).2.2.2
    have := hx x hxk
    omega
theorem GapI.take {zs : List (Ad × Ad)} (hR : ∀ z ∈ zs, RgR z) (hp : zs.Pairwise (fun x y => x.2.n + 1 < y.1.n)) {s : Bool} {k a N : Nat} {out : List (Ad × Ad)} (h : GapI zs s k a false out N) {x : Ad × Ad} (hx : zs[k]? = some x) (hs : x.1.s = s) :
    GapI zs s (k + 1) (x.2.n + 1) (decide (x.2.n = topN s)) (if a < x.1.n then out ++ [(adOf a, adOf (x.1.n - 1))] else out) N := by
  have hxR := hR x (List.mem_of_getElem? hx)
  have hxf := rg_fam hxR
  rw [hs] at hxf
  have hxl := hxR.2.2.2
  have ha := h.front k x (Nat.le_refl _) hx hs
  have hb := h.base
  have hpt : ∀ j z, k < j → zs[j]? = some z → x.2.n + 1 < z.1.n := fun j z hj hz => by
    obtain ⟨h5, rfl⟩ := List.getElem?_eq_some_iff.1 hz
    obtain ⟨h6, rfl⟩ := List.getElem?_eq_some_iff.1 hx
    exact List.pairwise_iff_getElem.1 hp k j h6 h5 hj
  have hxm : ∀ m, x.1.n ≤ m → m ≤ x.2.n → InA zs m := fun m h1 h2 => ⟨x, List.mem_of_getElem? hx, h1, h2⟩
  have rest : ∀ out' : List (Ad × Ad), out'.Pairwise (fun x y => x.2.n + 1 < y.1.n) → (∀ y ∈ out', RgR y) → (∀ m, InA out' m ↔ Val m ∧ m < x.1.n ∧ ¬ InA zs m) → (∀ y ∈ out', y.2.n + 1 < x.2.n + 1) → out'.length ≤ N + (k + 1) →
      GapI zs s (k + 1) (x.2.n + 1) (decide (x.2.n = topN s)) out' N := fun out' p1 p2 p3 p4 p5 =>
    { apart := p1
      right := p2
      mem := fun m => by
        rw [p3]
        constructor
        · rintro ⟨q1, q2, q3⟩; exact ⟨q1, by omega, q3⟩
        · rintro ⟨q1, q2, q3⟩
          refine ⟨q1, ?_, q3⟩
          rcases Nat.lt_or_ge m x.1.n with q | q
          · exact q
          · exact absurd (hxm m q (by omega)) q3
      lo := p4
      base := by omega
      done := fun e => by rw [of_decide_eq_true e]
      more := fun e => by have := of_decide_eq_false e; omega
      front := fun j z hj hz _ => by have := hpt j z (by omega) hz; omega
      back := fun j z hj hz he => by
        rcases Nat.lt_or_ge j k with q | q
        · have := h.back j z q hz he; omega
        · have e : j = k := by omega
          subst e; rw [hx] at hz; cases hz; omega
      len := p5 }
  by_cases hlt : a < x.1.n
  · rw [if_pos hlt]
    obtain ⟨r1, r2, r3⟩ := adOf_rg (s := s) (a := a) (b := x.1.n - 1) hb (by omega) (by omega)
    have hfree : ∀ m, a ≤ m → m ≤ x.1.n - 1 → ¬ InA zs m := fun m h1 h2 => h.free hR hp h1 (by omega) (fun y hy => by rw [hx] at hy; cases hy; omega)
    refine rest _ ?_ ?_ ?_ ?_ ?_
    · refine List.pairwise_append.2 ⟨h.apart, List.pairwise_singleton _ _, fun y hy z hz => ?_⟩
      rw [List.mem_singleton.1 hz]
      show y.2.n + 1 < (adOf a).n
      rw [r2]
      exact h.lo y hy
    · intro y hy
      rcases List.mem_append.1 hy with hy | hy
      · exact h.right y hy
      · rw [List.mem_singleton.1 hy]; exact r1
    · intro m
      rw [inA_append, h.mem, inA_cons]
      show (_ ∨ ((adOf a).n ≤ m ∧ m ≤ (adOf (x.1.n - 1)).n) ∨ _) ↔ _
      rw [r2, r3]
      constructor
      · rintro (⟨q1, q2, q3⟩ | ⟨q1, q2⟩ | q)
        · exact ⟨q1, by omega, q3⟩
        · exact ⟨fam_val (s := s) (by omega) (by omega), by omega, hfree m q1 q2⟩
        · exact absurd q (inA_nil m)
      · rintro ⟨q1, q2, q3⟩
        rcases Nat.lt_or_ge m a with q | q
        · exact .inl ⟨q1, q, q3⟩
        · exact .inr (.inl ⟨q, by omega⟩)
    · intro y hy
      rcases List.mem_append.1 hy with hy | hy
      · have := h.lo y hy; omega
      · rw [List.mem_singleton.1 hy]
        show (adOf (x.1.n - 1)).n + 1 < _
        rw [r3]; omega
    · have := h.len
      rw [List.length_append]; simp; omega
  · rw [if_neg hlt]
    have e : a = x.1.n := by omega
    refine rest _ h.apart h.right (fun m => by rw [h.mem, e]) (fun y hy => by have := h.lo y hy; omega) (by have := h.len; omega)
theorem GapI.ends {zs : List (Ad × Ad)} (hR : ∀ z ∈ zs, RgR z) (hp : zs.Pairwise (fun x y => x.2.n + 1 < y.1.n)) {s : Bool} {a N : Nat} {dn : Bool} {out : List (Ad × Ad)} (h : GapI zs s zs.length a dn out N) :
    ∃ out', out' = (if dn then out else out ++ [(adOf a, adOf (topN s))]) ∧ out'.Pairwise (fun x y => x.2.n + 1 < y.1.n) ∧ (∀ y ∈ out', RgR y ∧ y.2.n ≤ topN s) ∧ (∀ m, InA out' m ↔ Val m ∧ m ≤ topN s ∧ ¬ InA zs m) ∧ out'.length ≤ N + zs.length + 1 := by
  refine ⟨_, rfl, ?_⟩
  have hb := h.base
  have hlen := h.len
  cases dn with
  | true =>
    have hd := h.done rfl
    refine ⟨h.apart, fun y hy => ⟨h.right y hy, by have := h.lo y hy; omega⟩, fun m => ?_, by simp only [if_true]; omega⟩
    simp only [if_true]
    rw [h.mem, hd]
    constructor
    · rintro ⟨q1, q2, q3⟩; exact ⟨q1, by omega, q3⟩
    · rintro ⟨q1, q2, q3⟩; exact ⟨q1, by omega, q3⟩
  | false =>
    have hm := h.more rfl
    simp only [Bool.false_eq_true, if_false]
    obtain ⟨r1, r2, r3⟩ := adOf_rg (s := s) (a := a) (b := topN s) hb hm (Nat.le_refl _)
    have hfree : ∀ m, a ≤ m → m ≤ topN s → ¬ InA zs m := fun m h1 h2 => h.free hR hp h1 h2 (fun y hy => by
      have := (List.getElem?_eq_some_iff.1 hy).1; omega)
    refine ⟨?_, ?_, ?_, ?_⟩
    · refine List.pairwise_append.2 ⟨h.apart, List.pairwise_singleton _ _, fun y hy z hz => ?_⟩
      rw [List.mem_singleton.1 hz]
      show y.2.n + 1 < (adOf a).n
      rw [r2]
      exact h.lo y hy
    · intro y hy
      rcases List.mem_append.1 hy with hy | hy
      · exact ⟨h.right y hy, by have := h.lo y hy; omega⟩
      · rw [List.mem_singleton.1 hy]
        exact ⟨r1, by show (adOf (topN s)).n ≤ _; rw [r3]; exact Nat.le_refl _⟩
    · intro m
      rw [inA_append, h.mem, inA_cons]
      show (_ ∨ ((adOf a).n ≤ m ∧ m ≤ (adOf (topN s)).n) ∨ _) ↔ _
      rw [r2, r3]
      constructor
      · rintro (⟨q1, q2, q3⟩ | ⟨q1, q2⟩ | q)
        · exact ⟨q1, by omega, q3⟩
        · exact ⟨fam_val (s := s) (by omega) q2, q2, hfree m q1 q2⟩
        · exact absurd q (inA_nil m)
      · rintro ⟨q1, q2, q3⟩
        rcases Nat.lt_or_ge m a with q | q
        · exact .inl ⟨q1, q, q3⟩
        · exact .inr (.inl ⟨q, q2⟩)
    · rw [List.length_append]; simp; omega
theorem gaps_told {zs out : List (Ad × Ad)} (h1 : out.Pairwise (fun x y => x.2.n + 1 < y.1.n)) (h2 : ∀ y ∈ out, RgR y ∧ y.2.n ≤ topN true) (h3 : ∀ m, InA out m ↔ Val m ∧ m ≤ topN true ∧ ¬ InA zs m) : Tells out (fun m => Val m ∧ ¬ InA zs m) :=
  ⟨h1, fun m => by
    rw [h3]
    constructor
    · rintro ⟨q1, _, q3⟩; exact ⟨q1, q3⟩
    · rintro ⟨q1, q3⟩
      refine ⟨q1, ?_, q3⟩
      unfold Val at q1
      rw [topN_true]; omega, fun y hy => (h2 y hy).1⟩


theorem apart_get {l : List (Ad × Ad)} (hp : l.Pairwise (fun x y => x.2.n + 1 < y.1.n)) {i j : Nat} {x y : Ad × Ad} (hx : l[i]? = some x) (hy : l[j]? = some y) (h : i < j) : x.2.n + 1 < y.1.n := by
  obtain ⟨h5, rfl⟩ := List.getElem?_eq_some_iff.1 hx
  obtain ⟨h6, rfl⟩ := List.getElem?_eq_some_iff.1 hy
  exact List.pairwise_iff_getElem.1 hp i j h5 h6 h
def SrI (zs : List (Ad × Ad)) (t i j : Nat) : Prop := (∀ k x, k < i → zs[k]? = some x → x.2.n < t) ∧ (∀ k x, j ≤ k → zs[k]? = some x → t ≤ x.2.n)
theorem SrI.up {zs : List (Ad × Ad)} (hp : zs.Pairwise (fun x y => x.2.n + 1 < y.1.n)) (hR : ∀ z ∈ zs, RgR z) {t i j h : Nat} (H : SrI zs t i j) {x : Ad × Ad} (hx : zs[h]? = some x) (hl : x.2.n < t) : SrI zs t (h + 1) j :=
  ⟨fun k y hk hy => by
    rcases Nat.lt_or_ge k h with q | q
    · have := apart_get hp hy hx q
      have := (hR x (List.mem_of_getElem? hx)).2.2.2
      omega
    · have e : k = h := by omega
      subst e; rw [hx] at hy; cases hy; exact hl, H.2⟩
theorem SrI.none {zs : List (Ad × Ad)} {t i : Nat} (H : SrI zs t i i) (hi : zs.length ≤ i) : hasB zs t = false := by
  rw [Bool.eq_false_iff]
  intro h
  obtain ⟨y, hy, h1, h2⟩ := (hasB_iff _ _).1 h
  obtain ⟨k, hk⟩ := List.mem_iff_getElem?.1 hy
  have := H.1 k y (by have := (List.getElem?_eq_some_iff.1 hk).1; omega) hk
  omega

end Go.Proofs.YtfpcalgkfagjkaaGreatDoor
namespace Go.Proofs.YtfpcalgkfagjkaaGreatDoor
open Go.RowKit Go.Shelf

def eA2 : Enc (Ad × Ad) := ⟨fun x => adC x.1, 3, by decide, fun x => adC_len x.1, fun x => adC_one x.1⟩
theorem eA2_cells : ∀ cs : List Ad, eA2.cells (cs.map fun a => (a, a)) = eAd.cells cs
  | [] => rfl
  | a :: r => by rw [List.map_cons, eA2.cells_cons, eAd.cells_cons, eA2_cells r]; rfl
theorem own_eA2 {t : TypeId} {B : Nat} {w : World} {v : Value} {cs : List Ad} : OwnE eA2 t B w v (cs.map fun a => (a, a)) ↔ OwnE eAd t B w v cs := by
  unfold OwnE
  rw [eA2_cells, List.length_map]
  exact Iff.rfl
theorem eA2_cells1 : ∀ xs : List (Ad × Ad), eA2.cells xs = eAd.cells (xs.map (·.1))
  | [] => rfl
  | a :: r => by rw [List.map_cons, eA2.cells_cons, eAd.cells_cons, eA2_cells1 r]; rfl
theorem own_eA1 {t : TypeId} {B : Nat} {w : World} {v : Value} {xs : List (Ad × Ad)} (h : OwnE eA2 t B w v xs) : OwnE eAd t B w v (xs.map (·.1)) := by
  unfold OwnE at *
  rw [← eA2_cells1, List.length_map]
  exact h
def zAd : Value := .agg #[.bool false, .int .u64 0, .int .u64 0]
theorem infoAd : (Tryz.prog.info? 30).map (fun i => (i.zero, i.size, i.bytes)) = some (some zAd, 3, 24) := by kernel_rfl
theorem tyeAd : Ty eAd 30 65 zAd 24 := ⟨Tryz.underlying65, infoAd, rfl, by decide⟩
@[go_sem ↓ high] theorem execOp_bsAd (ρ : Operand → Value) (dst : Option Tmp) (x : Operand) (ty : TypeId) (pos : String) (after : Array Edge) (guard : Option (Nat × Bool)) : execOp ρ ⟨dst, .buildSlice 65 1 #[(0, x)], ty, pos, after, guard⟩ = bsT 65 (ρ x) := by
  simp only [execOp, bsT, List.map_toArray, List.map_cons, List.map_nil]
@[go_sem high] theorem execOp_bsAd' (ρ : Operand → Value) (dst : Option Tmp) (x : Operand) (ty : TypeId) (pos : String) (after : Array Edge) (guard : Option (Nat × Bool)) : execOp ρ ⟨dst, .buildSlice 65 1 #[(0, x)], ty, pos, after, guard⟩ = bsT 65 (ρ x) := by
  simp only [execOp, bsT, List.map_toArray, List.map_cons, List.map_nil]
@[go_sem] theorem run_bsAd (x : Ad) (w : World) : (bsT 65 (.agg (adC x).toArray)).run Tryz.prog w = .ok (.value (.slice (some ⟨w.heap.size, 0, none⟩) 1 1)) (w.alloc (.cells (adC x).toArray 30)) :=
  bsT_run Tryz.underlying65 infoAd (by decide) (by decide) (by kernel_rfl) w

theorem own_sorted {E : Enc (Ad × Ad)} {t : TypeId} {w : World} {B g n cap : Nat} {ys : List U2} {d' : Array U2} {m : Nat} {os : Array Obj} (h : OwnE E t B w (.slice (some ⟨g, 0, none⟩) n cap) (ys.map (·.1))) (hd : d'.size = ys.length) :
    OwnE E t B (sortWorldK (onU E).enc (onU E).k w g 0 m d' os) (.slice (some ⟨g, 0, none⟩) n cap) (d'.toList.map (·.1)) := by
  obtain ⟨h1, h2⟩ := h
  have hlen : (d'.toList.map (·.1)).length = ys.length := by simp [hd]
  have hcl : (E.cells (d'.toList.map (·.1))).length = ys.length * E.k := by rw [E.cells_len, hlen]
  refine ⟨by rw [hcl, hlen], ?_⟩
  rcases h2 with ⟨hv, _⟩ | ⟨g', cap', cur, hv, hB, hh, hn, hc, hsz, htake⟩
  · cases hv
  · cases hv
    rw [List.length_map] at hn htake
    have hg : g < w.heap.size := (Array.getElem?_eq_some_iff.1 hh).1
    refine .inr ⟨g, cap, Sort.putCells id 0 (Sort.flatK (onU E).enc (onU E).k d') cur, by rw [hlen, List.length_map], hB, ?_, by rw [hlen]; exact hn, hc, ?_, ?_⟩
    · unfold sortWorldK Sort.grow Sort.putRowK Sort.putRow Sort.mapBlock Sort.ahead
      show (w.heap.modify g _ ++ os)[g]? = _
      rw [Array.getElem?_append_left (by simp; omega), Array.getElem?_modify, if_pos rfl, hh]
      rfl
    · unfold Sort.putCells; rw [Array.size_mapIdx]; exact hsz
    · have hfs : (Sort.flatK (onU E).enc (onU E).k d').size = ys.length * E.k := by rw [Sort.size_flatK, hd]; rfl
      have hle : ys.length * E.k ≤ cur.size := by rw [hsz]; exact Nat.mul_le_mul_right _ hn
      rw [hlen]
      apply List.ext_getElem
      · have e3 : (Sort.putCells id 0 (Sort.flatK (onU E).enc (onU E).k d') cur).toList.length = cur.size := by unfold Sort.putCells; simp
        rw [List.length_take, e3, hcl]
        omega
      · intro j j1 j2
        rw [hcl] at j2
        rw [List.getElem_take, Array.getElem_toList]
        unfold Sort.putCells
        rw [Array.getElem_mapIdx, if_pos ⟨Nat.zero_le _, by rw [hfs]; omega⟩, Nat.sub_zero]
        have hj' : j < (Sort.flatK (onU E).enc (onU E).k d').size := by rw [hfs]; exact j2
        have hj2 := hj'
        rw [Sort.size_flatK] at hj2
        rw [Sort.get_flatK _ _ _ _ hj2]
        obtain ⟨u, k1, k2⟩ := flatK_cells E d'.toList j (by rw [Sort.size_flatK] at hj'; simpa [onU] using hj')
        have k3 : (E.cells (d'.toList.map (·.1)))[j]? = some u := by rw [cells_onU]; exact k1
        have e : (E.cells (d'.toList.map (·.1)))[j] = u := by
          have := (List.getElem?_eq_some_iff.1 k3).2
          exact this
        rw [e]
        have e2 : d'.toList.toArray = d' := by simp
        rw [e2] at k2
        show id (((onU E).enc d'[j / E.k]!)[j % E.k]!) = u
        rw [List.getElem!_eq_getElem?_getD, k2]; rfl

theorem lays_sortAd (blk off size : Nat) (w : World) : CmpLays Tryz.prog 64 #[] (onU eA2).enc (onU eA2).k cmpU2 blk off size w :=
  fun _ _ _ _ x y => (spanCmp_d x.1.1 y.1.1 _ x.2.1 y.2.1).mono fun _ _ h => ⟨h.1, h.2.grows⟩

set_option maxHeartbeats 2000000 in
theorem sortAd_any (B : Nat) (v : Value) (cs : List Ad) (w : World) (hown : OwnE eAd 30 B w v cs) (hU : ∀ x ∈ cs, x.U) (h0 : cs ≠ []) (hb : B ≤ w.heap.size) (hn : cs.length ≤ 1000000) :
    Calls Tryz.prog 63 #[v, .func (.func 64) #[] #[]] w fun e w' => e = .returned (.tuple #[]) ∧ ∃ qs : List Ad, qs.Perm cs ∧ qs.Pairwise (fun x y => x.n ≤ y.n) ∧ OwnE eAd 30 B w' v qs ∧ Below B w w' := by
  obtain ⟨ys, hys⟩ := lift_U (cs.map fun a => (a, a)) (fun x hx => by
    obtain ⟨a, ha, rfl⟩ := List.mem_map.1 hx
    exact ⟨hU a ha, hU a ha⟩)
  have hcs : (ys.map (·.1)).map (·.1) = cs := by
    rw [← hys, List.map_map]
    exact List.map_id _
  have hl : cs.length = ys.length := by rw [← hcs]; simp
  replace hown := own_eA2.2 hown
  rw [hys] at hown
  obtain ⟨g, cap, rfl, hg1, hg2, hcap, _⟩ := hown.form (by intro e; apply h0; rw [← hcs, e]; rfl)
  have hH := holdsK_own (E := eA2) hown
  have eg : ∀ args w, (callFunc 64 args).run Tryz.prog w = .ok (.enter 64 args) w := enters_of Tryz.func64 (by kernel_rfl) rfl
  have hcon := AnyQ.slices_SortFunc Tryz.sortAddr 3 Tryz.isAgg30 Tryz.sizeOf30 (onU eA2).enc (onU eA2).len (onU eA2).one cmpU2 swo_cmpU2 64 #[] g 0 cap ys.toArray w eg (lays_sortAd g 0 ys.toArray.size w) hH hg2 (by simp at hn ⊢; omega)
  change Calls Tryz.prog 63 _ _ _ at hcon
  have e0 : ys.toArray.size = ys.length := by simp
  rw [e0] at hcon
  rw [List.length_map] at hown ⊢
  refine hcon.mono ?_
  rintro e w' ⟨rfl, d', m, os, hp, hs, rfl⟩
  rw [← e0] at hp
  have hsz : d'.size = ys.length := hp.1.trans e0
  refine ⟨rfl, List.map (fun x : Ad × Ad => x.1) (List.map (fun x : U2 => x.1) d'.toList), ?_, ?_, own_eA1 (own_sorted hown hsz), below_sortK hg1 hb⟩
  · have := ((perm_ofU hp).map (·.1)).map (·.1)
    rw [show ys.toArray.toList = ys by simp, hcs] at this
    exact this
  · rw [List.pairwise_map]
    exact pairwise_ofU hsz hs
end Go.Proofs.YtfpcalgkfagjkaaGreatDoor
