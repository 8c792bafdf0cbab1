/- Reports: Compact of every list. -/
import Derived.Test.YtbheigndfhhpcaaGreatDoorKgRpW
namespace Go.Proofs.YtbheigndfhhpcaaGreatDoor
open Go.RowKit
set_option linter.unusedVariables false
set_option linter.unusedSimpArgs false

def LtR (x y : Rp) : Prop := cmpRp x y < 0
def LeR (x y : Rp) : Prop := cmpRp x y ≤ 0
theorem LtR.irrefl (x : Rp) : ¬ LtR x x := by unfold LtR; rw [cm_rp.self]; decide
theorem LtR.trans {x y z : Rp} (a : LtR x y) (b : LtR y z) : LtR x z := cm_rp.lt (Int.le_of_lt a) (Int.le_of_lt b) (.inl a)
theorem strict_unique : ∀ l m : List Rp, l.Pairwise LtR → m.Pairwise LtR → (∀ x, x ∈ l ↔ x ∈ m) → l = m
  | [], [], _, _, _ => rfl
  | [], y :: m, _, _, h => absurd ((h y).2 List.mem_cons_self) List.not_mem_nil
  | x :: l, [], _, _, h => absurd ((h x).1 List.mem_cons_self) List.not_mem_nil
  | x :: l, y :: m, hl, hm, h => by
    rw [List.pairwise_cons] at hl hm
    have e : x = y := by
      rcases List.mem_cons.1 ((h x).1 List.mem_cons_self) with e | e
      · exact e
      · rcases List.mem_cons.1 ((h y).2 List.mem_cons_self) with f | f
        · exact f.symm
        · exact absurd (LtR.trans (hm.1 x e) (hl.1 y f)) (LtR.irrefl y)
    subst e
    rw [strict_unique l m hl.2 hm.2 (fun z => ⟨fun hz => by
      rcases List.mem_cons.1 ((h z).1 (List.mem_cons_of_mem _ hz)) with e | e
      · subst e; exact absurd (hl.1 z hz) (LtR.irrefl z)
      · exact e, fun hz => by
      rcases List.mem_cons.1 ((h z).2 (List.mem_cons_of_mem _ hz)) with e | e
      · subst e; exact absurd (hm.1 z hz) (LtR.irrefl z)
      · exact e⟩)]

/-- A list whose neighbours differ. -/
def Nei (R : Rp → Rp → Prop) (l : List Rp) : Prop := ∀ (i : Nat) (x y : Rp), l[i]? = some x → l[i + 1]? = some y → R x y
theorem Nei.snoc {R : Rp → Rp → Prop} {l : List Rp} (h : Nei R l) {z : Rp} (hz : ∀ x, l.getLast? = some x → R x z) : Nei R (l ++ [z]) := by
  intro i x y hx hy
  have hi : i + 1 < (l ++ [z]).length := (List.getElem?_eq_some_iff.1 hy).1
  rw [List.length_append, List.length_singleton] at hi
  rw [List.getElem?_append_left (by omega)] at hx
  by_cases hl : i + 1 < l.length
  · rw [List.getElem?_append_left hl] at hy
    exact h i x y hx hy
  · have e : i + 1 = l.length := by omega
    rw [e, List.getElem?_append_right (Nat.le_refl _), Nat.sub_self] at hy
    cases hy
    refine hz x ?_
    rw [List.getLast?_eq_getElem?, show l.length - 1 = i by omega]
    exact hx
/-- What is left of the first ones: its neighbours differ, and its last one is the last one. -/
theorem sqz_nei (xs : List Rp) : ∀ j, j + 1 ≤ xs.length → Nei (· ≠ ·) (sqz xs (j + 1)) ∧ (sqz xs (j + 1)).getLast? = xs[j]? ∧ ∀ x, x ∈ sqz xs (j + 1) ↔ x ∈ xs.take (j + 1)
  | 0, h => by
    obtain ⟨x, hx⟩ : ∃ x, xs[0]? = some x := ⟨xs[0]'(by omega), List.getElem?_eq_getElem _⟩
    have e : sqz xs (0 + 1) = [x] := by
      show xs.take 1 = [x]
      rw [List.take_add_one, hx]; rfl
    have e2 : xs.take (0 + 1) = [x] := by rw [List.take_add_one, hx]; rfl
    rw [e, e2, hx]
    refine ⟨fun i a b ha hb => ?_, rfl, fun _ => Iff.rfl⟩
    have := (List.getElem?_eq_some_iff.1 hb).1
    simp at this
  | j + 1, h => by
    obtain ⟨h1, h2, h3⟩ := sqz_nei xs j (by omega)
    obtain ⟨y, hy⟩ : ∃ y, xs[j + 1]? = some y := ⟨xs[j + 1]'(by omega), List.getElem?_eq_getElem _⟩
    obtain ⟨z, hz⟩ : ∃ z, xs[j]? = some z := ⟨xs[j]'(by omega), List.getElem?_eq_getElem _⟩
    have et : xs.take (j + 1 + 1) = xs.take (j + 1) ++ [y] := by rw [List.take_add_one, hy]; rfl
    by_cases e : y = z
    · have es : sqz xs (j + 1 + 1) = sqz xs (j + 1) := (CpI.same (zs := sqz xs (j + 1)) rfl (y := y) hy (by rw [e]; exact hz)).symm
      rw [es, et, h2, hy, hz, e]
      refine ⟨h1, rfl, fun x => ?_⟩
      rw [h3, List.mem_append, List.mem_singleton]
      refine ⟨.inl, ?_⟩
      rintro (k | k)
      · exact k
      · rw [k]
        exact List.mem_take_iff_getElem.2 ⟨j, by omega, by have := (List.getElem?_eq_some_iff.1 hz).2; exact this⟩
    · have es : sqz xs (j + 1 + 1) = sqz xs (j + 1) ++ [y] := (CpI.next (zs := sqz xs (j + 1)) rfl hy hz e).symm
      rw [es, et, hy]
      refine ⟨h1.snoc (fun x hx => ?_), List.getLast?_concat, fun x => ?_⟩
      · rw [h2, hz] at hx; cases hx; exact fun k => e k.symm
      · rw [List.mem_append, List.mem_append, h3]
end Go.Proofs.YtbheigndfhhpcaaGreatDoor
namespace Go.Proofs.YtbheigndfhhpcaaGreatDoor
open Go.RowKit
set_option linter.unusedVariables false
set_option linter.unusedSimpArgs false

theorem sqz_sorted {xs : List Rp} (hs : xs.Pairwise LeR) : ∀ j, j + 1 ≤ xs.length → (sqz xs (j + 1)).Pairwise LeR
  | 0, h => by
    obtain ⟨x, hx⟩ : ∃ x, xs[0]? = some x := ⟨xs[0]'(by omega), List.getElem?_eq_getElem _⟩
    have e : sqz xs (0 + 1) = [x] := by
      show xs.take 1 = [x]
      rw [List.take_add_one, hx]; rfl
    rw [e]; exact List.pairwise_singleton _ _
  | j + 1, h => by
    have ih := sqz_sorted hs j (by omega)
    obtain ⟨_, _, h3⟩ := sqz_nei xs j (by omega)
    obtain ⟨y, hy⟩ : ∃ y, xs[j + 1]? = some y := ⟨xs[j + 1]'(by omega), List.getElem?_eq_getElem _⟩
    obtain ⟨z, hz⟩ : ∃ z, xs[j]? = some z := ⟨xs[j]'(by omega), List.getElem?_eq_getElem _⟩
    by_cases e : y = z
    · have es : sqz xs (j + 1 + 1) = sqz xs (j + 1) := (CpI.same (zs := sqz xs (j + 1)) rfl (y := y) hy (by rw [e]; exact hz)).symm
      rw [es]; exact ih
    · have es : sqz xs (j + 1 + 1) = sqz xs (j + 1) ++ [y] := (CpI.next (zs := sqz xs (j + 1)) rfl hy hz e).symm
      rw [es]
      refine List.pairwise_append.2 ⟨ih, List.pairwise_singleton _ _, fun a ha b hb => ?_⟩
      rw [List.mem_singleton.1 hb]
      obtain ⟨i, hi, rfl⟩ := List.mem_take_iff_getElem.1 ((h3 a).1 ha)
      obtain ⟨k1, rfl⟩ := List.getElem?_eq_some_iff.1 hy
      exact List.pairwise_iff_getElem.1 hs i (j + 1) (by omega) k1 (by omega)
/-- Two different reports stand in one place. -/
def Conf (ms : List Rp) : Prop := ∃ x ∈ ms, ∃ y ∈ ms, x ≠ y ∧ cmpRp x y = 0
theorem strict_of {zs : List Rp} (hs : zs.Pairwise LeR) (hn : Nei (fun x y => cmpRp x y ≠ 0) zs) : zs.Pairwise LtR := by
  rw [List.pairwise_iff_getElem] at hs ⊢
  intro i j hi hj hij
  have a := hs i (i + 1) hi (by omega) (by omega)
  have b := hn i zs[i] (zs[i + 1]'(by omega)) (List.getElem?_eq_getElem _) (List.getElem?_eq_getElem _)
  have c : cmpRp zs[i] (zs[i + 1]'(by omega)) < 0 := by unfold LeR at a; omega
  rcases Nat.lt_or_ge (i + 1) j with h | h
  · exact cm_rp.lt (Int.le_of_lt c) (hs (i + 1) j (by omega) hj h) (.inl c)
  · have e : j = i + 1 := by omega
    subst e; exact c
theorem strict_noconf {zs : List Rp} (h : zs.Pairwise LtR) : ¬ Conf zs := by
  rintro ⟨x, hx, y, hy, hne, h0⟩
  obtain ⟨i, hi, rfl⟩ := List.mem_iff_getElem.1 hx
  obtain ⟨j, hj, rfl⟩ := List.mem_iff_getElem.1 hy
  rw [List.pairwise_iff_getElem] at h
  rcases Nat.lt_trichotomy i j with k | k | k
  · have := h i j hi hj k; unfold LtR at this; omega
  · subst k; exact hne rfl
  · have := h j i hj hi k
    have e := cm_rp.anti zs[j] zs[i]
    unfold LtR at this; omega
theorem Conf.mem {xs ys : List Rp} (h : Conf xs) (e : ∀ x, x ∈ xs → x ∈ ys) : Conf ys := by
  obtain ⟨x, hx, y, hy, k⟩ := h
  exact ⟨x, e x hx, y, e y hy, k⟩
/-- What is left of a sorted list, in the whole. -/
theorem left_of {qs ms : List Rp} (hp : qs.Perm ms) (hs : qs.Pairwise LeR) :
    Nei (· ≠ ·) (sqz qs qs.length) ∧ (sqz qs qs.length).Pairwise LeR ∧ ∀ x, x ∈ sqz qs qs.length ↔ x ∈ ms := by
  obtain ⟨n, hn⟩ : ∃ n, n = qs.length := ⟨_, rfl⟩
  cases n with
  | zero =>
    have e : qs = [] := List.length_eq_zero_iff.1 hn.symm
    subst e
    have em : ms = [] := by have := hp.length_eq; exact List.length_eq_zero_iff.1 (by simpa using this.symm)
    subst em
    exact ⟨fun i x y hx _ => by simp [sqz] at hx, List.Pairwise.nil, fun x => Iff.rfl⟩
  | succ n =>
    obtain ⟨h1, _, h3⟩ := sqz_nei qs n (by omega)
    rw [← hn]
    refine ⟨h1, sqz_sorted hs n (by omega), fun x => ?_⟩
    rw [h3, List.take_of_length_le (by omega)]
    exact hp.mem_iff
/-- What two lists are made: nothing if two different reports stand in one place. -/
def Mg (ms : List Rp) (zs : List Rp) : Prop := ¬ Conf ms ∧ zs.Pairwise LtR ∧ ∀ x, x ∈ zs ↔ x ∈ ms
theorem Mg.unique {ms zs zs' : List Rp} (h : Mg ms zs) (h' : Mg ms zs') : zs = zs' := strict_unique _ _ h.2.1 h'.2.1 (fun x => (h.2.2 x).trans (h'.2.2 x).symm)
theorem mg_of {qs ms : List Rp} (hp : qs.Perm ms) (hs : qs.Pairwise LeR) (hn : Nei (fun x y => cmpRp x y ≠ 0) (sqz qs qs.length)) : Mg ms (sqz qs qs.length) := by
  obtain ⟨_, h2, h3⟩ := left_of hp hs
  have hst := strict_of h2 hn
  exact ⟨fun k => strict_noconf hst (k.mem fun x hx => (h3 x).2 hx), hst, h3⟩
theorem conf_of {qs ms : List Rp} (hp : qs.Perm ms) (hs : qs.Pairwise LeR) {i : Nat} {x y : Rp} (hx : (sqz qs qs.length)[i]? = some x) (hy : (sqz qs qs.length)[i + 1]? = some y) (h0 : cmpRp x y = 0) : Conf ms := by
  obtain ⟨h1, _, h3⟩ := left_of hp hs
  exact ⟨x, (h3 x).1 (List.mem_of_getElem? hx), y, (h3 y).1 (List.mem_of_getElem? hy), h1 i x y hx hy, h0⟩
end Go.Proofs.YtbheigndfhhpcaaGreatDoor
namespace Go.Proofs.YtbheigndfhhpcaaGreatDoor
open Go.RowKit
set_option linter.unusedVariables false
set_option linter.unusedSimpArgs false

theorem compactAll_any (B : Nat) (v : Value) (qs : List Rp) (w : World) (hown : OwnE eRp 37 B w v qs) (hn : qs.length ≤ 1000000) (hB : B ≤ w.heap.size) :
    Calls Tryz.prog 41 #[v] w fun e w' => ∃ A m cap, e = .returned (.slice A m cap) ∧ SlE eRp w' A m cap (sqz qs qs.length) ∧ m ≤ qs.length ∧ Below B w w' := by
  by_cases h2 : qs.length < 2
  · obtain ⟨A, cap, rfl, hS⟩ := hown.sl
    have hq : sqz qs qs.length = qs := by
      cases qs with
      | nil => rfl
      | cons a r =>
        cases r with
        | nil => rfl
        | cons b r => simp at h2; omega
    rw [hq]
    generalize hm : qs.length = m at *
    have h2' : (m : Int) < 2 := by omega
    replace hS := Lib.hid hS
    replace hm := Lib.hid hm
    clear hq h2 hown hn
    go_enter Tryz.func41, Tryz.ntmps41
    go_wp2_with fail
    go_ret
    exact ⟨A, m, cap, rfl, hS.out, Nat.le_refl _, Below.refl _ _⟩
  · obtain ⟨g, cap, rfl, hg1, hg2, hcap, _⟩ := hown.form (by intro e; rw [e] at h2; exact h2 (by decide))
    refine (compactRp_any B g qs.length cap qs w hown rfl (by omega) hn hB).mono ?_
    rintro e w' ⟨cap', zs, rfl, hS, hI, hle, hb⟩
    have e2 : zs = sqz qs qs.length := hI
    subst e2
    exact ⟨_, _, cap', rfl, hS, hle, hb⟩
end Go.Proofs.YtbheigndfhhpcaaGreatDoor
