/- The program's Join, first half: clone and sort. -/
import Derived.Test.YtigbbpgfblnboaaPlC
import Derived.Test.YtigbbpgfblnboaaShelf
import Derived.Shelf.SlSortCmp.SmallK
import Derived.Lib.Small
namespace Go.Proofs.Ytigbbpgfblnboaa
open Go.RowKit Go.Shelf
set_option linter.unusedVariables false
set_option linter.unusedSimpArgs false

theorem enc2_len (x : Pt) : (enc2 x).length = 2 := rfl
theorem enc2_one (x : Pt) : ∀ v ∈ enc2 x, v.oneCell' = true := by
  intro v hv
  simp [enc2] at hv
  rcases hv with rfl | rfl <;> rfl
theorem cellsP_one' : ∀ (ps : List Pt), ∀ u ∈ cellsP ps, u.oneCell' = true
  | [], u, h => by cases h
  | p :: r, u, h => by
    have e : cellsP (p :: r) = enc2 p ++ cellsP r := rfl
    rw [e] at h
    rcases List.mem_append.1 h with h | h
    · exact enc2_one p u h
    · exact cellsP_one' r u h

/-- A cell of a row of ranges: which range's it is. -/
theorem cellsP_at (ps : List Pt) (j : Nat) (u : Value) (h : (cellsP ps)[j]? = some u) : ∃ i p, ps[i]? = some p ∧ ((j = i * 2 ∧ u = .int .i64 p.1) ∨ (j = i * 2 + 1 ∧ u = .int .i64 p.2)) := by
  have hj : j < ps.length * 2 := by rw [← cellsP_len]; exact (List.getElem?_eq_some_iff.1 h).1
  have hi : j / 2 < ps.length := by omega
  obtain ⟨a, b⟩ := cellsP_get ps (j / 2) ps[j / 2] (List.getElem?_eq_getElem hi)
  refine ⟨j / 2, ps[j / 2], List.getElem?_eq_getElem hi, ?_⟩
  rcases Nat.mod_two_eq_zero_or_one j with h0 | h0
  · left
    have e : j / 2 * 2 = j := by omega
    rw [e] at a
    exact ⟨e.symm, Option.some.inj (h.symm.trans a)⟩
  · right
    have e : j / 2 * 2 + 1 = j := by omega
    rw [e] at b
    exact ⟨e.symm, Option.some.inj (h.symm.trans b)⟩
/-- The cells of a slice of ranges. -/
theorem slP_cells {w : World} {g off n cap : Nat} {ps : List Pt} (hS : SlP w (some ⟨g, off, none⟩) n cap ps) (h0 : 0 < n) : ∀ j u, (cellsP ps)[j]? = some u → w.cell? ((⟨g, off, none⟩ : Addr).add j) = some u := by
  intro j u hu
  obtain ⟨_, _, h3⟩ := hS
  rcases h3 with h3 | ⟨g', off', hA, _, hc⟩
  · omega
  · cases hA
    obtain ⟨i, p, hp, h⟩ := cellsP_at ps j u hu
    obtain ⟨a, b⟩ := hc i p hp
    rw [Addr.add_lit]
    rcases h with ⟨rfl, rfl⟩ | ⟨rfl, rfl⟩
    · exact a
    · rw [← Nat.add_assoc]; exact b

set_option maxHeartbeats 4000000 in
set_option maxRecDepth 100000 in
theorem clone_any (A : Option Addr) (n cap : Nat) (ps : List Pt) (w : World) (hS : SlP w A n cap ps) (hn : n ≤ 1000) :
    Calls Try.prog 62 #[.slice A n cap] w fun e w' => ∃ v', e = .returned v' ∧ w'.ownsRow w.heap.size 29 2 v' n (cellsP ps) ∧ Below w.heap.size w w' := by
  have q22 : ∀ (w : World) (a : Option Addr) (n c n' c' : Nat), (binOp .eql 26 (.slice a n c) (.slice none n' c')).run Try.prog w = .ok (.bool a.isNone) w := fun w a n c n' c' => Lib.run_eql_slice_nil w _ _ a n c n' c' Try.underlying26
  obtain ⟨i0, hi0, hz0, hz1, hz2⟩ := info_parts info_ports
  have hlen := Lib.hid hS.1
  have hS := Lib.hid hS
  cases A with
  | none =>
    have hps : ps = [] := by
      rcases hS.out.2.2 with h | ⟨g, off, h, _⟩
      · exact List.length_eq_zero_iff.1 (by have := hlen.out; omega)
      · cases h
    subst hps
    obtain rfl : n = 0 := by simpa using hlen.out
    clear hlen
    go_enter Try.func62, Try.ntmps62
    go_wp2_with fail
    go_ret
    exact ⟨_, rfl, World.ownsRow_nil _ _ _ _, Below.refl _ _⟩
  | some a =>
    have hc := Lib.hid (show ∀ j u, (cellsP ps)[j]? = some u → w.cell? (a.add j) = some u from by
      intro j u hj
      have hj2 := (List.getElem?_eq_some_iff.1 hj).1
      rw [cellsP_len] at hj2
      obtain ⟨h1, h2, h3⟩ := hS.out
      rcases h3 with h3 | ⟨g, off, hA, _⟩
      · omega
      · cases hA; exact slP_cells hS.out (by omega) j u hj)
    go_enter Try.func62, Try.ntmps62
    go_wp2_with (at_builtin; refine wpList_append_own _ rfl _ _ 26 rfl w.heap.size 29 i0 (.agg #[.int .i64 0, .int .i64 0]) 2 16 Try.underlying26 hi0 hz0 hz1 hz2 rfl (by decide) _ _ _ rfl (World.ownsRow_made w #[] 0 (Nat.le_refl _) (Nat.zero_le _) (by simp)) a n cap (cellsP ps) rfl ?c1 ?c2 ?c3 ?c4 ?c5 ?c6 ?_)
    case c1 => rw [cellsP_len, ← hlen.out]
    case c2 =>
      intro j u hj
      have := hc.out j u hj
      exact Lib.cell?_alloc_some _ this
    case c3 => exact cellsP_one' ps
    case c4 => rw [Nat.zero_add]; unfold maxLen; omega
    case c5 => rw [Nat.zero_add]; omega
    case c6 => simp
    intro v' w1 hown hgrow hnil
    have hB := ((Below.refl _ w).alloc (Nat.le_refl _) _).grown hgrow (by simp) (by intro k hk; simp [Value.ownBlock] at hk; omega)
    clear hgrow
    go_wp2_with fail
    go_ret
    exact ⟨v', rfl, by simpa using hown, hB⟩

def cmpF (x y : Pt) : Int := Lib.compareInt x.1 y.1
theorem ltOf_iff (x y : Pt) : ltOf cmpF x y = true ↔ x.1 < y.1 := by
  unfold ltOf cmpF Lib.compareInt
  by_cases h : x.1 < y.1
  · rw [if_pos h]; exact ⟨fun _ => h, fun _ => by decide⟩
  · rw [if_neg h]
    refine ⟨fun a => ?_, fun a => absurd a h⟩
    exfalso
    by_cases h2 : x.1 > y.1
    · rw [if_pos h2] at a; cases a
    · rw [if_neg h2] at a; cases a
theorem ltOf_cmpF (x y : Pt) (h : ltOf cmpF x y = false) : y.1 ≤ x.1 := by
  have := mt (ltOf_iff x y).2 (by rw [h]; decide)
  omega
theorem ltOf_not (x y : Pt) (h : y.1 ≤ x.1) : ltOf cmpF x y = false := by
  cases e : ltOf cmpF x y
  · rfl
  · have := (ltOf_iff x y).1 e; omega
theorem swo_cmpF : Sort.SWO (ltOf cmpF) where
  irrefl := fun x => ltOf_not x x (Int.le_refl _)
  trans := fun x y z a b => (ltOf_iff x z).2 (Int.lt_trans ((ltOf_iff x y).1 a) ((ltOf_iff y z).1 b))
  ntrans := fun x y z a b => ltOf_not x z (Int.le_trans (ltOf_cmpF y z b) (ltOf_cmpF x y a))

set_option maxHeartbeats 2000000 in
theorem closure_any (x y : Pt) (W : World) : Calls Try.prog 64 #[.agg #[.int .i64 x.1, .int .i64 x.2], .agg #[.int .i64 y.1, .int .i64 y.2]] W fun e w' => e = .returned (.int .i64 (cmpF x y)) ∧ ∃ q os', w' = Sort.grow (W.drewN q) os' := by
  have hcon := fun W' => Try.cmp_Compare_int x.1 y.1 W'
  unfold cmpF
  generalize Lib.compareInt x.1 y.1 = r at hcon ⊢
  go_enter Try.func64, Try.ntmps64
  go_wp2_with (go_at_call 65; refine (hcon _).mono ?_; rintro e w' ⟨rfl, rfl⟩)
  go_ret
  exact ⟨rfl, 0, _, by rw [Sort.alloc_eq_grow, Sort.alloc_eq_grow, Sort.grow_grow]; rfl⟩

theorem cmpLays_any (blk off size : Nat) (w : World) : CmpLays Try.prog 64 #[] enc2 2 cmpF blk off size w :=
  fun _ _ _ _ x y => closure_any x y _

theorem hlen2 (n : Nat) (W : World) (h : n ≤ 12) : Calls Try.prog 86 #[.int .u64 n] W fun e w' => (∃ l : Int, e = .returned (.int .i64 l)) ∧ w' = W :=
  (Try.bits_Len n W (by omega) (by omega)).mono fun _ _ ⟨he, hw⟩ => ⟨⟨_, he⟩, hw⟩

theorem holdsK_own {w : World} {base g cap n : Nat} {ps : List Pt} (h : w.ownsRow base 29 2 (.slice (some ⟨g, 0, none⟩) n cap) n (cellsP ps)) : Sort.HoldsK enc2 2 w g 0 ps.toArray := by
  intro j hj
  rw [Sort.size_flatK] at hj
  have hj2 : j / 2 < ps.length := by simp at hj; omega
  rw [Sort.get_flatK _ _ _ _ hj]
  refine ⟨?_, by rw [Nat.zero_add]; exact own_frozen h j⟩
  obtain ⟨a, b⟩ := cellsP_get ps (j / 2) ps[j / 2] (List.getElem?_eq_getElem hj2)
  have e : ps.toArray[j / 2]! = ps[j / 2] := by
    rw [getElem!_pos ps.toArray (j / 2) (by simpa using hj2)]; simp
  rw [e, Nat.zero_add]
  rcases Nat.mod_two_eq_zero_or_one j with h0 | h0
  · have := h.cells (g := g) rfl _ _ a
    rw [Addr.add_lit, Nat.zero_add, show j / 2 * 2 = j by omega] at this
    rw [this, h0]; rfl
  · have := h.cells (g := g) rfl _ _ b
    rw [Addr.add_lit, Nat.zero_add, show j / 2 * 2 + 1 = j by omega] at this
    rw [this, h0]; rfl

theorem below_sort {w : World} {B g off m : Nat} {d : Array Pt} {os : Array Obj} (hg : B ≤ g) (hB : B ≤ w.heap.size) : Below B w (sortWorldK enc2 2 w g off m d os) := by
  refine ⟨rfl, rfl, rfl, size_sortWorldK_c _ _ _ _ _ _ _ _, fun k hk => ?_⟩
  unfold sortWorldK Sort.grow Sort.putRowK Sort.putRow Sort.mapBlock Sort.ahead
  show (w.heap.modify g _ ++ os)[k]? = _
  rw [Array.getElem?_append_left (by simp; omega), Array.getElem?_modify, if_neg (by omega)]

theorem sorted_slP {w : World} {g n cap : Nat} {d : Array Pt} (h : Sort.HoldsK enc2 2 w g 0 d) (hg : g < w.heap.size) (hn : n = d.size) (hc : n ≤ cap) : SlP w (some ⟨g, 0, none⟩) n cap d.toList := by
  refine ⟨by simpa using hn, hc, .inr ⟨g, 0, rfl, hg, fun j p hp => ?_⟩⟩
  have hj : j < d.size := by simpa using (List.getElem?_eq_some_iff.1 hp).1
  have e : d[j]! = p := by
    rw [getElem!_pos d j hj]
    have := (List.getElem?_eq_some_iff.1 hp).2
    simpa using this
  have a := (h.cell hj (show 0 < 2 by decide)).1
  have b := (h.cell hj (show 1 < 2 by decide)).1
  rw [e] at a b
  exact ⟨a, b⟩

theorem perm_of {d d' : Array Pt} (h : Sort.PermIn 0 d.size d d') : d'.toList.Perm d.toList := by
  obtain ⟨h1, _, h3⟩ := h
  have a : d'.extract 0 d.size = d' := by rw [← h1]; simp
  have b : d.extract 0 d.size = d := by simp
  rw [a, b] at h3
  exact h3
theorem pairwise_of {d : Array Pt} {n : Nat} (hn : d.size = n) (h : Sort.SortedIn (ltOf cmpF) 0 n d) : d.toList.Pairwise (fun x y => x.1 ≤ y.1) := by
  rw [List.pairwise_iff_getElem]
  intro i j hi hj hij
  have := ltOf_cmpF _ _ (h i j (Nat.zero_le _) hij (by rw [← hn]; simpa using hj))
  rw [getElem!_pos d i (by simpa using hi), getElem!_pos d j (by simpa using hj)] at this
  simpa using this
set_option maxHeartbeats 2000000 in
set_option maxRecDepth 100000 in
theorem sort_any (base g cap n : Nat) (ps : List Pt) (w : World) (hown : w.ownsRow base 29 2 (.slice (some ⟨g, 0, none⟩) n cap) n (cellsP ps)) (hl : n = ps.length) (h12 : n ≤ 12) (hb : base ≤ w.heap.size) :
    Calls Try.prog 63 #[.slice (some ⟨g, 0, none⟩) n cap, .func (.func 64) #[] #[]] w fun e w' => e = .returned (.tuple #[]) ∧ ∃ qs : List Pt, qs.Perm ps ∧ qs.Pairwise (fun x y => x.1 ≤ y.1) ∧ SlP w' (some ⟨g, 0, none⟩) n cap qs ∧ Below base w w' := by
  subst hl
  have hH := holdsK_own hown
  obtain ⟨hg1, hg2⟩ := own_base hown
  have hc : ps.length ≤ cap := by
    rcases hown.2 with ⟨hv, _⟩ | ⟨g', c', cur, hv, _, _, hle, _⟩
    · cases hv
    · cases hv; exact hle
  have eg : ∀ args w, (callFunc 64 args).run Try.prog w = .ok (.enter 64 args) w := enters_of Try.func64 (by kernel_rfl) rfl
  have hcon := AnyQ.slices_SortFunc_small_sorted Try.sortPorts 2 Try.isAgg29 Try.sizeOf29 enc2 enc2_len enc2_one cmpF 64 #[] swo_cmpF g 0 cap ps.toArray w eg (cmpLays_any g 0 ps.toArray.size w) hH hg2 (by simpa using h12) hlen2
  change Calls Try.prog 63 _ _ _ at hcon
  have e0 : ps.toArray.size = ps.length := by simp
  rw [e0] at hcon
  refine hcon.mono ?_
  rintro e w' ⟨rfl, d', m, os, hp, hs, rfl⟩
  rw [← e0] at hp
  have hsz : d'.size = ps.length := hp.1.trans e0
  refine ⟨rfl, d'.toList, by simpa using perm_of hp, pairwise_of hsz hs, ?_, below_sort hg1 hb⟩
  exact sorted_slP (holdsK_sortWorldK_c _ _ _ _ _ _ _ _ _ hH hg2 hp.1) (Nat.lt_of_lt_of_le hg2 (size_sortWorldK_c _ _ _ _ _ _ _ _)) hsz.symm hc
end Go.Proofs.Ytigbbpgfblnboaa
