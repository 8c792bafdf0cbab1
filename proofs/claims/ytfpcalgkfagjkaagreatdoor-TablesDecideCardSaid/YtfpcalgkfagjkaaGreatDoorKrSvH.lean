/- Sets: doubles are left out. -/
import Derived.Test.YtfpcalgkfagjkaaGreatDoorKrGzA
import Derived.Test.YtfpcalgkfagjkaaGreatDoorKrSvG
import Derived.Lib.SliceRun
set_option linter.unusedVariables false
set_option linter.unusedSimpArgs false
set_option maxRecDepth 100000
namespace Go.Proofs.YtfpcalgkfagjkaaGreatDoor
open Go.RowKit

theorem run_clear_row {P : Program} (w : World) (t e ty : TypeId) (z : Value) (ht : P.underlying t = some (.slice e)) (hv : ∀ w, (zeroValue e).run P w = .ok z w) (b o n c : Nat) (hn : 0 < n) (L : List Value) (hL : (Builtin.zeroCells z.cells n).toList = L) (h1 : ∀ v ∈ L, v.oneCell' = true)
    (hc : ∀ j, j < L.length → (w.cell? ⟨b, o + j, none⟩).isSome = true) (hf : ∀ j, j < L.length → w.frozen? ⟨b, o + j, none⟩ = false) :
    (Builtin.clear_ #[t] ty #[.slice (some ⟨b, o, none⟩) n c]).run P w = .ok (.tuple #[]) (w.setCells b o L) := by
  have hst := run_storeCells_cells (P := P) b o L 0 w (by simpa using hc) (by simpa using hf) h1
  simp only [Nat.add_zero] at hst
  obtain ⟨m, rfl⟩ : ∃ m, n = m + 1 := ⟨n - 1, by omega⟩
  simp [Builtin.clear_, run_underlying ht, hv, hL, hst]

@[go_sem] theorem run_neAdA (x y : Operand) (a b : Ad) (w : World) : (neAd x y (.agg (adC a).toArray) (.agg (adC b).toArray)).run Tryz.prog w = .ok (.value (.bool (!adE a b))) w :=
  run_neAd x y a.s b.s a.hi a.lo b.hi b.lo w
def CpI (xs : List Ad) (j : Nat) (zs : List Ad) : Prop := zs.Pairwise (fun a b => a.n < b.n) ∧ ∀ a, a ∈ zs ↔ a ∈ xs.take j
theorem CpI.same {xs : List Ad} {j : Nat} {zs : List Ad} (h : CpI xs (j + 1) zs) {y : Ad} (hy : xs[j + 1]? = some y) (hy' : xs[j]? = some y) : CpI xs (j + 2) zs := by
  refine ⟨h.1, fun a => ?_⟩
  rw [h.2, List.take_add_one (i := j + 1), hy]
  simp only [Option.toList_some, List.mem_append, List.mem_singleton]
  constructor
  · exact .inl
  · rintro (k | rfl)
    · exact k
    · rw [List.take_add_one, hy']
      simp
theorem CpI.next {xs : List Ad} (hs : xs.Pairwise (fun a b => a.n ≤ b.n)) (hU : ∀ a ∈ xs, a.U) {j : Nat} {zs : List Ad} (h : CpI xs (j + 1) zs) {y z : Ad} (hy : xs[j + 1]? = some y) (hy' : xs[j]? = some z) (hne : y ≠ z) : CpI xs (j + 2) (zs ++ [y]) := by
  have hlt : ∀ a ∈ zs, a.n < y.n := fun a ha => by
    have h1 := (h.2 a).1 ha
    obtain ⟨i, hi⟩ := List.mem_iff_getElem?.1 h1
    have hij : i < j + 1 := by have := (List.getElem?_eq_some_iff.1 hi).1; rw [List.length_take] at this; omega
    rw [List.getElem?_take, if_pos hij] at hi
    have h2 : z.n ≤ y.n := by
      obtain ⟨k1, rfl⟩ := List.getElem?_eq_some_iff.1 hy
      obtain ⟨k2, rfl⟩ := List.getElem?_eq_some_iff.1 hy'
      exact List.pairwise_iff_getElem.1 hs j (j + 1) k2 k1 (by omega)
    have h3 : z.n ≠ y.n := fun e => hne (Ad.ext' (hU y (List.mem_of_getElem? hy)) (hU z (List.mem_of_getElem? hy')) e.symm)
    have h4 : a.n ≤ z.n := by
      rcases Nat.lt_or_ge i j with q | q
      · obtain ⟨k1, rfl⟩ := List.getElem?_eq_some_iff.1 hi
        obtain ⟨k2, rfl⟩ := List.getElem?_eq_some_iff.1 hy'
        exact List.pairwise_iff_getElem.1 hs i j k1 k2 q
      · have e : i = j := by omega
        subst e; rw [hi] at hy'; cases hy'; exact Nat.le_refl _
    omega
  refine ⟨List.pairwise_append.2 ⟨h.1, List.pairwise_singleton _ _, fun a ha b hb => by rw [List.mem_singleton.1 hb]; exact hlt a ha⟩, fun a => ?_⟩
  rw [List.mem_append, h.2, List.take_add_one (i := j + 1), hy]
  simp
theorem CpI.one {xs : List Ad} {x : Ad} (hx : xs[0]? = some x) : CpI xs 1 [x] := by
  refine ⟨List.pairwise_singleton _ _, fun a => ?_⟩
  rw [List.take_add_one, hx]
  simp

def CpR (xs : List Ad) (c j : Nat) (ys : List Ad) : Prop := ys.length = xs.length ∧ c ≤ j ∧ CpI xs (j + 1) (ys.take c) ∧ ys.drop j = xs.drop j
theorem CpR.get {xs : List Ad} {c j : Nat} {ys : List Ad} (h : CpR xs c j ys) {i : Nat} (hi : j ≤ i) : ys[i]? = xs[i]? := by
  have h1 := h.2.2.2
  have : (ys.drop j)[i - j]? = (xs.drop j)[i - j]? := by rw [h1]
  rw [List.getElem?_drop, List.getElem?_drop, show j + (i - j) = i by omega] at this
  exact this
theorem CpR.skip {xs : List Ad} {c j : Nat} {ys : List Ad} (h : CpR xs c j ys) {y : Ad} (hy : xs[j + 1]? = some y) (hy' : xs[j]? = some y) : CpR xs c (j + 1) ys := by
  refine ⟨h.1, by have := h.2.1; omega, h.2.2.1.same hy hy', ?_⟩
  have := congrArg (List.drop 1) h.2.2.2
  rwa [List.drop_drop, List.drop_drop] at this
theorem CpR.put {xs : List Ad} (hs : xs.Pairwise (fun a b => a.n ≤ b.n)) (hU : ∀ a ∈ xs, a.U) {c j : Nat} {ys : List Ad} (h : CpR xs c j ys) {y z : Ad} (hy : xs[j + 1]? = some y) (hy' : xs[j]? = some z) (hne : y ≠ z) : CpR xs (c + 1) (j + 1) (ys.set c y) := by
  have hj : j + 1 < xs.length := (List.getElem?_eq_some_iff.1 hy).1
  have hc := h.2.1
  have hl := h.1
  refine ⟨by rw [List.length_set]; exact h.1, by omega, ?_, ?_⟩
  · have e : (ys.set c y).take (c + 1) = ys.take c ++ [y] := by
      rw [List.take_add_one, List.take_set, List.getElem?_set_self (by omega)]
      rw [List.set_eq_of_length_le (by rw [List.length_take]; omega)]
      rfl
    rw [e]
    exact h.2.2.1.next hs hU hy hy' hne
  · rw [List.drop_set, if_pos (by omega)]
    have := congrArg (List.drop 1) h.2.2.2
    rwa [List.drop_drop, List.drop_drop] at this

theorem own_setAt {α : Type} {E : Enc α} {t : TypeId} {k : Nat} (hk : E.k = k) {w : World} {B g n cap : Nat} {xs : List α} {j : Nat} {x x' : α} (h : OwnE E t B w (.slice (some ⟨g, 0, none⟩) n cap) xs) (hn : n = xs.length) (hx : xs[j]? = some x) :
    OwnE E t B (w.setCells g (j * k) (E.enc x')) (.slice (some ⟨g, 0, none⟩) n cap) (xs.set j x') := by
  subst hk
  obtain ⟨hj, hxe⟩ := List.getElem?_eq_some_iff.1 hx
  have e1 : xs = xs.take j ++ x :: xs.drop (j + 1) := by rw [← hxe, List.getElem_cons_drop, List.take_append_drop]
  have e2 : xs.set j x' = xs.take j ++ x' :: xs.drop (j + 1) := List.set_eq_take_append_cons_drop.trans (if_pos hj)
  have hl : (xs.take j).length = j := by rw [List.length_take]; omega
  unfold OwnE at *
  have hs : (xs.set j x').length = xs.length := List.length_set
  rw [hs, ← hn]
  rw [← hn] at h
  have h2 := own_setL (E.enc x') (j * E.k) w _ h
  have c1 : E.cells xs = E.cells (xs.take j) ++ (E.enc x ++ E.cells (xs.drop (j + 1))) := by
    have := congrArg E.cells e1
    rwa [E.cells_app, E.cells_cons] at this
  have c2 : E.cells (xs.set j x') = E.cells (xs.take j) ++ (E.enc x' ++ E.cells (xs.drop (j + 1))) := by rw [e2, E.cells_app, E.cells_cons]
  rw [c2]
  have h3 := setL_mid (E.enc x') (E.enc x) (E.cells (xs.take j)) (E.cells (xs.drop (j + 1))) (by rw [E.len, E.len])
  rw [E.cells_len, hl, ← c1] at h3
  rwa [h3] at h2
theorem setL_lt : ∀ (vs : List Value) (o : Nat) (xs : List Value) (i : Nat), i < o → (setL xs o vs)[i]? = xs[i]?
  | [], _, _, _, _ => rfl
  | v :: r, o, xs, i, h => by
    unfold setL
    rw [setL_lt r (o + 1) _ i (by omega), List.getElem?_set_ne (by omega)]
theorem sl_ahead {w : World} {B g n cap c : Nat} {ys : List Ad} {t : TypeId} (h : OwnE eAd t B w (.slice (some ⟨g, 0, none⟩) n cap) ys) (hn : n = ys.length) (hc : c ≤ n) (hcap : n ≤ cap) (L : List Value) : SlE eAd (w.setCells g (c * 3) L) (some ⟨g, 0, none⟩) c cap (ys.take c) := by
  have hg := (h.lt g rfl).2
  have h2 : w.ownsRow B t eAd.k (.slice (some ⟨g, 0, none⟩) n cap) n (eAd.cells ys) := by
    have h' := h
    unfold OwnE at h'
    rw [← hn] at h'
    exact h'
  have h1 := own_setL L (c * 3) w _ h2
  have hg' : g < (w.setCells g (c * 3) L).heap.size := by
    have := h1.2
    rcases this with ⟨hv, _⟩ | ⟨g', cap', cur, hv, hB, hh, _⟩
    · cases hv
    · cases hv; exact (Array.getElem?_eq_some_iff.1 hh).1
  refine ⟨by rw [List.length_take]; omega, by omega, (fun e => by cases e), .inr ⟨g, 0, rfl, hg', fun j x hx i v hv => ?_⟩⟩
  have hj : j < c := by have := (List.getElem?_eq_some_iff.1 hx).1; rw [List.length_take] at this; omega
  rw [List.getElem?_take, if_pos hj] at hx
  have hi : i < 3 := by have := (List.getElem?_eq_some_iff.1 hv).1; rw [eAd.len] at this; exact this
  have hcl := eAd.cells_get ys j x hx i v hv
  have e3 : eAd.k = 3 := rfl
  rw [e3] at hcl
  have h4 := World.ownsRow.cells h1 (g := g) rfl (j * 3 + i) v (by rw [setL_lt _ _ _ _ (by omega)]; exact hcl)
  rw [Addr.add_lit] at h4
  rw [show 0 + j * eAd.k + i = 0 + (j * 3 + i) by rw [e3]; omega]
  exact h4
theorem clear_rest {w : World} {B g n cap c : Nat} {ys : List Ad} (h : OwnE eAd 30 B w (.slice (some ⟨g, 0, none⟩) n cap) ys) (hn : n = ys.length) (hc : c < n) (hz : ∀ w, (zeroValue 30).run Tryz.prog w = .ok zAd w) (m : Nat) :
    ∃ L, ∀ ty, (Builtin.clear_ #[65] ty #[.slice (some ⟨g, c * 3, none⟩) (n - c) m]).run Tryz.prog w = .ok (.tuple #[]) (w.setCells g (c * 3) L) := by
  obtain ⟨L, hL⟩ : ∃ L, (Builtin.zeroCells zAd.cells (n - c)).toList = L := ⟨_, rfl⟩
  have e3 : eAd.k = 3 := rfl
  have hLl : L.length = (n - c) * 3 := by rw [← hL]; simp [Builtin.zeroCells]; rfl
  refine ⟨L, fun ty => run_clear_row w _ _ ty zAd Tryz.underlying65 hz g (c * 3) (n - c) m (by omega) L hL ?_ ?_ ?_⟩
  · intro v hv
    rw [← hL] at hv
    simp only [Builtin.zeroCells, Array.toList_map, List.mem_map] at hv
    obtain ⟨i, _, rfl⟩ := hv
    have hs : zAd.cells.size = 3 := rfl
    have hi : i % zAd.cells.size < 3 := by rw [hs]; exact Nat.mod_lt _ (by decide)
    have hall : ∀ j, j < 3 → (zAd.cells[j]!).oneCell' = true := by decide
    exact hall _ hi
  · intro j hj
    rw [hLl] at hj
    have hlen : c * 3 + j < (eAd.cells ys).length := by rw [eAd.cells_len, e3, ← hn]; omega
    have h4 := World.ownsRow.cells h (g := g) rfl (c * 3 + j) _ (List.getElem?_eq_getElem hlen)
    rw [Addr.add_lit, Nat.zero_add] at h4
    rw [h4]; rfl
  · intro j _
    rcases h.2 with ⟨hv, _⟩ | ⟨g', cap', cur, hv, hB, hh, _⟩
    · cases hv
    · cases hv; exact frozen_of_row w g _ _ _ hh

theorem zeroAd_run (w : World) : (zeroValue 30).run Tryz.prog w = .ok zAd w := by
  kernel_rfl

set_option maxHeartbeats 4000000 in
theorem compact_any (B g n cap : Nat) (xs : List Ad) (w : World) (hown : OwnE eAd 30 B w (.slice (some ⟨g, 0, none⟩) n cap) xs) (hnl : n = xs.length) (hn2 : 2 ≤ n) (hn : n ≤ 1000000) (hB : B ≤ w.heap.size) (hs : xs.Pairwise (fun a b => a.n ≤ b.n)) (hU : ∀ a ∈ xs, a.U) :
    Calls Tryz.prog 65 #[.slice (some ⟨g, 0, none⟩) n cap] w fun e w' => ∃ cap' zs, e = .returned (.slice (some ⟨g, 0, none⟩) zs.length cap') ∧ SlE eAd w' (some ⟨g, 0, none⟩) zs.length cap' zs ∧ CpI xs n zs ∧ zs.length ≤ n ∧ Below B w w' := by
  replace hs := Lib.hid hs
  replace hU := Lib.hid hU
  have hcap : n ≤ cap := by
    rcases hown.2 with ⟨hv, _⟩ | ⟨g', cap', cur, hv, hB, hh, h1, h2, hsz, htake⟩
    · cases hv
    · cases hv; omega
  have hgB : B ≤ g ∧ g < w.heap.size := hown.lt g rfl
  have hbw := Below.refl B w
  have h2n : ¬ (n : Int) < 2 := by omega
  replace hnl := Lib.hid hnl
  go_enter Tryz.func65, Tryz.ntmps65
  go_wp2_with fail
  go_loopw [3] (fun vk wr => ∃ k : Nat, k + 1 ≤ n ∧ vk = .int .i64 ((k : Int) + 1) ∧ Hid (CpI xs (k + 1) (xs.take (k + 1))) ∧ OwnE eAd 30 B wr (.slice (some ⟨g, 0, none⟩) n cap) xs ∧ Below B w wr) (fun vk _ => n - (intOf vk).toNat)
  case atStart => exact ⟨0, by omega, rfl, Lib.hid (by
      obtain ⟨x, hx⟩ : ∃ x, xs[0]? = some x := ⟨xs[0]'(by have := hnl.out; omega), List.getElem?_eq_getElem _⟩
      rw [List.take_add_one, hx]
      exact CpI.one hx), hown, hbw⟩
  case round =>
    clear hown hbw
    obtain ⟨k, hk, rfl, hI, hown, hbw⟩ := hrel
    by_cases hlt : k + 1 < n
    · obtain ⟨y, hy⟩ : ∃ x, xs[k + 1]? = some x := ⟨xs[k + 1]'(by have := hnl.out; omega), List.getElem?_eq_getElem _⟩
      obtain ⟨z, hz⟩ : ∃ x, xs[k]? = some x := ⟨xs[k]'(by have := hnl.out; omega), List.getElem?_eq_getElem _⟩
      obtain ⟨K, hK⟩ : ∃ K, K = k + 1 := ⟨_, rfl⟩
      have e0 : (k : Int) + 1 = K := by omega
      have e1 : (K : Int) - 1 = k := by omega
      have hx := hy
      rw [← hK] at hx
      have hx' := hz
      have hltK : (K : Int) < n := by omega
      have hltk : (k : Int) < n := by omega
      have hKn : K < n := by omega
      have hsB : B ≤ wr.heap.size := Nat.le_trans hB hbw.size
      have q1 : IntKind.i64.wrap (k : Int) = k := IntWalk.i64_in _ (by omega)
      have hsame := Lib.hid (fun (e : y = z) => hI.out.same (y := y) hy (by rw [e]; exact hz))
      have hnext := Lib.hid (fun e => hI.out.next hs.out hU.out hy hz e)
      have heq := Lib.hid (adE_eq y z)
      rw [e0]
      have hyh := Lib.hid hy
      clear hI hlt hy hz hk e0
      replace hK := Lib.hid hK
      go_upto_region 6 with fail
      refine wx_begin (none) [] (by kernel_rfl) (fun u0 hb0' hz0' => ?_)
      replace hown := hown.below hb0'
      replace hbw := hbw.trans (hb0'.mono hsB)
      replace hsB : B ≤ u0.heap.size := Nat.le_trans hsB hb0'.size
      clear hb0' hz0'
      refine wx_pureZ 0 (some 16) (v := ?_) ?_ ?_; rotate_left; · (intro u; go_simp; try with_reducible rfl)
      try simp only [Act.put, gzD, gzE, gzF]
      refine wx_pureZ 1 (some 17) (v := ?_) ?_ ?_; rotate_left; · (intro u; go_simp; try with_reducible rfl)
      try simp only [Act.put, gzD, gzE, gzF]
      refine wx_pureZ 2 (some 18) (v := ?_) ?_ ?_; rotate_left; · (intro u; go_simp; try with_reducible rfl)
      try simp only [Act.put, gzD, gzE, gzF]
      refine wx_takeZ 3 (some 19) (v := ?_) ?_ ?_; rotate_left; · (intro u hu; have o := hown.gb hu (.inr (by simp [Value.ownBlock])); have k1 : (ldT 30 (.pointer (some ⟨g, K * 3, none⟩))).run Tryz.prog u = .ok (.value (adA y)) u := o.ld rowAd rfl hx; have k2 : (ldT 30 (.pointer (some ⟨g, k * 3, none⟩))).run Tryz.prog u = .ok (.value (adA z)) u := o.ld rowAd rfl hx'; go_simp; try with_reducible rfl)
      try simp only [Act.put, gzD, gzE, gzF]
      refine wx_pureZ 4 (some 20) (v := ?_) ?_ ?_; rotate_left; · (intro u; go_simp; try with_reducible rfl)
      try simp only [Act.put, gzD, gzE, gzF]
      refine wx_pureZ 5 (some 21) (v := ?_) ?_ ?_; rotate_left; · (intro u; go_simp; try with_reducible rfl)
      try simp only [Act.put, gzD, gzE, gzF]
      refine wx_pureZ 6 (some 22) (v := ?_) ?_ ?_; rotate_left; · (intro u; go_simp; try with_reducible rfl)
      try simp only [Act.put, gzD, gzE, gzF]
      refine wx_pureZ 7 (some 23) (v := ?_) ?_ ?_; rotate_left; · (intro u; go_simp; try with_reducible rfl)
      try simp only [Act.put, gzD, gzE, gzF]
      refine wx_takeZ 8 (some 24) (v := ?_) ?_ ?_; rotate_left; · (intro u hu; have o := hown.gb hu (.inr (by simp [Value.ownBlock])); have k1 : (ldT 30 (.pointer (some ⟨g, K * 3, none⟩))).run Tryz.prog u = .ok (.value (adA y)) u := o.ld rowAd rfl hx; have k2 : (ldT 30 (.pointer (some ⟨g, k * 3, none⟩))).run Tryz.prog u = .ok (.value (adA z)) u := o.ld rowAd rfl hx'; go_simp; try with_reducible rfl)
      try simp only [Act.put, gzD, gzE, gzF]
      refine wx_pureZ 9 (some 25) (v := ?_) ?_ ?_; rotate_left; · (intro u; go_simp; try with_reducible rfl)
      try simp only [Act.put, gzD, gzE, gzF]
      refine wx_done (by kernel_rfl) ?_ _
      skip
      by_cases hyz : y = z
      · have HV : adE y z = true := heq.out.2 hyz
        have hcp := Lib.hid (show CpR xs K K xs from ⟨rfl, Nat.le_refl _, by rw [hK.out]; exact hsame.out hyz, rfl⟩)
        rw [HV]
        clear hsame hnext heq hyz hx hx' q1 HV
        have hcK : ¬ (cap : Int) = K := by omega
        have hKc : (K : Int) ≤ cap := by omega
        go_wp2_with fail
        obtain ⟨D, hD⟩ : ∃ D, D = n - K := ⟨_, rfl⟩
        obtain ⟨D', hD'⟩ : ∃ D, D = cap - K := ⟨_, rfl⟩
        rw [← hD, ← hD']
        have hDn : n = K + D := by omega
        clear hD hD'
        go_loopw [3, 5] (fun v3 v5 wr => ∃ (c m : Nat) (ys : List Ad), m + 1 ≤ D ∧ v3 = .int .i64 c ∧ v5 = .int .i64 ((m : Int) + 1) ∧ Hid (CpR xs c (K + m) ys) ∧ OwnE eAd 30 B wr (.slice (some ⟨g, 0, none⟩) n cap) ys ∧ Below B w wr ∧ c ≤ K + m) (fun _ v5 _ => n - (intOf v5).toNat)
        case atStart => exact ⟨K, 0, xs, by omega, rfl, rfl, hcp, hown, hbw, Nat.le_refl _⟩
        case round =>
          clear hown hbw hsB hcp
          obtain ⟨c, m, ys, hmD, rfl, rfl, hI, hown, hbw, hcm⟩ := hrel
          have hlys := Lib.hid (show n = ys.length by rw [hI.out.1]; exact hnl.out)
          have hsB : B ≤ wr.heap.size := Nat.le_trans hB hbw.size
          by_cases hlt2 : m + 1 < D
          · obtain ⟨M, hM⟩ : ∃ M, M = m + 1 := ⟨_, rfl⟩
            have i0 : (m : Int) + 1 = M := by omega
            have i1 : (M : Int) - 1 = m := by omega
            have q1 : IntKind.i64.wrap (m : Int) = m := IntWalk.i64_in _ (by omega)
            have hltM : (M : Int) < D := by omega
            have hltm : (m : Int) < D := by omega
            have hcn : (c : Int) < n := by omega
            obtain ⟨y, hy⟩ : ∃ x, ys[K + M]? = some x := ⟨ys[K + M]'(by have := hlys.out; omega), List.getElem?_eq_getElem _⟩
            obtain ⟨z, hy'⟩ : ∃ x, ys[K + m]? = some x := ⟨ys[K + m]'(by have := hlys.out; omega), List.getElem?_eq_getElem _⟩
            have e1 := Lib.hid (show (K + M) * 3 = K * 3 + M * 3 from Nat.add_mul _ _ _)
            have e2 := Lib.hid (show (K + m) * 3 = K * 3 + m * 3 from Nat.add_mul _ _ _)
            have hxy : xs[K + m + 1]? = some y := by rw [← hI.out.get (by omega), show K + m + 1 = K + M by omega]; exact hy
            have hxz : xs[K + m]? = some z := by rw [← hI.out.get (Nat.le_refl _)]; exact hy'
            have hsame := Lib.hid (fun (e : y = z) => hI.out.skip hxy (by rw [e]; exact hxz))
            have hput := Lib.hid (fun e => hI.out.put hs.out hU.out hxy hxz e)
            have heq := Lib.hid (adE_eq y z)
            rw [i0]
            clear hxy hxz i0
            replace hM := Lib.hid hM
            go_upto_region 11 with fail
            refine wx_begin (none) [] (by kernel_rfl) (fun u0 hb0' hz0' => ?_)
            replace hown := hown.below hb0'
            replace hbw := hbw.trans (hb0'.mono hsB)
            replace hsB : B ≤ u0.heap.size := Nat.le_trans hsB hb0'.size
            clear hb0' hz0'
            refine wx_pureZ 0 (some 35) (v := ?_) ?_ ?_; rotate_left; · (intro u; go_simp; try with_reducible rfl)
            try simp only [Act.put, gzD, gzE, gzF]
            refine wx_pureZ 1 (some 36) (v := ?_) ?_ ?_; rotate_left; · (intro u; go_simp; try with_reducible rfl)
            try simp only [Act.put, gzD, gzE, gzF]
            refine wx_pureZ 2 (some 37) (v := ?_) ?_ ?_; rotate_left; · (intro u; go_simp; try with_reducible rfl)
            try simp only [Act.put, gzD, gzE, gzF]
            refine wx_takeZ 3 (some 38) (v := ?_) ?_ ?_; rotate_left; · (intro u hu; have o := hown.gb hu (.inr (by simp [Value.ownBlock])); have k1 : (ldT 30 (.pointer (some ⟨g, K * 3 + M * 3, none⟩))).run Tryz.prog u = .ok (.value (adA y)) u := (by rw [← e1.out]; exact o.ld rowAd rfl hy); have k2 : (ldT 30 (.pointer (some ⟨g, K * 3 + m * 3, none⟩))).run Tryz.prog u = .ok (.value (adA z)) u := (by rw [← e2.out]; exact o.ld rowAd rfl hy'); go_simp; try with_reducible rfl)
            try simp only [Act.put, gzD, gzE, gzF]
            refine wx_pureZ 4 (some 39) (v := ?_) ?_ ?_; rotate_left; · (intro u; go_simp; try with_reducible rfl)
            try simp only [Act.put, gzD, gzE, gzF]
            refine wx_pureZ 5 (some 40) (v := ?_) ?_ ?_; rotate_left; · (intro u; go_simp; try with_reducible rfl)
            try simp only [Act.put, gzD, gzE, gzF]
            refine wx_pureZ 6 (some 41) (v := ?_) ?_ ?_; rotate_left; · (intro u; go_simp; try with_reducible rfl)
            try simp only [Act.put, gzD, gzE, gzF]
            refine wx_pureZ 7 (some 42) (v := ?_) ?_ ?_; rotate_left; · (intro u; go_simp; try with_reducible rfl)
            try simp only [Act.put, gzD, gzE, gzF]
            refine wx_takeZ 8 (some 43) (v := ?_) ?_ ?_; rotate_left; · (intro u hu; have o := hown.gb hu (.inr (by simp [Value.ownBlock])); have k1 : (ldT 30 (.pointer (some ⟨g, K * 3 + M * 3, none⟩))).run Tryz.prog u = .ok (.value (adA y)) u := (by rw [← e1.out]; exact o.ld rowAd rfl hy); have k2 : (ldT 30 (.pointer (some ⟨g, K * 3 + m * 3, none⟩))).run Tryz.prog u = .ok (.value (adA z)) u := (by rw [← e2.out]; exact o.ld rowAd rfl hy'); go_simp; try with_reducible rfl)
            try simp only [Act.put, gzD, gzE, gzF]
            refine wx_pureZ 9 (some 44) (v := ?_) ?_ ?_; rotate_left; · (intro u; go_simp; try with_reducible rfl)
            try simp only [Act.put, gzD, gzE, gzF]
            refine wx_done (by kernel_rfl) ?_ _
            skip
            by_cases hyz : y = z
            · have HV : adE y z = true := heq.out.2 hyz
              have hI2 := Lib.hid (show CpR xs c (K + M) ys by rw [hM.out]; exact hsame.out hyz)
              rw [HV]
              clear hsame hput heq hyz hy hy' q1 HV
              go_wp2_with fail
              go_roundw
              case rel => exact ⟨c, M, ys, by omega, rfl, by go_num, hI2, hown, hbw, by have := hM.out; omega⟩
              case measure => simp [intOf]; omega
            · have HV : adE y z = false := by rw [Bool.eq_false_iff]; exact fun e => hyz (heq.out.1 e)
              have hI2 := Lib.hid (show CpR xs (c + 1) (K + M) (ys.set c y) by rw [hM.out]; exact hput.out hyz)
              rw [HV]
              obtain ⟨o, ho⟩ : ∃ o, ys[c]? = some o := ⟨ys[c]'(by have := hlys.out; omega), List.getElem?_eq_getElem _⟩
              have S := stT_own' rowAd (E := eAd) (k := 3) rfl hown ho 0 (adC y) (by decide) rfl (adC_one y)
              have k1 : (ldT 30 (.pointer (some ⟨g, K * 3 + M * 3, none⟩))).run Tryz.prog u0 = .ok (.value (adA y)) u0 := by rw [← e1.out]; exact hown.ld rowAd rfl hy
              have hset := own_setAt (k := 3) rfl (x' := y) hown hlys.out ho
              have hb3 := below_setC hgB.1 (adC y) (c * 3) _ hbw
              simp only [Nat.add_zero] at S
              replace hset : OwnE eAd 30 B (World.setCells _ g (c * 3) (adC y)) _ _ := hset
              clear hsame hput heq hyz hy hy' q1 HV hown hbw ho
              go_wp2_with fail
              go_roundw
              case rel => exact ⟨c + 1, M, _, by omega, by go_num, by go_num, hI2, hset, hb3, by have := hM.out; omega⟩
              case measure => simp [intOf]; omega
          · have hmd : D = m + 1 := by omega
            obtain ⟨L, hCL⟩ := clear_rest hown hlys.out (c := c) (by omega) zeroAd_run (cap - c)
            have hfin := Lib.hid (show CpI xs n (ys.take c) by
              have h := hI.out.2.2.1
              rwa [show K + m + 1 = n by omega] at h)
            have hcC : (c : Int) ≤ cap := by omega
            have hcC2 : ¬ (cap : Int) = c := by omega
            have hcN : (c : Int) ≤ n := by omega
            have i0 : (m : Int) + 1 = D := by omega
            rw [i0]
            have hSl := Lib.hid (sl_ahead hown hlys.out (show c ≤ n by omega) hcap L)
            have hb3 := Lib.hid (below_setC hgB.1 L (c * 3) _ hbw)
            have hln := Lib.hid (show c = (ys.take c).length by rw [List.length_take]; have := hlys.out; omega)
            have hcn2 : c ≤ n := by omega
            clear hown hbw hI i0 hmd hDn hKn hltK hltk hmD hlt2 hcm
            go_wp2_with fail
            go_ret
            exact ⟨cap, ys.take c, by rw [← hln.out]; rfl, by rw [← hln.out]; exact hSl.out, hfin.out, by rw [← hln.out]; exact hcn2, hb3.out⟩
      · have HV : adE y z = false := by rw [Bool.eq_false_iff]; exact fun e => hyz (heq.out.1 e)
        have hcp := Lib.hid (show CpI xs (K + 1) (xs.take (K + 1)) by
          have h := hnext.out hyz
          rw [hK.out]
          rw [List.take_add_one (i := k + 1), hyh.out]
          exact h)
        rw [HV]
        clear hsame hnext heq hyz hx hx' q1 HV
        go_wp2_with fail
        go_roundw
        case rel => exact ⟨K, by omega, by go_num, hcp, hown, hbw⟩
        case measure => simp [intOf]; omega
    · have hkn : k + 1 = n := by omega
      have e0 : (k : Int) + 1 = n := by omega
      rw [e0]
      rw [hkn, hnl.out, List.take_length, ← hnl.out] at hI
      have hS := Lib.hid hown.sl
      clear hown e0
      go_wp2_with fail
      go_ret
      obtain ⟨A, cap2, hv, hS⟩ := hS.out
      cases hv
      exact ⟨cap, xs, by rw [hnl.out]; rfl, hS, hI.out, by rw [hnl.out]; exact Nat.le_refl _, hbw⟩
end Go.Proofs.YtfpcalgkfagjkaaGreatDoor
