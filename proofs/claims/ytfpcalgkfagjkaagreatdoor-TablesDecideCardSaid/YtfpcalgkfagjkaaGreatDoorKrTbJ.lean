/- Tables: CompactFunc: without the entries whose prefix is that of the one ahead. -/
import Derived.Test.YtfpcalgkfagjkaaGreatDoorKrGzA
import Derived.Test.YtfpcalgkfagjkaaGreatDoorKrTbI
import Derived.Test.YtfpcalgkfagjkaaGreatDoorKrSvI
set_option linter.unusedVariables false
set_option linter.unusedSimpArgs false
set_option maxRecDepth 100000
namespace Go.Proofs.YtfpcalgkfagjkaaGreatDoor
open Go.RowKit

def sqzE (xs : List En) : Nat → List En
  | 0 => []
  | 1 => xs.take 1
  | j + 2 => if (xs[j + 1]?).map En.p = (xs[j]?).map En.p then sqzE xs (j + 1) else sqzE xs (j + 1) ++ (xs[j + 1]?).toList
def CpE (xs : List En) (j : Nat) (zs : List En) : Prop := zs = sqzE xs j
theorem CpE.same {xs : List En} {j : Nat} {zs : List En} (h : CpE xs (j + 1) zs) {y z : En} (hy : xs[j + 1]? = some y) (hy' : xs[j]? = some z) (he : y.p = z.p) : CpE xs (j + 2) zs := by
  unfold CpE sqzE
  rw [if_pos (by rw [hy, hy']; exact congrArg some he)]
  exact h
theorem CpE.next {xs : List En} {j : Nat} {zs : List En} (h : CpE xs (j + 1) zs) {y z : En} (hy : xs[j + 1]? = some y) (hy' : xs[j]? = some z) (hne : y.p ≠ z.p) : CpE xs (j + 2) (zs ++ [y]) := by
  unfold CpE sqzE
  rw [if_neg (by rw [hy, hy']; intro e; injection e with e; exact hne e), hy]
  rw [show zs = sqzE xs (j + 1) from h]
  rfl
theorem CpE.one {xs : List En} {x : En} (hx : xs[0]? = some x) : CpE xs 1 [x] := by
  unfold CpE sqzE
  rw [List.take_add_one, hx]
  rfl
@[go_sem] theorem run_eqPfP (x y : Operand) (p q : Pf) (w : World) : (eqPf x y (.agg (pfC p).toArray) (.agg (pfC q).toArray)).run Tryz.prog w = .ok (.value (.bool (pfE2 p q))) w :=
  run_eqPf x y p.1.s q.1.s p.1.hi p.1.lo q.1.hi q.1.lo p.2 q.2 w

set_option maxHeartbeats 1000000 in
theorem tblEq_any (x y : En) (w : World) :
    Calls Tryz.prog 58 #[enA x, enA y] w (GivesV (.bool (pfE2 x.p y.p)) w) := by
  obtain ⟨hA, hD⟩ := two_new w (enC x) (enC y) 37 37
  have hbw : Below w.heap.size w ((w.alloc (.cells (enC x).toArray 37)).alloc (.cells (enC y).toArray 37)) := ((Below.refl _ _).alloc (Nat.le_refl _) _).alloc (by simp) _
  have l1 := hA.ldAt rowPf 0 (pfC x.p) [.string ⟨x.nm.toArray⟩] rfl rfl
  have l2 := hD.ldAt rowPf 0 (pfC y.p) [.string ⟨y.nm.toArray⟩] rfl rfl
  have E1 := fun a b w' => run_eqPfP a b x.p y.p w'
  generalize pfE2 x.p y.p = V at *
  clear hA hD
  go_enter Tryz.func58, Tryz.ntmps58
  go_wp2_with fail
  go_ret
  exact ⟨rfl, hbw⟩
def CpT (xs : List En) (c j : Nat) (ys : List En) : Prop := ys.length = xs.length ∧ c ≤ j ∧ CpE xs (j + 1) (ys.take c) ∧ ys.drop j = xs.drop j
theorem CpT.get {xs : List En} {c j : Nat} {ys : List En} (h : CpT xs c j ys) {i : Nat} (hi : j ≤ i) : ys[i]? = xs[i]? := by
  have h1 := h.2.2.2
  have : (ys.drop j)[i - j]? = (xs.drop j)[i - j]? := by rw [h1]
  rw [List.getElem?_drop, List.getElem?_drop, show j + (i - j) = i by omega] at this
  exact this
theorem CpT.skip {xs : List En} {c j : Nat} {ys : List En} (h : CpT xs c j ys) {y : En} (hy : xs[j + 1]? = some y) {z : En} (hy' : xs[j]? = some z) (he : y.p = z.p) : CpT xs c (j + 1) ys := by
  refine ⟨h.1, by have := h.2.1; omega, h.2.2.1.same hy hy' he, ?_⟩
  have := congrArg (List.drop 1) h.2.2.2
  rwa [List.drop_drop, List.drop_drop] at this
theorem CpT.put {xs : List En} {c j : Nat} {ys : List En} (h : CpT xs c j ys) {y z : En} (hy : xs[j + 1]? = some y) (hy' : xs[j]? = some z) (hne : y.p ≠ z.p) : CpT xs (c + 1) (j + 1) (ys.set c y) := by
  have hj : j + 1 < xs.length := (List.getElem?_eq_some_iff.1 hy).1
  have hc := h.2.1
  have hl := h.1
  refine ⟨by rw [List.length_set]; exact h.1, by omega, ?_, ?_⟩
  · have e : (ys.set c y).take (c + 1) = ys.take c ++ [y] := by
      rw [List.take_add_one, List.take_set, List.getElem?_set_self (by omega)]
      rw [List.set_eq_of_length_le (by rw [List.length_take]; omega)]
      rfl
    rw [e]
    exact h.2.2.1.next hy hy' hne
  · rw [List.drop_set, if_pos (by omega)]
    have := congrArg (List.drop 1) h.2.2.2
    rwa [List.drop_drop, List.drop_drop] at this

theorem zeroEn_run (w : World) : (zeroValue 37).run Tryz.prog w = .ok zEn w := by
  kernel_rfl

theorem clear_restE {w : World} {B g n cap c : Nat} {ys : List En} (h : OwnE eEn 37 B w (.slice (some ⟨g, 0, none⟩) n cap) ys) (hn : n = ys.length) (hc : c < n) (hz : ∀ w, (zeroValue 37).run Tryz.prog w = .ok zEn w) (m : Nat) :
    ∃ L, ∀ ty, (Builtin.clear_ #[26] ty #[.slice (some ⟨g, c * 5, none⟩) (n - c) m]).run Tryz.prog w = .ok (.tuple #[]) (w.setCells g (c * 5) L) := by
  obtain ⟨L, hL⟩ : ∃ L, (Builtin.zeroCells zEn.cells (n - c)).toList = L := ⟨_, rfl⟩
  have e3 : eEn.k = 5 := rfl
  have hLl : L.length = (n - c) * 5 := by rw [← hL]; simp [Builtin.zeroCells]; rfl
  refine ⟨L, fun ty => run_clear_row w _ _ ty zEn Tryz.underlying26 hz g (c * 5) (n - c) m (by omega) L hL ?_ ?_ ?_⟩
  · intro v hv
    rw [← hL] at hv
    simp only [Builtin.zeroCells, Array.toList_map, List.mem_map] at hv
    obtain ⟨i, _, rfl⟩ := hv
    have hs : zEn.cells.size = 5 := rfl
    have hi : i % zEn.cells.size < 5 := by rw [hs]; exact Nat.mod_lt _ (by decide)
    have hall : ∀ j, j < 5 → (zEn.cells[j]!).oneCell' = true := by decide
    exact hall _ hi
  · intro j hj
    rw [hLl] at hj
    have hlen : c * 5 + j < (eEn.cells ys).length := by rw [eEn.cells_len, e3, ← hn]; omega
    have h4 := World.ownsRow.cells h (g := g) rfl (c * 5 + j) _ (List.getElem?_eq_getElem hlen)
    rw [Addr.add_lit, Nat.zero_add] at h4
    rw [h4]; rfl
  · intro j _
    rcases h.2 with ⟨hv, _⟩ | ⟨g', cap', cur, hv, hB, hh, _⟩
    · cases hv
    · cases hv; exact frozen_of_row w g _ _ _ hh

def RowN (C : List Value) (zs : List En) : Prop := ∀ (j : Nat) (x : En), zs[j]? = some x → ∀ (i : Nat) (v : Value), (enC x)[i]? = some v → C[j * 5 + i]? = some v
def OwnN (B : Nat) (w : World) (g n cap : Nat) (zs : List En) : Prop := ∃ C, w.ownsRow B 37 5 (.slice (some ⟨g, 0, none⟩) n cap) n C ∧ RowN C zs ∧ zs.length ≤ n
theorem OwnN.sl {B : Nat} {w : World} {g n c cap : Nat} {zs : List En} (h : OwnN B w g n c zs) (m : Nat) (hm : m = zs.length) (hcap : m ≤ cap) : SlE eEn w (some ⟨g, 0, none⟩) m cap zs := by
  obtain ⟨C, h1, h2, h3⟩ := h
  have hg' : g < w.heap.size := by
    rcases h1.2 with ⟨hv, _⟩ | ⟨g', cap', cur, hv, hB, hh, _⟩
    · cases hv
    · cases hv; exact (Array.getElem?_eq_some_iff.1 hh).1
  refine ⟨hm, hcap, (fun e => by cases e), .inr ⟨g, 0, rfl, hg', fun j x hx i v hv => ?_⟩⟩
  have h4 := World.ownsRow.cells h1 (g := g) rfl (j * 5 + i) v (h2 j x hx i v hv)
  rw [Addr.add_lit] at h4
  have e3 : eEn.k = 5 := rfl
  rw [show 0 + j * eEn.k + i = 0 + (j * 5 + i) by rw [e3]; omega]
  exact h4
theorem ownN_ahead {w : World} {B g n cap c : Nat} {ys : List En} (h : OwnE eEn 37 B w (.slice (some ⟨g, 0, none⟩) n cap) ys) (hn : n = ys.length) (hc : c ≤ n) (L : List Value) : OwnN B (w.setCells g (c * 5) L) g n cap (ys.take c) := by
  have h2 : w.ownsRow B 37 eEn.k (.slice (some ⟨g, 0, none⟩) n cap) n (eEn.cells ys) := by
    have h' := h
    unfold OwnE at h'
    rw [← hn] at h'
    exact h'
  refine ⟨_, own_setL L (c * 5) w _ h2, fun j x hx i v hv => ?_, by rw [List.length_take]; first | omega | exact Nat.min_le_right .. | skip⟩
  have hj : j < c := by have := (List.getElem?_eq_some_iff.1 hx).1; rw [List.length_take] at this; omega
  rw [List.getElem?_take, if_pos hj] at hx
  have hi : i < 5 := by have := (List.getElem?_eq_some_iff.1 hv).1; rw [enC_len] at this; exact this
  rw [setL_lt _ _ _ _ (by omega)]
  exact eEn.cells_get ys j x hx i v hv
theorem ownN_all {w : World} {B g n cap : Nat} {ys : List En} (h : OwnE eEn 37 B w (.slice (some ⟨g, 0, none⟩) n cap) ys) (hn : n = ys.length) : OwnN B w g n cap ys := by
  have h2 : w.ownsRow B 37 eEn.k (.slice (some ⟨g, 0, none⟩) n cap) n (eEn.cells ys) := by
    have h' := h
    unfold OwnE at h'
    rw [← hn] at h'
    exact h'
  exact ⟨_, h2, fun j x hx i v hv => eEn.cells_get ys j x hx i v hv, by omega⟩

def CfE (B g n cap : Nat) (xs : List En) (w : World) (e : Ending) (w' : World) : Prop := ∃ (m : Nat) (zs : List En), e = .returned (.slice (some ⟨g, 0, none⟩) m cap) ∧ m = zs.length ∧ m ≤ cap ∧ OwnN B w' g n cap zs ∧ CpE xs n zs ∧ Below B w w'

set_option maxHeartbeats 4000000 in
theorem compactE_any (B g n cap : Nat) (xs : List En) (w : World) (hown : OwnE eEn 37 B w (.slice (some ⟨g, 0, none⟩) n cap) xs) (hnl : n = xs.length) (hn2 : 2 ≤ n) (hn : n ≤ 1000000) (hB : B ≤ w.heap.size) :
    Calls Tryz.prog 57 #[.slice (some ⟨g, 0, none⟩) n cap, .func (.func 58) #[] #[]] w (CfE B g n cap xs w) := by
  have hcap : n ≤ cap := by
    rcases hown.2 with ⟨hv, _⟩ | ⟨g', cap', cur, hv, hB, hh, h1, h2, hsz, htake⟩
    · cases hv
    · cases hv; omega
  have hgB : B ≤ g ∧ g < w.heap.size := hown.lt g rfl
  have hbw := Below.refl B w
  have h2n : ¬ (n : Int) < 2 := by omega
  replace hnl := Lib.hid hnl
  go_enter Tryz.func57, Tryz.ntmps57
  go_wp2_with fail
  go_loopw [5] (fun vk wr => ∃ k : Nat, k + 1 ≤ n ∧ vk = .int .i64 ((k : Int) + 1) ∧ Hid (CpE xs (k + 1) (xs.take (k + 1))) ∧ OwnE eEn 37 B wr (.slice (some ⟨g, 0, none⟩) n cap) xs ∧ Below B w wr) (fun vk _ => n - (intOf vk).toNat)
  case atStart => exact ⟨0, by omega, rfl, Lib.hid (by
      obtain ⟨x, hx⟩ : ∃ x, xs[0]? = some x := ⟨xs[0]'(by have := hnl.out; omega), List.getElem?_eq_getElem _⟩
      rw [List.take_add_one, hx]
      exact CpE.one hx), hown, hbw⟩
  case round =>
    clear hown hbw
    obtain ⟨k, hk, rfl, hI, hown, hbw⟩ := hrel
    by_cases hlt : k + 1 < n
    · obtain ⟨y, hy⟩ : ∃ x, xs[k + 1]? = some x := ⟨xs[k + 1]'(by have := hnl.out; omega), List.getElem?_eq_getElem _⟩
      obtain ⟨z, hz⟩ : ∃ x, xs[k]? = some x := ⟨xs[k]'(by have := hnl.out; omega), List.getElem?_eq_getElem _⟩
      have HE := Lib.hid (fun W => tblEq_any y z W)
      have hsame := Lib.hid (fun (e : y.p = z.p) => hI.out.same (y := y) hy hz e)
      have hnext := Lib.hid (fun e => hI.out.next hy hz e)
      have hqd := pfE2_dec y.p z.p
      obtain ⟨q, hq⟩ : ∃ q, q = pfE2 y.p z.p := ⟨_, rfl⟩
      rw [← hq] at HE hqd
      replace hqd := Lib.hid hqd
      have hyh := Lib.hid hy
      clear hq hI
      obtain ⟨K, hK⟩ : ∃ K, K = k + 1 := ⟨_, rfl⟩
      have e0 : (k : Int) + 1 = K := by omega
      have e1 : (K : Int) - 1 = k := by omega
      have hx := hy
      rw [← hK] at hx
      have hx' := hz
      have hltK : (K : Int) < n := by omega
      have hltk : (k : Int) < n := by omega
      have hKn : K < n := by omega
      have hsB : B ≤ wr.heap.size := Nat.le_trans hB hbw.size
      have q1 : IntKind.i64.wrap (k : Int) = k := IntWalk.i64_in _ (by omega)
      rw [e0]
      clear hlt hy hz hk e0
      replace hK := Lib.hid hK
      go_upto_region 6 with fail
      refine wx_begin (none) [] (by kernel_rfl) (fun u0 hb0' hz0' => ?_)
      replace hown := hown.below hb0'
      replace hbw := hbw.trans (hb0'.mono hsB)
      replace hsB : B ≤ u0.heap.size := Nat.le_trans hsB hb0'.size
      clear hb0' hz0'
      refine wx_pureZ 0 (some 18) (v := ?_) ?_ ?_; rotate_left; · (intro u; go_simp; try with_reducible rfl)
      try simp only [Act.put, gzD, gzE, gzF]
      refine wx_pureZ 1 (some 19) (v := ?_) ?_ ?_; rotate_left; · (intro u; go_simp; try with_reducible rfl)
      try simp only [Act.put, gzD, gzE, gzF]
      refine wx_pureZ 2 (some 20) (v := ?_) ?_ ?_; rotate_left; · (intro u; go_simp; try with_reducible rfl)
      try simp only [Act.put, gzD, gzE, gzF]
      refine wx_pureZ 3 (some 21) (v := ?_) ?_ ?_; rotate_left; · (intro u; go_simp; try with_reducible rfl)
      try simp only [Act.put, gzD, gzE, gzF]
      refine wx_takeZ 4 (some 22) (v := ?_) ?_ ?_; rotate_left; · (intro u hu; have o := hown.gb hu (.inr (by simp [Value.ownBlock])); have k1 : (ldT 37 (.pointer (some ⟨g, K * 5, none⟩))).run Tryz.prog u = .ok (.value (enA y)) u := o.ld rowEn rfl hx; have k2 : (ldT 37 (.pointer (some ⟨g, k * 5, none⟩))).run Tryz.prog u = .ok (.value (enA z)) u := o.ld rowEn rfl hx'; go_simp; try with_reducible rfl)
      try simp only [Act.put, gzD, gzE, gzF]
      refine wx_pureZ 5 (some 23) (v := ?_) ?_ ?_; rotate_left; · (intro u; go_simp; try with_reducible rfl)
      try simp only [Act.put, gzD, gzE, gzF]
      refine wx_pureZ 6 (some 24) (v := ?_) ?_ ?_; rotate_left; · (intro u; go_simp; try with_reducible rfl)
      try simp only [Act.put, gzD, gzE, gzF]
      refine wx_pureZ 7 (some 25) (v := ?_) ?_ ?_; rotate_left; · (intro u; go_simp; try with_reducible rfl)
      try simp only [Act.put, gzD, gzE, gzF]
      refine wx_pureZ 8 (some 26) (v := ?_) ?_ ?_; rotate_left; · (intro u; go_simp; try with_reducible rfl)
      try simp only [Act.put, gzD, gzE, gzF]
      refine wx_takeZ 9 (some 27) (v := ?_) ?_ ?_; rotate_left; · (intro u hu; have o := hown.gb hu (.inr (by simp [Value.ownBlock])); have k1 : (ldT 37 (.pointer (some ⟨g, K * 5, none⟩))).run Tryz.prog u = .ok (.value (enA y)) u := o.ld rowEn rfl hx; have k2 : (ldT 37 (.pointer (some ⟨g, k * 5, none⟩))).run Tryz.prog u = .ok (.value (enA z)) u := o.ld rowEn rfl hx'; go_simp; try with_reducible rfl)
      try simp only [Act.put, gzD, gzE, gzF]
      refine wx_oneZ 10 (fun K hK => ?_)
      go_simp
      refine (HE.out _).mono ?_
      rintro e wq10 ⟨rfl, hv1⟩
      refine hK.out _ _ (gbB hv1) ?_
      replace hown := hown.below hv1
      replace hbw := hbw.trans (hv1.mono hsB)
      replace hsB := Nat.le_trans hsB hv1.size
      clear hK K hv1
      try simp only [Act.put, gzD, gzE, gzF]
      refine wx_done (by kernel_rfl) ?_ _
      clear HE hx hx' q1
      cases q
      · have hI2 := Lib.hid (show CpE xs (K + 1) (xs.take (K + 1)) by
          rw [hK.out, List.take_add_one, hyh.out]
          exact hnext.out (of_decide_eq_false hqd.out.symm))
        clear hsame hnext hqd hyh
        go_wp2_with fail
        go_roundw
        case rel => exact ⟨K, by omega, by go_num, hI2, hown, hbw⟩
        case measure => simp [intOf]; omega
      · have hcp := Lib.hid (show CpT xs K K xs from ⟨rfl, Nat.le_refl _, by rw [hK.out]; exact hsame.out (of_decide_eq_true hqd.out.symm), rfl⟩)
        clear hsame hnext hqd hyh
        have hcK : ¬ (cap : Int) = K := by omega
        have hKc : (K : Int) ≤ cap := by omega
        go_wp2_with fail
        obtain ⟨D, hD⟩ : ∃ D, D = n - K := ⟨_, rfl⟩
        obtain ⟨D', hD'⟩ : ∃ D, D = cap - K := ⟨_, rfl⟩
        rw [← hD, ← hD']
        have hDn : n ≤ K + D ∧ K + D ≤ n := by omega
        clear hD hD'
        go_loopw [5, 7] (fun v3 v5 wr => ∃ (c m : Nat) (ys : List En), m + 1 ≤ D ∧ v3 = .int .i64 c ∧ v5 = .int .i64 ((m : Int) + 1) ∧ Hid (CpT xs c (K + m) ys) ∧ OwnE eEn 37 B wr (.slice (some ⟨g, 0, none⟩) n cap) ys ∧ Below B w wr ∧ c ≤ K + m) (fun _ v5 _ => n - (intOf v5).toNat)
        case atStart => exact ⟨K, 0, xs, by omega, rfl, rfl, hcp, hown, hbw, Nat.le_refl _⟩
        case round =>
          clear hown hbw hsB hcp
          obtain ⟨c, m, ys, hmD, rfl, rfl, hI, hown, hbw, hcm⟩ := hrel
          have hlys := Lib.hid (show n = ys.length by rw [hI.out.1]; exact hnl.out)
          have hsB : B ≤ wr.heap.size := Nat.le_trans hB hbw.size
          by_cases hlt2 : m + 1 < D
          · obtain ⟨M, hM⟩ : ∃ M, M = m + 1 := ⟨_, rfl⟩
            have i0 : (m : Int) + 1 = M := by omega
            have i1 : (M : Int) - 1 = m := by omega
            have q1 : IntKind.i64.wrap (m : Int) = m := IntWalk.i64_in _ (by omega)
            have hltM : (M : Int) < D := by omega
            have hltm : (m : Int) < D := by omega
            have hcn : (c : Int) < n := by omega
            obtain ⟨y, hy⟩ : ∃ x, ys[K + M]? = some x := ⟨ys[K + M]'(by have := hlys.out; omega), List.getElem?_eq_getElem _⟩
            obtain ⟨z, hy'⟩ : ∃ x, ys[K + m]? = some x := ⟨ys[K + m]'(by have := hlys.out; omega), List.getElem?_eq_getElem _⟩
            have hxy : xs[K + m + 1]? = some y := by rw [← hI.out.get (by omega), show K + m + 1 = K + M by omega]; exact hy
            have hxz : xs[K + m]? = some z := by rw [← hI.out.get (Nat.le_refl _)]; exact hy'
            have hsame := Lib.hid (fun (e : y.p = z.p) => hI.out.skip hxy hxz e)
            have hput := Lib.hid (fun e => hI.out.put hxy hxz e)
            have HE := Lib.hid (fun W => tblEq_any y z W)
            have hqd := pfE2_dec y.p z.p
            obtain ⟨q, hq⟩ : ∃ q, q = pfE2 y.p z.p := ⟨_, rfl⟩
            rw [← hq] at HE hqd
            replace hqd := Lib.hid hqd
            clear hq hxy hxz
            have e1 := Lib.hid (show (K + M) * 5 = K * 5 + M * 5 from Nat.add_mul _ _ _)
            have e2 := Lib.hid (show (K + m) * 5 = K * 5 + m * 5 from Nat.add_mul _ _ _)
            rw [i0]
            clear i0
            replace hM := Lib.hid hM
            go_upto_region 11 with fail
            refine wx_begin (none) [] (by kernel_rfl) (fun u0 hb0' hz0' => ?_)
            replace hown := hown.below hb0'
            replace hbw := hbw.trans (hb0'.mono hsB)
            replace hsB : B ≤ u0.heap.size := Nat.le_trans hsB hb0'.size
            clear hb0' hz0'
            refine wx_pureZ 0 (some 38) (v := ?_) ?_ ?_; rotate_left; · (intro u; go_simp; try with_reducible rfl)
            try simp only [Act.put, gzD, gzE, gzF]
            refine wx_pureZ 1 (some 39) (v := ?_) ?_ ?_; rotate_left; · (intro u; go_simp; try with_reducible rfl)
            try simp only [Act.put, gzD, gzE, gzF]
            refine wx_pureZ 2 (some 40) (v := ?_) ?_ ?_; rotate_left; · (intro u; go_simp; try with_reducible rfl)
            try simp only [Act.put, gzD, gzE, gzF]
            refine wx_pureZ 3 (some 41) (v := ?_) ?_ ?_; rotate_left; · (intro u; go_simp; try with_reducible rfl)
            try simp only [Act.put, gzD, gzE, gzF]
            refine wx_takeZ 4 (some 42) (v := ?_) ?_ ?_; rotate_left; · (intro u hu; have o := hown.gb hu (.inr (by simp [Value.ownBlock])); have k1 : (ldT 37 (.pointer (some ⟨g, K * 5 + M * 5, none⟩))).run Tryz.prog u = .ok (.value (enA y)) u := (by rw [← e1.out]; exact o.ld rowEn rfl hy); have k2 : (ldT 37 (.pointer (some ⟨g, K * 5 + m * 5, none⟩))).run Tryz.prog u = .ok (.value (enA z)) u := (by rw [← e2.out]; exact o.ld rowEn rfl hy'); go_simp; try with_reducible rfl)
            try simp only [Act.put, gzD, gzE, gzF]
            refine wx_pureZ 5 (some 43) (v := ?_) ?_ ?_; rotate_left; · (intro u; go_simp; try with_reducible rfl)
            try simp only [Act.put, gzD, gzE, gzF]
            refine wx_pureZ 6 (some 44) (v := ?_) ?_ ?_; rotate_left; · (intro u; go_simp; try with_reducible rfl)
            try simp only [Act.put, gzD, gzE, gzF]
            refine wx_pureZ 7 (some 45) (v := ?_) ?_ ?_; rotate_left; · (intro u; go_simp; try with_reducible rfl)
            try simp only [Act.put, gzD, gzE, gzF]
            refine wx_pureZ 8 (some 46) (v := ?_) ?_ ?_; rotate_left; · (intro u; go_simp; try with_reducible rfl)
            try simp only [Act.put, gzD, gzE, gzF]
            refine wx_takeZ 9 (some 47) (v := ?_) ?_ ?_; rotate_left; · (intro u hu; have o := hown.gb hu (.inr (by simp [Value.ownBlock])); have k1 : (ldT 37 (.pointer (some ⟨g, K * 5 + M * 5, none⟩))).run Tryz.prog u = .ok (.value (enA y)) u := (by rw [← e1.out]; exact o.ld rowEn rfl hy); have k2 : (ldT 37 (.pointer (some ⟨g, K * 5 + m * 5, none⟩))).run Tryz.prog u = .ok (.value (enA z)) u := (by rw [← e2.out]; exact o.ld rowEn rfl hy'); go_simp; try with_reducible rfl)
            try simp only [Act.put, gzD, gzE, gzF]
            refine wx_oneZ 10 (fun K hK => ?_)
            go_simp
            refine (HE.out _).mono ?_
            rintro e wq10 ⟨rfl, hv1⟩
            refine hK.out _ _ (gbB hv1) ?_
            replace hown := hown.below hv1
            replace hbw := hbw.trans (hv1.mono hsB)
            replace hsB := Nat.le_trans hsB hv1.size
            clear hK K hv1
            try simp only [Act.put, gzD, gzE, gzF]
            refine wx_pureZ 11 (some 49) (v := ?_) ?_ ?_; rotate_left; · (intro u; go_simp; try with_reducible rfl)
            try simp only [Act.put, gzD, gzE, gzF]
            refine wx_done (by kernel_rfl) ?_ _
            clear HE
            cases q
            · obtain ⟨o, ho⟩ : ∃ o, ys[c]? = some o := ⟨ys[c]'(by have := hlys.out; omega), List.getElem?_eq_getElem _⟩
              have S := stT_own' rowEn (E := eEn) (k := 5) rfl hown ho 0 (enC y) (by decide) rfl (enC_one y)
              have k1 := hown.ld (k := 5) rowEn rfl hy
              rw [e1.out] at k1
              replace k1 : (ldT 37 (.pointer (some ⟨g, K * 5 + M * 5, none⟩))).run Tryz.prog _ = .ok (.value (enA y)) _ := k1
              have hset := own_setAt (k := 5) rfl (x' := y) hown hlys.out ho
              have hb3 := below_setC hgB.1 (enC y) (c * 5) _ hbw
              simp only [Nat.add_zero] at S
              replace hset : OwnE eEn 37 B (World.setCells _ g (c * 5) (enC y)) _ _ := hset
              have hI2 : Hid (CpT xs (c + 1) (K + M) (ys.set c y)) := Lib.hid (by
                have h := hput.out (of_decide_eq_false hqd.out.symm)
                rw [show K + M = K + m + 1 by have := hM.out; omega]; exact h)
              clear hsame hput hqd
              clear hy hy' q1 hown hbw ho
              go_wp2_with fail
              go_roundw
              case rel => exact ⟨c + 1, M, _, by omega, by go_num, by go_num, hI2, hset, hb3, by have := hM.out; omega⟩
              case measure => simp [intOf]; omega
            · have hI2 : Hid (CpT xs c (K + M) ys) := Lib.hid (by
                have h := hsame.out (of_decide_eq_true hqd.out.symm)
                rw [show K + M = K + m + 1 by have := hM.out; omega]; exact h)
              clear hsame hput hqd
              clear hy hy' q1
              go_wp2_with fail
              go_roundw
              case rel => exact ⟨c, M, ys, by omega, rfl, by go_num, hI2, hown, hbw, by have := hM.out; omega⟩
              case measure => simp [intOf]; omega
          · have hmd : D = m + 1 := by omega
            obtain ⟨L, hCL⟩ := clear_restE hown hlys.out (c := c) (by omega) zeroEn_run (cap - c)
            have hcC : (c : Int) ≤ cap := by omega
            have hcC2 : ¬ (cap : Int) = c := by omega
            have hcN : (c : Int) ≤ n := by omega
            have i0 : (m : Int) + 1 = D := by omega
            rw [i0]
            have hOr := Lib.hid (ownN_ahead hown hlys.out (show c ≤ n by omega) L)
            have hb3 := Lib.hid (below_setC hgB.1 L (c * 5) _ hbw)
            have hln := Lib.hid (show c = (ys.take c).length by rw [List.length_take]; have := hlys.out; omega)
            have hmem := Lib.hid (show CpE xs n (ys.take c) by rw [show n = K + m + 1 by omega]; exact hI.out.2.2.1)
            have hcc : c ≤ cap := by omega
            clear hown hbw hI i0 hmd hDn hKn hltK hltk hmD hlt2 hcm
            go_wp2_with fail
            go_ret
            exact ⟨c, ys.take c, rfl, hln.out, hcc, hOr.out, hmem.out, hb3.out⟩
    · have hkn : n = k + 1 := by omega
      have hOr := Lib.hid (ownN_all hown hnl.out)
      have hall := Lib.hid (show CpE xs n xs by
        have h := hI.out
        rw [List.take_of_length_le (by have := hnl.out; omega)] at h
        rw [hkn]; exact h)
      have i0 : (k : Int) + 1 = n := by omega
      rw [i0]
      clear hkn hk hlt i0 hown
      replace hbw := Lib.hid hbw
      go_wp2_with fail
      go_ret
      exact ⟨n, xs, rfl, hnl.out, hcap, hOr.out, hall.out, hbw.out⟩
end Go.Proofs.YtfpcalgkfagjkaaGreatDoor
