/- Reports: CompactFunc of every list; what is changed in a row. -/
import Derived.Test.YtfiocnjogbpgoaaGreatDoorKkThC
namespace Go.Proofs.YtfiocnjogbpgoaaGreatDoor
open Go.RowKit
set_option linter.unusedVariables false
set_option linter.unusedSimpArgs false

set_option maxHeartbeats 2000000 in
set_option maxRecDepth 100000 in
theorem repsEq_any (x y : Rp) (w : World) (hx : x.U) (hy : y.U) :
    Calls Tryz.prog 55 #[rpA x, rpA y] w (GivesV (.bool (cmpRp x y == 0)) w) := by
  obtain ⟨hA, hD⟩ := two_new w (rpC x) (rpC y) 56 56
  have hbw : Below w.heap.size w ((w.alloc (.cells (rpC x).toArray 56)).alloc (.cells (rpC y).toArray 56)) := ((Below.refl _ _).alloc (Nat.le_refl _) _).alloc (by simp) _
  have l1 := hA.ld rowRp (rpC_len x)
  have l2 := hD.ld rowRp (rpC_len y)
  have HC := Lib.hid (repOrder_d x y ((w.alloc (.cells (rpC x).toArray 56)).alloc (.cells (rpC y).toArray 56)) hx hy)
  generalize cmpRp x y = z at *
  clear hA hD hx hy
  go_enter Tryz.func55, Tryz.ntmps55
  go_wp2_with fail
  refine HC.out.mono ?_
  rintro e w' ⟨rfl, hg⟩
  have hb2 := hbw.trans (hg.below.mono hbw.size)
  clear l1 l2 HC hbw hg
  go_wp2_with fail
  refine bodyPost_ret (v := .bool (z == 0)) ?_ rfl ⟨rfl, hb2⟩
  simp [results, Tryz.results55, go_sem]

/-- Cells of a row, and the reports that they are. -/
def RowR (C : List Value) (zs : List Rp) : Prop := ∀ (j : Nat) (x : Rp), zs[j]? = some x → ∀ (i : Nat) (v : Value), (rpC x)[i]? = some v → C[j * 14 + i]? = some v
/-- A row of one's own, n reports long, of which the first ones are zs. -/
def OwnR (B : Nat) (w : World) (g n cap : Nat) (zs : List Rp) : Prop := ∃ C, w.ownsRow B 56 14 (.slice (some ⟨g, 0, none⟩) n cap) n C ∧ RowR C zs ∧ zs.length ≤ n
theorem OwnR.sl {B : Nat} {w : World} {g n c cap : Nat} {zs : List Rp} (h : OwnR B w g n c zs) (m : Nat) (hm : m = zs.length) (hcap : m ≤ cap) : SlE eRp w (some ⟨g, 0, none⟩) m cap zs := by
  obtain ⟨C, h1, h2, h3⟩ := h
  have hg' : g < w.heap.size := by
    rcases h1.2 with ⟨hv, _⟩ | ⟨g', cap', cur, hv, hB, hh, _⟩
    · cases hv
    · cases hv; exact (Array.getElem?_eq_some_iff.1 hh).1
  refine ⟨hm, hcap, (fun e => by cases e), .inr ⟨g, 0, rfl, hg', fun j x hx i v hv => ?_⟩⟩
  have h4 := World.ownsRow.cells h1 (g := g) rfl (j * 14 + i) v (h2 j x hx i v hv)
  rw [Addr.add_lit] at h4
  have e3 : eRp.k = 14 := rfl
  rw [show 0 + j * eRp.k + i = 0 + (j * 14 + i) by rw [e3]; omega]
  exact h4
/-- What is ahead of cells that are set. -/
theorem ownR_ahead {w : World} {B g n cap c : Nat} {ys : List Rp} (h : OwnE eRp 56 B w (.slice (some ⟨g, 0, none⟩) n cap) ys) (hn : n = ys.length) (hc : c ≤ n) (L : List Value) : OwnR B (w.setCells g (c * 14) L) g n cap (ys.take c) := by
  have h2 : w.ownsRow B 56 eRp.k (.slice (some ⟨g, 0, none⟩) n cap) n (eRp.cells ys) := by
    have h' := h
    unfold OwnE at h'
    rw [← hn] at h'
    exact h'
  refine ⟨_, own_setL L (c * 14) w _ h2, fun j x hx i v hv => ?_, by rw [List.length_take]; first | omega | exact Nat.min_le_right .. | skip⟩
  have hj : j < c := by have := (List.getElem?_eq_some_iff.1 hx).1; rw [List.length_take] at this; omega
  rw [List.getElem?_take, if_pos hj] at hx
  have hi : i < 14 := by have := (List.getElem?_eq_some_iff.1 hv).1; rw [rpC_len] at this; exact this
  rw [setL_lt _ _ _ _ (by omega)]
  exact eRp.cells_get ys j x hx i v hv
theorem ownR_all {w : World} {B g n cap : Nat} {ys : List Rp} (h : OwnE eRp 56 B w (.slice (some ⟨g, 0, none⟩) n cap) ys) (hn : n = ys.length) : OwnR B w g n cap ys := by
  have h2 : w.ownsRow B 56 eRp.k (.slice (some ⟨g, 0, none⟩) n cap) n (eRp.cells ys) := by
    have h' := h
    unfold OwnE at h'
    rw [← hn] at h'
    exact h'
  exact ⟨_, h2, fun j x hx i v hv => eRp.cells_get ys j x hx i v hv, by omega⟩

/-- What CompactFunc hands back: a slice of the row. -/
def CfP (B g n cap : Nat) (xs : List Rp) (w : World) (e : Ending) (w' : World) : Prop := ∃ (m cap' : Nat) (zs : List Rp), e = .returned (.slice (some ⟨g, 0, none⟩) m cap') ∧ m = zs.length ∧ m ≤ cap' ∧ OwnR B w' g n cap zs ∧ (∀ x ∈ zs, x ∈ xs) ∧ Below B w w'

set_option maxRecDepth 100000 in
set_option maxHeartbeats 4000000 in
theorem compactF_any (B g n cap : Nat) (xs : List Rp) (w : World) (hown : OwnE eRp 56 B w (.slice (some ⟨g, 0, none⟩) n cap) xs) (hU : ∀ x ∈ xs, x.U) (hnl : n = xs.length) (hn2 : 2 ≤ n) (hn : n ≤ 1000000) (hB : B ≤ w.heap.size) :
    Calls Tryz.prog 54 #[.slice (some ⟨g, 0, none⟩) n cap, .func (.func 55) #[] #[]] w (CfP B g n cap xs w) := by
  have hcap : n ≤ cap := by
    rcases hown.2 with ⟨hv, _⟩ | ⟨g', cap', cur, hv, hB, hh, h1, h2, hsz, htake⟩
    · cases hv
    · cases hv; omega
  have hgB : B ≤ g ∧ g < w.heap.size := hown.lt g rfl
  have hbw := Below.refl B w
  have h2n : ¬ (n : Int) < 2 := by omega
  replace hnl := Lib.hid hnl
  replace hU := Lib.hid hU
  go_enter Tryz.func54, Tryz.ntmps54
  go_wp2_with fail
  go_loopw [5] (fun vk wr => ∃ k : Nat, k + 1 ≤ n ∧ vk = .int .i64 ((k : Int) + 1) ∧ OwnE eRp 56 B wr (.slice (some ⟨g, 0, none⟩) n cap) xs ∧ Below B w wr) (fun vk _ => n - (intOf vk).toNat)
  case atStart => exact ⟨0, by omega, rfl, hown, hbw⟩
  case round =>
    clear hown hbw
    obtain ⟨k, hk, rfl, hown, hbw⟩ := hrel
    by_cases hlt : k + 1 < n
    · obtain ⟨y, hy⟩ : ∃ x, xs[k + 1]? = some x := ⟨xs[k + 1]'(by have := hnl.out; omega), List.getElem?_eq_getElem _⟩
      obtain ⟨z, hz⟩ : ∃ x, xs[k]? = some x := ⟨xs[k]'(by have := hnl.out; omega), List.getElem?_eq_getElem _⟩
      have HE := Lib.hid (fun W => repsEq_any y z W (hU.out y (List.mem_of_getElem? hy)) (hU.out z (List.mem_of_getElem? hz)))
      obtain ⟨q, hq⟩ : ∃ q, q = (cmpRp y z == 0) := ⟨_, rfl⟩
      rw [← hq] at HE
      clear hq
      obtain ⟨K, hK⟩ : ∃ K, K = k + 1 := ⟨_, rfl⟩
      have e0 : (k : Int) + 1 = K := by omega
      have e1 : (K : Int) - 1 = k := by omega
      have hx := hy
      rw [← hK] at hx
      have hx' := hz
      have hltK : (K : Int) < n := by omega
      have hltk : (k : Int) < n := by omega
      have hKn : K < n := by omega
      have hsB : B ≤ wr.heap.size := Nat.le_trans hB hbw.size
      have q1 : IntKind.i64.wrap (k : Int) = k := IntWalk.i64_in _ (by omega)
      rw [e0]
      clear hlt hy hz hk e0
      replace hK := Lib.hid hK
      go_upto_region 6 with fail
      refine wx_begin (none) [] (by kernel_rfl) (fun u0 hb0' hz0' => ?_)
      replace hown := hown.below hb0'
      replace hbw := hbw.trans (hb0'.mono hsB)
      replace hsB : B ≤ u0.heap.size := Nat.le_trans hsB hb0'.size
      clear hb0' hz0'
      refine wx_pure (i := 0) (d := some 18) (v := ?_) (by simp only [List.getElem?_toArray, List.getElem?_cons_succ, List.getElem?_cons_zero] <;> rfl) (by rfl) (by kernel_rfl) (by kernel_rfl) (by kernel_rfl) (fun _ _ _ h => h) (by rfl) ?_ ?_
      rotate_left
      · ((intro u); go_simp; try with_reducible rfl)
      try simp only [Act.put, List.setIfInBounds_toArray, List.set_cons_zero, List.set_cons_succ]
      refine wx_pure (i := 1) (d := some 19) (v := ?_) (by simp only [List.getElem?_toArray, List.getElem?_cons_succ, List.getElem?_cons_zero] <;> rfl) (by rfl) (by kernel_rfl) (by kernel_rfl) (by kernel_rfl) (fun _ _ _ h => h) (by rfl) ?_ ?_
      rotate_left
      · ((intro u); go_simp; try with_reducible rfl)
      try simp only [Act.put, List.setIfInBounds_toArray, List.set_cons_zero, List.set_cons_succ]
      refine wx_pure (i := 2) (d := some 20) (v := ?_) (by simp only [List.getElem?_toArray, List.getElem?_cons_succ, List.getElem?_cons_zero] <;> rfl) (by rfl) (by kernel_rfl) (by kernel_rfl) (by kernel_rfl) (fun _ _ _ h => h) (by rfl) ?_ ?_
      rotate_left
      · ((intro u); go_simp; try with_reducible rfl)
      try simp only [Act.put, List.setIfInBounds_toArray, List.set_cons_zero, List.set_cons_succ]
      refine wx_pure (i := 3) (d := some 21) (v := ?_) (by simp only [List.getElem?_toArray, List.getElem?_cons_succ, List.getElem?_cons_zero] <;> rfl) (by rfl) (by kernel_rfl) (by kernel_rfl) (by kernel_rfl) (fun _ _ _ h => h) (by rfl) ?_ ?_
      rotate_left
      · ((intro u); go_simp; try with_reducible rfl)
      try simp only [Act.put, List.setIfInBounds_toArray, List.set_cons_zero, List.set_cons_succ]
      refine wx_take (i := 4) (d := some 22) (v := ?_) (by simp only [List.getElem?_toArray, List.getElem?_cons_succ, List.getElem?_cons_zero] <;> rfl) (by rfl) (by kernel_rfl) (by kernel_rfl) (by kernel_rfl) (fun _ _ _ h => h) (by rfl) (by kernel_rfl) ?_ ?_
      rotate_left
      · ((intro u hu); have o := hown.gb hu (.inr (by simp [Value.ownBlock])); have k1 : (ldT 56 (.pointer (some ⟨g, K * 14, none⟩))).run Tryz.prog u = .ok (.value (rpA y)) u := o.ld rowRp rfl hx; have k2 : (ldT 56 (.pointer (some ⟨g, k * 14, none⟩))).run Tryz.prog u = .ok (.value (rpA z)) u := o.ld rowRp rfl hx'; go_simp; try with_reducible rfl)
      try simp only [Act.put, List.setIfInBounds_toArray, List.set_cons_zero, List.set_cons_succ]
      refine wx_pure (i := 5) (d := some 23) (v := ?_) (by simp only [List.getElem?_toArray, List.getElem?_cons_succ, List.getElem?_cons_zero] <;> rfl) (by rfl) (by kernel_rfl) (by kernel_rfl) (by kernel_rfl) (fun _ _ _ h => h) (by rfl) ?_ ?_
      rotate_left
      · ((intro u); go_simp; try with_reducible rfl)
      try simp only [Act.put, List.setIfInBounds_toArray, List.set_cons_zero, List.set_cons_succ]
      refine wx_pure (i := 6) (d := some 24) (v := ?_) (by simp only [List.getElem?_toArray, List.getElem?_cons_succ, List.getElem?_cons_zero] <;> rfl) (by rfl) (by kernel_rfl) (by kernel_rfl) (by kernel_rfl) (fun _ _ _ h => h) (by rfl) ?_ ?_
      rotate_left
      · ((intro u); go_simp; try with_reducible rfl)
      try simp only [Act.put, List.setIfInBounds_toArray, List.set_cons_zero, List.set_cons_succ]
      refine wx_pure (i := 7) (d := some 25) (v := ?_) (by simp only [List.getElem?_toArray, List.getElem?_cons_succ, List.getElem?_cons_zero] <;> rfl) (by rfl) (by kernel_rfl) (by kernel_rfl) (by kernel_rfl) (fun _ _ _ h => h) (by rfl) ?_ ?_
      rotate_left
      · ((intro u); go_simp; try with_reducible rfl)
      try simp only [Act.put, List.setIfInBounds_toArray, List.set_cons_zero, List.set_cons_succ]
      refine wx_pure (i := 8) (d := some 26) (v := ?_) (by simp only [List.getElem?_toArray, List.getElem?_cons_succ, List.getElem?_cons_zero] <;> rfl) (by rfl) (by kernel_rfl) (by kernel_rfl) (by kernel_rfl) (fun _ _ _ h => h) (by rfl) ?_ ?_
      rotate_left
      · ((intro u); go_simp; try with_reducible rfl)
      try simp only [Act.put, List.setIfInBounds_toArray, List.set_cons_zero, List.set_cons_succ]
      refine wx_take (i := 9) (d := some 27) (v := ?_) (by simp only [List.getElem?_toArray, List.getElem?_cons_succ, List.getElem?_cons_zero] <;> rfl) (by rfl) (by kernel_rfl) (by kernel_rfl) (by kernel_rfl) (fun _ _ _ h => h) (by rfl) (by kernel_rfl) ?_ ?_
      rotate_left
      · ((intro u hu); have o := hown.gb hu (.inr (by simp [Value.ownBlock])); have k1 : (ldT 56 (.pointer (some ⟨g, K * 14, none⟩))).run Tryz.prog u = .ok (.value (rpA y)) u := o.ld rowRp rfl hx; have k2 : (ldT 56 (.pointer (some ⟨g, k * 14, none⟩))).run Tryz.prog u = .ok (.value (rpA z)) u := o.ld rowRp rfl hx'; go_simp; try with_reducible rfl)
      try simp only [Act.put, List.setIfInBounds_toArray, List.set_cons_zero, List.set_cons_succ]
      refine wx_one (i := 10) (by simp only [List.getElem?_toArray, List.getElem?_cons_succ, List.getElem?_cons_zero] <;> rfl) (by kernel_rfl) (by rfl) (fun K hK => ?_)
      go_simp
      refine (HE.out _).mono ?_
      rintro e wq10 ⟨rfl, hv1⟩
      refine hK.out _ _ (gbB hv1) ?_
      replace hown := hown.below hv1
      replace hbw := hbw.trans (hv1.mono hsB)
      replace hsB := Nat.le_trans hsB hv1.size
      clear hK K hv1
      try simp only [Act.put, List.setIfInBounds_toArray, List.set_cons_zero, List.set_cons_succ]
      refine wx_done (by kernel_rfl) ?_ _
      clear HE hx hx' q1
      cases q
      · go_wp2_with fail
        go_roundw
        case rel => exact ⟨K, by omega, by go_num, hown, hbw⟩
        case measure => simp [intOf]; omega
      · have hcK : ¬ (cap : Int) = K := by omega
        have hKc : (K : Int) ≤ cap := by omega
        go_wp2_with fail
        obtain ⟨D, hD⟩ : ∃ D, D = n - K := ⟨_, rfl⟩
        obtain ⟨D', hD'⟩ : ∃ D, D = cap - K := ⟨_, rfl⟩
        rw [← hD, ← hD']
        have hDn : n ≤ K + D ∧ K + D ≤ n := by omega
        clear hD hD'
        go_loopw [5, 7] (fun v3 v5 wr => ∃ (c m : Nat) (ys : List Rp), m + 1 ≤ D ∧ v3 = .int .i64 c ∧ v5 = .int .i64 ((m : Int) + 1) ∧ Hid (ys.length = n ∧ ∀ x ∈ ys, x ∈ xs) ∧ OwnE eRp 56 B wr (.slice (some ⟨g, 0, none⟩) n cap) ys ∧ Below B w wr ∧ c ≤ K + m) (fun _ v5 _ => n - (intOf v5).toNat)
        case atStart => exact ⟨K, 0, xs, by omega, rfl, rfl, Lib.hid ⟨hnl.out.symm, fun _ h => h⟩, hown, hbw, Nat.le_refl _⟩
        case round =>
          clear hown hbw hsB
          obtain ⟨c, m, ys, hmD, rfl, rfl, hI, hown, hbw, hcm⟩ := hrel
          have hlys := Lib.hid (show n = ys.length from hI.out.1.symm)
          have hsB : B ≤ wr.heap.size := Nat.le_trans hB hbw.size
          by_cases hlt2 : m + 1 < D
          · obtain ⟨M, hM⟩ : ∃ M, M = m + 1 := ⟨_, rfl⟩
            have i0 : (m : Int) + 1 = M := by omega
            have i1 : (M : Int) - 1 = m := by omega
            have q1 : IntKind.i64.wrap (m : Int) = m := IntWalk.i64_in _ (by omega)
            have hltM : (M : Int) < D := by omega
            have hltm : (m : Int) < D := by omega
            have hcn : (c : Int) < n := by omega
            obtain ⟨y, hy⟩ : ∃ x, ys[K + M]? = some x := ⟨ys[K + M]'(by have := hlys.out; omega), List.getElem?_eq_getElem _⟩
            obtain ⟨z, hy'⟩ : ∃ x, ys[K + m]? = some x := ⟨ys[K + m]'(by have := hlys.out; omega), List.getElem?_eq_getElem _⟩
            have hyx := hI.out.2 y (List.mem_of_getElem? hy)
            have HE := Lib.hid (fun W => repsEq_any y z W (hU.out y hyx) (hU.out z (hI.out.2 z (List.mem_of_getElem? hy'))))
            obtain ⟨q, hq⟩ : ∃ q, q = (cmpRp y z == 0) := ⟨_, rfl⟩
            rw [← hq] at HE
            clear hq
            replace hyx := Lib.hid hyx
            have e1 := Lib.hid (show (K + M) * 14 = K * 14 + M * 14 from Nat.add_mul _ _ _)
            have e2 := Lib.hid (show (K + m) * 14 = K * 14 + m * 14 from Nat.add_mul _ _ _)
            rw [i0]
            clear i0
            replace hM := Lib.hid hM
            go_upto_region 11 with fail
            refine wx_begin (none) [] (by kernel_rfl) (fun u0 hb0' hz0' => ?_)
            replace hown := hown.below hb0'
            replace hbw := hbw.trans (hb0'.mono hsB)
            replace hsB : B ≤ u0.heap.size := Nat.le_trans hsB hb0'.size
            clear hb0' hz0'
            refine wx_pure (i := 0) (d := some 38) (v := ?_) (by simp only [List.getElem?_toArray, List.getElem?_cons_succ, List.getElem?_cons_zero] <;> rfl) (by rfl) (by kernel_rfl) (by kernel_rfl) (by kernel_rfl) (fun _ _ _ h => h) (by rfl) ?_ ?_
            rotate_left
            · ((intro u); go_simp; try with_reducible rfl)
            try simp only [Act.put, List.setIfInBounds_toArray, List.set_cons_zero, List.set_cons_succ]
            refine wx_pure (i := 1) (d := some 39) (v := ?_) (by simp only [List.getElem?_toArray, List.getElem?_cons_succ, List.getElem?_cons_zero] <;> rfl) (by rfl) (by kernel_rfl) (by kernel_rfl) (by kernel_rfl) (fun _ _ _ h => h) (by rfl) ?_ ?_
            rotate_left
            · ((intro u); go_simp; try with_reducible rfl)
            try simp only [Act.put, List.setIfInBounds_toArray, List.set_cons_zero, List.set_cons_succ]
            refine wx_pure (i := 2) (d := some 40) (v := ?_) (by simp only [List.getElem?_toArray, List.getElem?_cons_succ, List.getElem?_cons_zero] <;> rfl) (by rfl) (by kernel_rfl) (by kernel_rfl) (by kernel_rfl) (fun _ _ _ h => h) (by rfl) ?_ ?_
            rotate_left
            · ((intro u); go_simp; try with_reducible rfl)
            try simp only [Act.put, List.setIfInBounds_toArray, List.set_cons_zero, List.set_cons_succ]
            refine wx_pure (i := 3) (d := some 41) (v := ?_) (by simp only [List.getElem?_toArray, List.getElem?_cons_succ, List.getElem?_cons_zero] <;> rfl) (by rfl) (by kernel_rfl) (by kernel_rfl) (by kernel_rfl) (fun _ _ _ h => h) (by rfl) ?_ ?_
            rotate_left
            · ((intro u); go_simp; try with_reducible rfl)
            try simp only [Act.put, List.setIfInBounds_toArray, List.set_cons_zero, List.set_cons_succ]
            refine wx_take (i := 4) (d := some 42) (v := ?_) (by simp only [List.getElem?_toArray, List.getElem?_cons_succ, List.getElem?_cons_zero] <;> rfl) (by rfl) (by kernel_rfl) (by kernel_rfl) (by kernel_rfl) (fun _ _ _ h => h) (by rfl) (by kernel_rfl) ?_ ?_
            rotate_left
            · ((intro u hu); have o := hown.gb hu (.inr (by simp [Value.ownBlock])); have k1 : (ldT 56 (.pointer (some ⟨g, K * 14 + M * 14, none⟩))).run Tryz.prog u = .ok (.value (rpA y)) u := (by rw [← e1.out]; exact o.ld rowRp rfl hy); have k2 : (ldT 56 (.pointer (some ⟨g, K * 14 + m * 14, none⟩))).run Tryz.prog u = .ok (.value (rpA z)) u := (by rw [← e2.out]; exact o.ld rowRp rfl hy'); go_simp; try with_reducible rfl)
            try simp only [Act.put, List.setIfInBounds_toArray, List.set_cons_zero, List.set_cons_succ]
            refine wx_pure (i := 5) (d := some 43) (v := ?_) (by simp only [List.getElem?_toArray, List.getElem?_cons_succ, List.getElem?_cons_zero] <;> rfl) (by rfl) (by kernel_rfl) (by kernel_rfl) (by kernel_rfl) (fun _ _ _ h => h) (by rfl) ?_ ?_
            rotate_left
            · ((intro u); go_simp; try with_reducible rfl)
            try simp only [Act.put, List.setIfInBounds_toArray, List.set_cons_zero, List.set_cons_succ]
            refine wx_pure (i := 6) (d := some 44) (v := ?_) (by simp only [List.getElem?_toArray, List.getElem?_cons_succ, List.getElem?_cons_zero] <;> rfl) (by rfl) (by kernel_rfl) (by kernel_rfl) (by kernel_rfl) (fun _ _ _ h => h) (by rfl) ?_ ?_
            rotate_left
            · ((intro u); go_simp; try with_reducible rfl)
            try simp only [Act.put, List.setIfInBounds_toArray, List.set_cons_zero, List.set_cons_succ]
            refine wx_pure (i := 7) (d := some 45) (v := ?_) (by simp only [List.getElem?_toArray, List.getElem?_cons_succ, List.getElem?_cons_zero] <;> rfl) (by rfl) (by kernel_rfl) (by kernel_rfl) (by kernel_rfl) (fun _ _ _ h => h) (by rfl) ?_ ?_
            rotate_left
            · ((intro u); go_simp; try with_reducible rfl)
            try simp only [Act.put, List.setIfInBounds_toArray, List.set_cons_zero, List.set_cons_succ]
            refine wx_pure (i := 8) (d := some 46) (v := ?_) (by simp only [List.getElem?_toArray, List.getElem?_cons_succ, List.getElem?_cons_zero] <;> rfl) (by rfl) (by kernel_rfl) (by kernel_rfl) (by kernel_rfl) (fun _ _ _ h => h) (by rfl) ?_ ?_
            rotate_left
            · ((intro u); go_simp; try with_reducible rfl)
            try simp only [Act.put, List.setIfInBounds_toArray, List.set_cons_zero, List.set_cons_succ]
            refine wx_take (i := 9) (d := some 47) (v := ?_) (by simp only [List.getElem?_toArray, List.getElem?_cons_succ, List.getElem?_cons_zero] <;> rfl) (by rfl) (by kernel_rfl) (by kernel_rfl) (by kernel_rfl) (fun _ _ _ h => h) (by rfl) (by kernel_rfl) ?_ ?_
            rotate_left
            · ((intro u hu); have o := hown.gb hu (.inr (by simp [Value.ownBlock])); have k1 : (ldT 56 (.pointer (some ⟨g, K * 14 + M * 14, none⟩))).run Tryz.prog u = .ok (.value (rpA y)) u := (by rw [← e1.out]; exact o.ld rowRp rfl hy); have k2 : (ldT 56 (.pointer (some ⟨g, K * 14 + m * 14, none⟩))).run Tryz.prog u = .ok (.value (rpA z)) u := (by rw [← e2.out]; exact o.ld rowRp rfl hy'); go_simp; try with_reducible rfl)
            try simp only [Act.put, List.setIfInBounds_toArray, List.set_cons_zero, List.set_cons_succ]
            refine wx_one (i := 10) (by simp only [List.getElem?_toArray, List.getElem?_cons_succ, List.getElem?_cons_zero] <;> rfl) (by kernel_rfl) (by rfl) (fun K hK => ?_)
            go_simp
            refine (HE.out _).mono ?_
            rintro e wq10 ⟨rfl, hv1⟩
            refine hK.out _ _ (gbB hv1) ?_
            replace hown := hown.below hv1
            replace hbw := hbw.trans (hv1.mono hsB)
            replace hsB := Nat.le_trans hsB hv1.size
            clear hK K hv1
            try simp only [Act.put, List.setIfInBounds_toArray, List.set_cons_zero, List.set_cons_succ]
            refine wx_pure (i := 11) (d := some 49) (v := ?_) (by simp only [List.getElem?_toArray, List.getElem?_cons_succ, List.getElem?_cons_zero] <;> rfl) (by rfl) (by kernel_rfl) (by kernel_rfl) (by kernel_rfl) (fun _ _ _ h => h) (by rfl) ?_ ?_
            rotate_left
            · ((intro u); go_simp; try with_reducible rfl)
            try simp only [Act.put, List.setIfInBounds_toArray, List.set_cons_zero, List.set_cons_succ]
            refine wx_done (by kernel_rfl) ?_ _
            clear HE
            cases q
            · obtain ⟨o, ho⟩ : ∃ o, ys[c]? = some o := ⟨ys[c]'(by have := hlys.out; omega), List.getElem?_eq_getElem _⟩
              have S := stT_own' rowRp (E := eRp) (k := 14) rfl hown ho 0 (rpC y) (by decide) rfl (rpC_one y)
              have k1 := hown.ld (k := 14) rowRp rfl hy
              rw [e1.out] at k1
              replace k1 : (ldT 56 (.pointer (some ⟨g, K * 14 + M * 14, none⟩))).run Tryz.prog _ = .ok (.value (rpA y)) _ := k1
              have hset := own_setAt (k := 14) rfl (x' := y) hown hlys.out ho
              have hb3 := below_setC hgB.1 (rpC y) (c * 14) _ hbw
              simp only [Nat.add_zero] at S
              replace hset : OwnE eRp 56 B (World.setCells _ g (c * 14) (rpC y)) _ _ := hset
              have hI2 : Hid ((ys.set c y).length = n ∧ ∀ x ∈ ys.set c y, x ∈ xs) := Lib.hid ⟨by rw [List.length_set]; exact hI.out.1, fun x hx => by
                rcases List.mem_or_eq_of_mem_set hx with h | h
                · exact hI.out.2 x h
                · rw [h]; exact hyx.out⟩
              clear hy hy' q1 hown hbw ho
              go_wp2_with fail
              go_roundw
              case rel => exact ⟨c + 1, M, _, by omega, by go_num, by go_num, hI2, hset, hb3, by have := hM.out; omega⟩
              case measure => simp [intOf]; omega
            · clear hy hy' q1
              go_wp2_with fail
              go_roundw
              case rel => exact ⟨c, M, ys, by omega, rfl, by go_num, hI, hown, hbw, by have := hM.out; omega⟩
              case measure => simp [intOf]; omega
          · have hmd : D = m + 1 := by omega
            obtain ⟨L, hCL⟩ := clear_rest hown hlys.out (c := c) (by omega) zeroRp_run (cap - c)
            have hcC : (c : Int) ≤ cap := by omega
            have hcC2 : ¬ (cap : Int) = c := by omega
            have hcN : (c : Int) ≤ n := by omega
            have i0 : (m : Int) + 1 = D := by omega
            rw [i0]
            have hOr := Lib.hid (ownR_ahead hown hlys.out (show c ≤ n by omega) L)
            have hb3 := Lib.hid (below_setC hgB.1 L (c * 14) _ hbw)
            have hln := Lib.hid (show c = (ys.take c).length by rw [List.length_take]; have := hlys.out; omega)
            have hmem := Lib.hid (fun x (hx : x ∈ ys.take c) => hI.out.2 x (List.mem_of_mem_take hx))
            have hcc : c ≤ cap := by omega
            clear hown hbw hI i0 hmd hDn hKn hltK hltk hmD hlt2 hcm
            go_wp2_with fail
            go_ret
            exact ⟨c, cap, ys.take c, rfl, hln.out, hcc, hOr.out, hmem.out, hb3.out⟩
    · have hkn : n = k + 1 := by omega
      have hOr := Lib.hid (ownR_all hown hnl.out)
      have i0 : (k : Int) + 1 = n := by omega
      rw [i0]
      clear hkn hk hlt i0 hown
      replace hbw := Lib.hid hbw
      go_wp2_with fail
      go_ret
      exact ⟨n, cap, xs, rfl, hnl.out, hcap, hOr.out, fun _ h => h, hbw.out⟩
end Go.Proofs.YtfiocnjogbpgoaaGreatDoor
namespace Go.Proofs.YtfiocnjogbpgoaaGreatDoor
open Go.RowKit
set_option linter.unusedVariables false
set_option linter.unusedSimpArgs false

/-- A slice of a row of one's own (or nil, of nothing). -/
def OwnS (B : Nat) (w : World) (A : Option Addr) (m cap : Nat) (zs : List Rp) : Prop :=
  m = zs.length ∧ m ≤ cap ∧ ((zs = [] ∧ SlE eRp w A m cap zs ∧ ∀ ad, A = some ad → B ≤ ad.block ∧ ad.block < w.heap.size) ∨ ∃ g n c, A = some ⟨g, 0, none⟩ ∧ OwnR B w g n c zs)
theorem OwnR.lt {B : Nat} {w : World} {g n cap : Nat} {zs : List Rp} (h : OwnR B w g n cap zs) : B ≤ g ∧ g < w.heap.size := by
  obtain ⟨C, h1, h2, h3⟩ := h
  exact World.ownsRow.lt h1 g rfl
theorem OwnS.sl {B : Nat} {w : World} {A : Option Addr} {m cap : Nat} {zs : List Rp} (h : OwnS B w A m cap zs) : SlE eRp w A m cap zs := by
  obtain ⟨h1, h2, ⟨_, h3, _⟩ | ⟨g, n, c, rfl, h3⟩⟩ := h
  · exact h3
  · exact h3.sl m h1 h2
theorem OwnS.lo {B : Nat} {w : World} {A : Option Addr} {m cap : Nat} {zs : List Rp} (h : OwnS B w A m cap zs) : ∀ ad, A = some ad → B ≤ ad.block ∧ ad.block < w.heap.size := by
  obtain ⟨h1, h2, ⟨_, h3, h4⟩ | ⟨g, n, c, rfl, h3⟩⟩ := h
  · exact h4
  · intro ad e
    cases e
    exact h3.lt
theorem OwnR.gb {B : Nat} {w w' : World} {g n cap : Nat} {zs : List Rp} {r : Option Nat} (h : OwnR B w g n cap zs) (hg : w.grownBy w' r) (hr : r ≠ some g) : OwnR B w' g n cap zs := by
  obtain ⟨C, h1, h2, h3⟩ := h
  exact ⟨C, World.ownsRow.kept h1 hg (.inr (fun e => hr e.symm)), h2, h3⟩
/-- A slice stays while something else grows. -/
theorem SlE.gbS {α : Type} {E : Enc α} {w w' : World} {A : Option Addr} {n cap : Nat} {xs : List α} {r : Option Nat} (h : SlE E w A n cap xs) (hg : w.grownBy w' r) (hr : ∀ ad, A = some ad → some ad.block ≠ r) : SlE E w' A n cap xs := by
  obtain ⟨h1, h2, h3, h4⟩ := h
  refine ⟨h1, h2, h3, ?_⟩
  rcases h4 with h4 | ⟨g, off, hA, hlt, hc⟩
  · exact .inl h4
  · exact .inr ⟨g, off, hA, Nat.lt_of_lt_of_le hlt hg.size, fun k x hx i v hv => hg.cell (hc k x hx i v hv) (fun e => hr _ hA e)⟩
theorem OwnS.gb {B : Nat} {w w' : World} {A : Option Addr} {m cap : Nat} {zs : List Rp} {r : Nat} (h : OwnS B w A m cap zs) (hg : w.grownBy w' (some r)) (hr : r < B) : OwnS B w' A m cap zs := by
  obtain ⟨h1, h2, ⟨h0, h3, h4⟩ | ⟨g, n, c, rfl, h3⟩⟩ := h
  · exact ⟨h1, h2, .inl ⟨h0, h3.gbS hg (fun ad e k => by have := (h4 ad e).1; cases k; omega), fun ad e => ⟨(h4 ad e).1, Nat.lt_of_lt_of_le (h4 ad e).2 hg.size⟩⟩⟩
  · exact ⟨h1, h2, .inr ⟨g, n, c, rfl, h3.gb hg (by intro e; cases e; have := h3.lt.1; omega)⟩⟩
theorem OwnS.below {B : Nat} {w w' : World} {A : Option Addr} {m cap : Nat} {zs : List Rp} (h : OwnS B w A m cap zs) (hb : Below w.heap.size w w') : OwnS B w' A m cap zs := by
  have hg : w.grownBy w' none := ⟨hb.os, hb.tape, hb.output, hb.size, fun k hk _ => hb.block k hk⟩
  obtain ⟨h1, h2, ⟨h0, h3, h4⟩ | ⟨g, n, c, rfl, h3⟩⟩ := h
  · exact ⟨h1, h2, .inl ⟨h0, h3.below hb, fun ad e => ⟨(h4 ad e).1, Nat.lt_of_lt_of_le (h4 ad e).2 hg.size⟩⟩⟩
  · exact ⟨h1, h2, .inr ⟨g, n, c, rfl, h3.gb hg (by intro e; cases e)⟩⟩

theorem compactFAll_any (B : Nat) (v : Value) (qs : List Rp) (w : World) (hown : OwnE eRp 56 B w v qs) (hU : ∀ x ∈ qs, x.U) (hn : qs.length ≤ 1000000) (hB : B ≤ w.heap.size) :
    Calls Tryz.prog 54 #[v, .func (.func 55) #[] #[]] w (fun e w' => ∃ A m cap zs, e = .returned (.slice A m cap) ∧ OwnS B w' A m cap zs ∧ zs.length ≤ qs.length ∧ (∀ x ∈ zs, x ∈ qs) ∧ Below B w w') := by
  by_cases h2 : qs.length < 2
  · have hS2 : ∃ A cap, v = .slice A qs.length cap ∧ OwnS B w A qs.length cap qs := by
      by_cases h0 : qs = []
      · obtain ⟨A, cap, rfl, hS⟩ := hown.sl
        refine ⟨A, cap, rfl, rfl, hS.2.1, .inl ⟨h0, hS, fun ad e => ?_⟩⟩
        subst e
        rcases hown.2 with ⟨hv, _⟩ | ⟨g', cap', cur, hv, hB, hh, _⟩
        · cases hv
        · cases hv; exact ⟨hB, (Array.getElem?_eq_some_iff.1 hh).1⟩
      · obtain ⟨g, cap, rfl, hg1, hg2, hcap, _⟩ := hown.form h0
        exact ⟨some ⟨g, 0, none⟩, cap, rfl, rfl, hcap, .inr ⟨g, _, _, rfl, ownR_all hown rfl⟩⟩
    obtain ⟨A, cap, rfl, hS⟩ := hS2
    obtain ⟨m, hm⟩ : ∃ m, m = qs.length := ⟨_, rfl⟩
    rw [← hm] at hS ⊢
    have h2' : (m : Int) < 2 := by omega
    replace hS := Lib.hid hS
    replace hm := Lib.hid hm
    clear h2 hown hn hU
    go_enter Tryz.func54, Tryz.ntmps54
    go_wp2_with fail
    go_ret
    exact ⟨A, m, cap, qs, rfl, hS.out, (by rw [hm.out]; exact Nat.le_refl _), fun _ h => h, Below.refl _ _⟩
  · obtain ⟨g, cap, rfl, hg1, hg2, hcap, _⟩ := hown.form (by intro e; rw [e] at h2; exact h2 (by decide))
    refine (compactF_any B g qs.length cap qs w hown hU rfl (by omega) hn hB).mono ?_
    rintro e w' ⟨m, cap', zs, rfl, hm, hc, hO, hmem, hb⟩
    exact ⟨_, m, cap', zs, rfl, ⟨hm, hc, .inr ⟨g, _, _, rfl, hO⟩⟩, (by obtain ⟨C, _, _, h3⟩ := hO; exact h3), hmem, hb⟩

/-- Cells of a row, report by report. -/
def RowL (C : List Value) (L : List (List Value)) : Prop := ∀ (j : Nat) (l : List Value), L[j]? = some l → l.length = 14 ∧ ∀ (i : Nat) (v : Value), l[i]? = some v → C[j * 14 + i]? = some v
theorem RowL.of {C : List Value} {zs : List Rp} (h : RowR C zs) : RowL C (zs.map rpC) := by
  intro j l hl
  rw [List.getElem?_map] at hl
  cases hx : zs[j]? with
  | none => rw [hx] at hl; cases hl
  | some x =>
    rw [hx] at hl
    obtain rfl := Option.some.inj hl
    exact ⟨rpC_len x, h j x hx⟩
theorem RowL.to {C : List Value} {zs : List Rp} (h : RowL C (zs.map rpC)) : RowR C zs := fun j x hx i v hv => (h j (rpC x) (by rw [List.getElem?_map, hx]; rfl)).2 i v hv
theorem RowL.set {C : List Value} {L : List (List Value)} (h : RowL C L) {j : Nat} {l : List Value} (hl : L[j]? = some l) (i : Nat) (v : Value) (hi : i < 14) : RowL (C.set (j * 14 + i) v) (L.set j (l.set i v)) := by
  have h0 := h j l hl
  have hlen : j * 14 + i < C.length := (List.getElem?_eq_some_iff.1 (h0.2 i _ (List.getElem?_eq_getElem (by omega)))).1
  intro k y hy
  by_cases hk : k = j
  · subst hk
    rw [List.getElem?_set_self (List.getElem?_eq_some_iff.1 hl).1] at hy
    obtain rfl := Option.some.inj hy
    refine ⟨by rw [List.length_set]; exact h0.1, fun n u hu => ?_⟩
    by_cases hni : i = n
    · subst hni
      rw [List.getElem?_set_self (by omega)] at hu
      rw [List.getElem?_set_self hlen]
      exact hu
    · rw [List.getElem?_set_ne hni] at hu
      rw [List.getElem?_set_ne (by omega)]
      exact h0.2 n u hu
  · rw [List.getElem?_set_ne (Ne.symm hk)] at hy
    have h1 := h k y hy
    refine ⟨h1.1, fun n u hu => ?_⟩
    have hn : n < 14 := by have := (List.getElem?_eq_some_iff.1 hu).1; omega
    rw [List.getElem?_set_ne (by omega)]
    exact h1.2 n u hu
theorem RowL.setL {j : Nat} : ∀ (cs : List Value) (o : Nat) (C : List Value) (L : List (List Value)) (l : List Value), RowL C L → L[j]? = some l → o + cs.length ≤ 14 → RowL (setL C (j * 14 + o) cs) (L.set j (setL l o cs))
  | [], o, C, L, l, h, hl, _ => by
    have : L.set j l = L := by
      refine List.ext_getElem? fun k => ?_
      by_cases hk : k = j
      · subst hk; rw [List.getElem?_set_self (List.getElem?_eq_some_iff.1 hl).1, hl]
      · rw [List.getElem?_set_ne (Ne.symm hk)]
    unfold Go.Proofs.YtfiocnjogbpgoaaGreatDoor.setL
    rw [this]
    exact h
  | v :: cs, o, C, L, l, h, hl, ho => by
    have h1 := h.set hl o v (by simp at ho; omega)
    have h2 := RowL.setL cs (o + 1) _ _ (l.set o v) h1 (by rw [List.getElem?_set_self (List.getElem?_eq_some_iff.1 hl).1]) (by simp at ho; omega)
    rw [List.set_set] at h2
    exact h2
/-- Cells of one report of a row are written. -/
theorem OwnR.put {B : Nat} {w : World} {g n c : Nat} {zs : List Rp} (h : OwnR B w g n c zs) {j : Nat} {x : Rp} (hx : zs[j]? = some x) (o : Nat) (cs : List Value) (ho : o + cs.length ≤ 14) (x' : Rp) (he : setL (rpC x) o cs = rpC x') : OwnR B (w.setCells g (j * 14 + o) cs) g n c (zs.set j x') := by
  obtain ⟨C, h1, h2, h3⟩ := h
  refine ⟨_, own_setL cs (j * 14 + o) w _ h1, RowL.to ?_, by rw [List.length_set]; exact h3⟩
  rw [List.map_set, ← he]
  exact RowL.setL cs o C _ _ (RowL.of h2) (by rw [List.getElem?_map, hx]; rfl) ho
theorem OwnR.cell {B : Nat} {w : World} {g n c : Nat} {zs : List Rp} (h : OwnR B w g n c zs) {j : Nat} {x : Rp} (hx : zs[j]? = some x) {i : Nat} {v : Value} (hv : (rpC x)[i]? = some v) : w.cell? ⟨g, j * 14 + i, none⟩ = some v := by
  obtain ⟨C, h1, h2, h3⟩ := h
  have := World.ownsRow.cells h1 (g := g) rfl (j * 14 + i) v (h2 j x hx i v hv)
  rw [Addr.add_lit, Nat.zero_add] at this
  exact this
theorem OwnR.free {B : Nat} {w : World} {g n c : Nat} {zs : List Rp} (h : OwnR B w g n c zs) (i : Nat) : w.frozen? ⟨g, i, none⟩ = false := by
  obtain ⟨C, h1, h2, h3⟩ := h
  rcases h1.2 with ⟨hv, _⟩ | ⟨g', cap', cur, hv, hB, hh, _⟩
  · cases hv
  · cases hv; exact frozen_of_row w g _ _ _ hh
theorem OwnR.stFl {B : Nat} {w : World} {g n c : Nat} {zs : List Rp} (h : OwnR B w g n c zs) {j : Nat} {x : Rp} (hx : zs[j]? = some x) (f : Fl) :
    (stT 54 (.pointer (some ⟨g, j * 14 + 3, none⟩)) (.agg (flC f).toArray)).run Tryz.prog w = .ok .skip (w.setCells g (j * 14 + 3) (flC f)) := by
  unfold stT
  have ht : w.there g (j * 14 + 3) (flC f).toArray.size := by
    intro k hk
    have hk' : k < 9 := by simpa [flC_len] using hk
    have hc := h.cell hx (i := 3 + k) (v := (rpC x)[3 + k]'(by rw [rpC_len]; omega)) (List.getElem?_eq_getElem _)
    rw [← Nat.add_assoc] at hc
    exact ⟨by rw [hc]; rfl, h.free _⟩
  have hs := run_storeAt_mid (P := Tryz.prog) w g (j * 14 + 3) 54 (flC f).toArray ht (by rw [rowFl.size]; simp [flC_len]) (all_oneCell_toArray (flC_one f))
  simp only [Sem.run_bind, hs, Result.andThen_ok, Sem.run_pure]
/-- A step of the stream b: a list of reports, in memory of its own. -/
def RpsPost (M b R : Nat) (w : World) (e : Ending) (w' : World) : Prop := ∃ A m cap zs, e = .returned (.slice A m cap) ∧ OwnS w.heap.size w' A m cap zs ∧ (∀ x ∈ zs, x.U) ∧ m ≤ M ∧ Str w' b R ∧ w.grownBy w' (some b)
theorem RpsPost.put {w w' : World} {M b R g n c m cap j : Nat} {zs : List Rp} {x : Rp} (hO : OwnR w.heap.size w' g n c zs) (hm : m = zs.length) (hc : m ≤ cap) (hm10 : m ≤ M) (hU : ∀ x ∈ zs, x.U) (hst : Str w' b R) (hgb : w.grownBy w' (some b)) (hb : b < w.heap.size) (hx : zs[j]? = some x) (o : Nat) (cs : List Value) (ho : o + cs.length ≤ 14) (x' : Rp) (he : setL (rpC x) o cs = rpC x') (hx' : x'.U) :
    RpsPost M b R w (.returned (.slice (some ⟨g, 0, none⟩) m cap)) (w'.setCells g (j * 14 + o) cs) := by
  have hlt := hO.lt
  have hg := gb_cellsN (g := g) cs (j * 14 + o) w'
  refine ⟨_, m, cap, zs.set j x', rfl, ⟨by rw [List.length_set]; exact hm, hc, .inr ⟨g, n, c, rfl, hO.put hx o cs ho x' he⟩⟩, fun y hy => ?_, hm10, hst.grown hg (by omega), gb_over hgb hg hlt.1⟩
  rcases List.mem_or_eq_of_mem_set hy with h | h
  · exact hU y h
  · rw [h]; exact hx'
end Go.Proofs.YtfiocnjogbpgoaaGreatDoor
