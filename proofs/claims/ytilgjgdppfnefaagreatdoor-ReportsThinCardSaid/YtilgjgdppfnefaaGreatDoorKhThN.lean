/- Reports that are put together: the reference. -/
import Derived.Test.YtilgjgdppfnefaaGreatDoorKhThM
import Derived.Test.YtilgjgdppfnefaaGreatDoorKhRqF
namespace Go.Proofs.YtilgjgdppfnefaaGreatDoor
open Go.RowKit
set_option linter.unusedVariables false
set_option linter.unusedSimpArgs false

/-- One cell of an element of one's own row is set. -/
theorem own_fieldAt {α : Type} {E : Enc α} {t : TypeId} {k : Nat} (hk : E.k = k) {w : World} {B g n cap : Nat} {xs : List α} {j : Nat} {x x' : α} (h : OwnE E t B w (.slice (some ⟨g, 0, none⟩) n cap) xs) (hn : n = xs.length) (hx : xs[j]? = some x) (i : Nat) (v : Value) (hi : i < k) (he : E.enc x' = (E.enc x).set i v) :
    OwnE E t B (w.setCell ⟨g, j * k + i, none⟩ v) (.slice (some ⟨g, 0, none⟩) n cap) (xs.set j x') := by
  subst hk
  obtain ⟨hj, hxe⟩ := List.getElem?_eq_some_iff.1 hx
  have e1 : xs = xs.take j ++ x :: xs.drop (j + 1) := by rw [← hxe, List.getElem_cons_drop, List.take_append_drop]
  have e2 : xs.set j x' = xs.take j ++ x' :: xs.drop (j + 1) := List.set_eq_take_append_cons_drop.trans (if_pos hj)
  have hl : (xs.take j).length = j := by rw [List.length_take]; omega
  unfold OwnE at *
  have hs : (xs.set j x').length = xs.length := List.length_set
  rw [hs, ← hn]
  rw [← hn] at h
  have h2 := own_setV h (j * E.k + i) v
  have c1 : E.cells xs = E.cells (xs.take j) ++ (E.enc x ++ E.cells (xs.drop (j + 1))) := by
    have := congrArg E.cells e1
    rwa [E.cells_app, E.cells_cons] at this
  have c2 : E.cells (xs.set j x') = E.cells (xs.take j) ++ (E.enc x' ++ E.cells (xs.drop (j + 1))) := by rw [e2, E.cells_app, E.cells_cons]
  have hcl : (E.cells (xs.take j)).length = j * E.k := by rw [E.cells_len, hl]
  rw [c1] at h2
  rw [List.set_append_right _ _ (by omega), List.set_append_left _ _ (by rw [E.len]; omega), show j * E.k + i - (E.cells (xs.take j)).length = i by omega, ← he, ← c2] at h2
  exact h2

theorem OwnE.frz {α : Type} {E : Enc α} {t : TypeId} {w : World} {B g n cap : Nat} {xs : List α} (h : OwnE E t B w (.slice (some ⟨g, 0, none⟩) n cap) xs) (i : Nat) : w.frozen? ⟨g, i, none⟩ = false := by
  rcases h.2 with ⟨hv, _⟩ | ⟨g', cap', cur, hv, hg, hh, hle, _⟩
  · cases hv
  · cases hv; exact frozen_of_row w g _ _ _ hh
/-- What the reference's putting together of one's own reports gives. -/
def TogG (w : World) (r : Option Nat) (xs : List Rp) (e : Ending) (w' : World) : Prop := ∃ A' m' cap' zs, e = .returned (.slice A' m' cap') ∧ OwnE eRp 37 w.heap.size w' (.slice A' m' cap') zs ∧ m' = zs.length ∧ zs.length ≤ xs.length ∧ Tog xs zs ∧ w.grownBy w' r
theorem below_set1 {B b : Nat} {w W : World} (hb : B ≤ b) (i : Nat) (v : Value) (h : Below B w W) : Below B w (W.setCell ⟨b, i, none⟩ v) := h.setCell (p := ⟨b, i, none⟩) hb v

set_option maxHeartbeats 4000000 in
set_option maxRecDepth 100000 in
theorem togetherRef_any (B : Nat) (A : Option Addr) (n cap : Nat) (xs : List Rp) (w : World) (hown : OwnE eRp 37 B w (.slice A n cap) xs) (hU : ∀ x ∈ xs, x.U) (hN : ∀ x ∈ xs, x.N) (hnl : n = xs.length) (hn : n ≤ 20) (hb : B ≤ w.heap.size) :
    Calls Tryz.prog 49 #[.slice A n cap] w (TogG w (Value.slice A n cap).ownBlock xs) := by
  have HV := Lib.hid (stableAllG_any B A n cap _ rfl xs w hown hU hb hnl hn)
  replace hU := Lib.hid hU
  replace hN := Lib.hid hN
  replace hnl := Lib.hid hnl
  clear hown
  go_enter Tryz.func49, Tryz.ntmps49
  go_wp2_with fail
  refine HV.out.mono ?_
  intro e w1 hq
  obtain ⟨rfl, qs, hp, hs, hown1, hg1⟩ := hq
  have hQl : xs.length = qs.length := hp.length_eq.symm
  obtain ⟨A2', c2', hv, hQs⟩ := hown1.sl
  injection hv with e1 e2 e3
  subst e1 e3
  rw [← e2] at hQs
  have hL := Lib.hid e2
  have hwB : w.heap.size ≤ w1.heap.size := hg1.size
  have hbw := Below.refl w1.heap.size w1
  have hUq := Lib.hid (fun x (hx : x ∈ qs) => hU.out x (hp.mem_iff.1 hx))
  have hNq := Lib.hid (fun x (hx : x ∈ qs) => hN.out x (hp.mem_iff.1 hx))
  replace hp := Lib.hid hp
  replace hs := Lib.hid hs
  replace hQs := Lib.hid hQs
  replace hg1 := Lib.hid hg1
  clear HV hU hN hown1 hQl e2
  go_wp2_with fail
  go_loopw [3, 11] (fun vo vi wr => ∃ (k : Nat) (zs : List Rp) (V : Value), V = vo ∧ k ≤ n ∧ vi = .int .i64 k ∧ OwnE eRp 37 w1.heap.size wr V zs ∧ Hid (Tog (qs.take k) zs ∧ zs.length ≤ k) ∧ Below w1.heap.size w1 wr) (fun _ vi _ => n - (intOf vi).toNat)
  case atStart => exact ⟨0, [], _, rfl, Nat.zero_le _, rfl, OwnE.nil _ _, Lib.hid ⟨by rw [List.take_zero]; exact Tog.nil, Nat.le_refl _⟩, hbw⟩
  case round =>
    clear hbw
    obtain ⟨k, zs, V, rfl, hk, rfl, hown, hT, hbw⟩ := hrel
    by_cases hlt : k < n
    · obtain ⟨x, hxk⟩ : ∃ x, qs[k]? = some x := ⟨qs[k]'(by have := hL.out; omega), List.getElem?_eq_getElem _⟩
      obtain ⟨g0, off, hA, hQ2⟩ : ∃ g off, A = some ⟨g, off, none⟩ ∧ SlE eRp wr (some ⟨g, off, none⟩) n cap qs := by
        have h := hQs.out.below hbw
        rcases h.2.2.2 with h0 | ⟨g, off, hA, _⟩
        · omega
        · exact ⟨g, off, hA, hA ▸ h⟩
      subst hA
      have l1 : (ldT 37 (.pointer (some ⟨g0, off + k * 14, none⟩))).run Tryz.prog wr = .ok (.value (rpA x)) wr := hQ2.ld rowRp hxk
      have hcap := hQ2.2.1
      have hlt' : (k : Int) < n := by omega
      have S4 : (stT 37 (.pointer (some ⟨wr.heap.size, 0, none⟩)) (rpA x)).run Tryz.prog (wr.alloc (.cells #[.string ⟨#[]⟩, .int .i64 0, .bool false, .int .i64 0, .bool false, .int .u64 0, .int .u64 0, .bool false, .int .u64 0, .int .u64 0, .int .i64 0, .int .i64 0, .int .i64 0, .int .i64 0] 37)) = .ok .skip (wr.alloc (.cells (rpC x).toArray 37)) :=
        stT_new rowRp wr wr.heap.size rfl zRpC (rpC x) rfl (rpC_len x) (rpC_one x)
      have hX := Blk.new wr (rpC x) 37
      have hxU := hUq.out x (List.mem_of_getElem? hxk)
      have hxN := hNq.out x (List.mem_of_getElem? hxk)
      have htk := Lib.hid (show qs.take (k + 1) = qs.take k ++ [x] by rw [List.take_add_one, hxk]; rfl)
      have hTU := Lib.hid (show ∀ y ∈ qs.take k, y.U ∧ y.N from fun y hy => ⟨hUq.out y (List.mem_of_mem_take hy), hNq.out y (List.mem_of_mem_take hy)⟩)
      have hTs := Lib.hid (show ∀ y ∈ qs.take k, cmpRp y x ≤ 0 from fun y hy => by
        have e1 : qs = qs.take k ++ x :: qs.drop (k + 1) := by
          obtain ⟨hk', he⟩ := List.getElem?_eq_some_iff.1 hxk
          rw [← he, List.getElem_cons_drop, List.take_append_drop]
        have hs' := hs.out
        rw [e1] at hs'
        exact (List.pairwise_append.1 hs').2.2 y hy x (List.mem_cons_self ..))
      have hpr : ∀ q, V.ownBlock = some q → q ≠ wr.heap.size := fun q hq => by have := (hown.lt q hq).2; omega
      replace hown := hown.below ((Below.refl _ _).alloc (Nat.le_refl _) (.cells (rpC x).toArray 37))
      have hp9 := hbw.size
      replace hbw := hbw.alloc hbw.size (.cells (rpC x).toArray 37)
      go_upto_region 6 with fail
      obtain ⟨wa, hwa⟩ : ∃ wa, wa = wr.alloc (.cells (rpC x).toArray 37) := ⟨_, rfl⟩
      rw [← hwa] at hX hown hbw ⊢
      generalize wr.heap.size = p9 at hX hp9 hpr ⊢
      clear hwa l1 S4 hQ2 hxk
      have hzk := Lib.hid hT.out.2
      by_cases h0 : zs = []
      · subst h0
        obtain ⟨A', c', hv7, _⟩ := hown.sl
        subst hv7
        have hTn := Lib.hid (hT.out.1.new hxN (fun z hz => by cases hz))
        clear hT hpr
        go_upto_region 7 with fail
        refine wx_begin (none) [] (by kernel_rfl) (fun u0 hb0' hz0' => ?_)
        replace hown := hown.below hb0'
        replace hX := hX.below hb0'
        replace hbw := hbw.trans (hb0'.mono hbw.size)
        clear hb0' hz0'
        refine wx_pure (i := 0) (d := some 18) (v := ?_) (by simp only [List.getElem?_toArray, List.getElem?_cons_succ, List.getElem?_cons_zero] <;> rfl) (by rfl) (by kernel_rfl) (by kernel_rfl) (by kernel_rfl) (fun _ _ _ h => h) (by rfl) ?_ ?_
        rotate_left
        · ((intro u); go_simp; try with_reducible rfl)
        try simp only [Act.put, List.setIfInBounds_toArray, List.set_cons_zero, List.set_cons_succ]
        refine wx_pure (i := 1) (d := some 19) (v := ?_) (by simp only [List.getElem?_toArray, List.getElem?_cons_succ, List.getElem?_cons_zero] <;> rfl) (by rfl) (by kernel_rfl) (by kernel_rfl) (by kernel_rfl) (fun _ _ _ h => h) (by rfl) ?_ ?_
        rotate_left
        · ((intro u); go_simp; try with_reducible rfl)
        try simp only [Act.put, List.setIfInBounds_toArray, List.set_cons_zero, List.set_cons_succ]
        refine wx_pure (i := 2) (d := some 20) (v := ?_) (by simp only [List.getElem?_toArray, List.getElem?_cons_succ, List.getElem?_cons_zero] <;> rfl) (by rfl) (by kernel_rfl) (by kernel_rfl) (by kernel_rfl) (fun _ _ _ h => h) (by rfl) ?_ ?_
        rotate_left
        · ((intro u); go_simp; try with_reducible rfl)
        try simp only [Act.put, List.setIfInBounds_toArray, List.set_cons_zero, List.set_cons_succ]
        refine wx_skip (i := 3) (d := some 21) (by simp only [List.getElem?_toArray, List.getElem?_cons_succ, List.getElem?_cons_zero] <;> rfl) (by rfl) (by kernel_rfl) (by kernel_rfl) (by kernel_rfl) (fun _ _ _ h => h) (by rfl) ?_
        try simp only [Act.put, List.setIfInBounds_toArray, List.set_cons_zero, List.set_cons_succ]
        refine wx_skip (i := 4) (d := some 22) (by simp only [List.getElem?_toArray, List.getElem?_cons_succ, List.getElem?_cons_zero] <;> rfl) (by rfl) (by kernel_rfl) (by kernel_rfl) (by kernel_rfl) (fun _ _ _ h => h) (by rfl) ?_
        try simp only [Act.put, List.setIfInBounds_toArray, List.set_cons_zero, List.set_cons_succ]
        refine wx_skip (i := 5) (d := some 23) (by simp only [List.getElem?_toArray, List.getElem?_cons_succ, List.getElem?_cons_zero] <;> rfl) (by rfl) (by kernel_rfl) (by kernel_rfl) (by kernel_rfl) (fun _ _ _ h => h) (by rfl) ?_
        try simp only [Act.put, List.setIfInBounds_toArray, List.set_cons_zero, List.set_cons_succ]
        refine wx_skip (i := 6) (d := some 24) (by simp only [List.getElem?_toArray, List.getElem?_cons_succ, List.getElem?_cons_zero] <;> rfl) (by rfl) (by kernel_rfl) (by kernel_rfl) (by kernel_rfl) (fun _ _ _ h => h) (by rfl) ?_
        try simp only [Act.put, List.setIfInBounds_toArray, List.set_cons_zero, List.set_cons_succ]
        refine wx_skip (i := 7) (d := some 25) (by simp only [List.getElem?_toArray, List.getElem?_cons_succ, List.getElem?_cons_zero] <;> rfl) (by rfl) (by kernel_rfl) (by kernel_rfl) (by kernel_rfl) (fun _ _ _ h => h) (by rfl) ?_
        try simp only [Act.put, List.setIfInBounds_toArray, List.set_cons_zero, List.set_cons_succ]
        refine wx_skip (i := 8) (d := some 26) (by simp only [List.getElem?_toArray, List.getElem?_cons_succ, List.getElem?_cons_zero] <;> rfl) (by rfl) (by kernel_rfl) (by kernel_rfl) (by kernel_rfl) (fun _ _ _ h => h) (by rfl) ?_
        try simp only [Act.put, List.setIfInBounds_toArray, List.set_cons_zero, List.set_cons_succ]
        refine wx_skip (i := 9) (d := some 27) (by simp only [List.getElem?_toArray, List.getElem?_cons_succ, List.getElem?_cons_zero] <;> rfl) (by rfl) (by kernel_rfl) (by kernel_rfl) (by kernel_rfl) (fun _ _ _ h => h) (by rfl) ?_
        try simp only [Act.put, List.setIfInBounds_toArray, List.set_cons_zero, List.set_cons_succ]
        refine wx_pure (i := 10) (d := some 28) (v := ?_) (by simp only [List.getElem?_toArray, List.getElem?_cons_succ, List.getElem?_cons_zero] <;> rfl) (by rfl) (by kernel_rfl) (by kernel_rfl) (by kernel_rfl) (fun _ _ _ h => h) (by rfl) ?_ ?_
        rotate_left
        · ((intro u); go_simp; try with_reducible rfl)
        try simp only [Act.put, List.setIfInBounds_toArray, List.set_cons_zero, List.set_cons_succ]
        refine wx_done (by kernel_rfl) ?_ _
        have lx := hX.ld rowRp (rpC_len x)
        go_wp2_with (at_builtin; refine wpList_app tyeRp rfl _ _ rfl w1.heap.size _ [] [x] rfl (hown.below ((Below.refl _ _).alloc (Nat.le_refl _) _)) ⟨_, 0, none⟩ 1 1 rfl rfl ?d1 ?d2 ?d3 ?_)
        case d1 => exact cell_row_at _ _ _ _ rfl
        case d2 => have := hzk.out; simp only [List.length_singleton, List.length_nil]; omega
        case d3 => have := hbw.size; simp; omega
        intro v' w3 hown3 hg3 hd3
        have hb3 := (hbw.alloc hbw.size _).grown hg3 (by have := hbw.size; simp; omega) (fun r h => by have := (hown.lt r h).1; omega)
        replace hown3 := Lib.hid hown3
        replace hb3 := Lib.hid hb3
        clear hg3 hd3 hown hbw lx hX
        go_wp2_with fail
        go_roundw
        case rel => exact ⟨k + 1, _, _, rfl, by omega, by go_num, hown3.out, Lib.hid ⟨by rw [htk.out]; exact hTn.out, by have := hzk.out; simp only [List.length_append, List.length_singleton, List.length_nil] at this ⊢; omega⟩, hb3.out⟩
        case measure => simp [intOf]; omega
      · obtain ⟨zs', z, hzz⟩ : ∃ zs' z, zs = zs' ++ [z] := ⟨zs.dropLast, zs.getLast h0, (List.dropLast_concat_getLast h0).symm⟩
        obtain ⟨g, c7, hv7, hgB, hgl, hc7, _⟩ := hown.form h0
        have hT1 := hT.out.1
        rw [hzz] at hT1
        obtain ⟨j, hj⟩ : ∃ j, j = zs'.length := ⟨_, rfl⟩
        obtain ⟨N1, hN1⟩ : ∃ N1, N1 = zs.length := ⟨_, rfl⟩
        have hNj : N1 = j + 1 := by rw [hN1, hzz, hj]; simp
        rw [← hN1] at hv7
        subst hv7
        have hz : zs[j]? = some z := by rw [hzz, hj]; simp
        have hzl := Lib.hid hN1
        obtain ⟨y, hy, hyz⟩ := hT1.key z (by simp)
        have hyU := (hTU.out y hy).1
        have hzU : z.U := ⟨hyz.2.2.2 ▸ hyU.1, hyz.2.1 ▸ hyU.2.1, hyz.1 ▸ hyU.2.2⟩
        have hzN : z.N := by
          have e1 := hT1.pk z (by simp)
          have e2 := hT1.by_ z (by simp)
          have n1 := sumAt_nonneg (f := Rp.pk) (z := z) (xs := qs.take k) (fun y hy => (hTU.out y hy).2.1)
          have n2 := sumAt_nonneg (f := Rp.by_) (z := z) (xs := qs.take k) (fun y hy => (hTU.out y hy).2.2.2.1)
          unfold sat at e1 e2
          exact ⟨by omega, by omega, by omega, by omega⟩
        have hzx : cmpRp z x ≤ 0 := by
          have h1 := hTs.out y hy
          have h2 := hyz.cmp x
          have h3 := cm_rp.anti x z
          have h4 := cm_rp.anti x y
          omega
        have hTl := Lib.hid (fun (h : cmpRp z x = 0) => hT1.last hxN (fun y hy => (hTU.out y hy).2) h)
        have hTn := Lib.hid (fun (h : cmpRp z x ≠ 0) => hT.out.1.new hxN (fun v hv => by
          have hlt0 : cmpRp z x < 0 := by omega
          rw [hzz] at hv
          rcases List.mem_append.1 hv with k1 | k1
          · have := (List.pairwise_append.1 hT1.srt).2.2 v k1 z (by simp)
            exact LtR.trans this hlt0
          · rw [List.mem_singleton.1 k1]; exact hlt0))
        have HE := Lib.hid (fun W => repOrder_d z x W hzU hxU)
        have hsetz := Lib.hid (show ∀ z1 : Rp, (zs.set j z1).set j (putT z x) = zs' ++ [putT z x] from fun z1 => by rw [List.set_set, hzz, hj]; simp)
        have hg9 : p9 ≠ g := fun e => hpr g rfl e.symm
        have hgw : w1.heap.size ≤ g := hgB
        generalize cmpRp z x = cz at *
        have e1 : (N1 : Int) - 1 = j := by omega
        have q1 : IntKind.i64.wrap (j : Int) = j := IntWalk.i64_in _ (by have := hzk.out; omega)
        have hj0 : (0 : Int) ≤ j := by omega
        have d0 : decide ((0 : Int) ≤ j) = true := decide_eq_true hj0
        have hjN : (j : Int) < N1 := by omega
        have hzk2 := Lib.hid (show j + 1 ≤ k by have := hzk.out; omega)
        replace hz := Lib.hid hz
        replace hNj := Lib.hid hNj
        replace hxN := Lib.hid hxN
        replace hzN := Lib.hid hzN
        clear hT hT1 hzz hj hN1 hyz hy hyU hzU hzx h0 hpr
        go_upto_region 7 with fail
        replace hz := hz.out
        refine wx_begin (none) [] (by kernel_rfl) (fun u0 hb0' hz0' => ?_)
        replace hown := hown.below hb0'
        replace hX := hX.below hb0'
        replace hbw := hbw.trans (hb0'.mono hbw.size)
        clear hb0' hz0'
        refine wx_pure (i := 0) (d := some 18) (v := ?_) (by simp only [List.getElem?_toArray, List.getElem?_cons_succ, List.getElem?_cons_zero] <;> rfl) (by rfl) (by kernel_rfl) (by kernel_rfl) (by kernel_rfl) (fun _ _ _ h => h) (by rfl) ?_ ?_
        rotate_left
        · ((intro u); go_simp; try with_reducible rfl)
        try simp only [Act.put, List.setIfInBounds_toArray, List.set_cons_zero, List.set_cons_succ]
        refine wx_pure (i := 1) (d := some 19) (v := ?_) (by simp only [List.getElem?_toArray, List.getElem?_cons_succ, List.getElem?_cons_zero] <;> rfl) (by rfl) (by kernel_rfl) (by kernel_rfl) (by kernel_rfl) (fun _ _ _ h => h) (by rfl) ?_ ?_
        rotate_left
        · ((intro u); go_simp; try with_reducible rfl)
        try simp only [Act.put, List.setIfInBounds_toArray, List.set_cons_zero, List.set_cons_succ]
        refine wx_pure (i := 2) (d := some 20) (v := ?_) (by simp only [List.getElem?_toArray, List.getElem?_cons_succ, List.getElem?_cons_zero] <;> rfl) (by rfl) (by kernel_rfl) (by kernel_rfl) (by kernel_rfl) (fun _ _ _ h => h) (by rfl) ?_ ?_
        rotate_left
        · ((intro u); go_simp; try with_reducible rfl)
        try simp only [Act.put, List.setIfInBounds_toArray, List.set_cons_zero, List.set_cons_succ]
        refine wx_pure (i := 3) (d := some 21) (v := ?_) (by simp only [List.getElem?_toArray, List.getElem?_cons_succ, List.getElem?_cons_zero] <;> rfl) (by rfl) (by kernel_rfl) (by kernel_rfl) (by kernel_rfl) (fun _ _ _ h => h) (by rfl) ?_ ?_
        rotate_left
        · ((intro u); go_simp; try with_reducible rfl)
        try simp only [Act.put, List.setIfInBounds_toArray, List.set_cons_zero, List.set_cons_succ]
        refine wx_pure (i := 4) (d := some 22) (v := ?_) (by simp only [List.getElem?_toArray, List.getElem?_cons_succ, List.getElem?_cons_zero] <;> rfl) (by rfl) (by kernel_rfl) (by kernel_rfl) (by kernel_rfl) (fun _ _ _ h => h) (by rfl) ?_ ?_
        rotate_left
        · ((intro u); go_simp; try with_reducible rfl)
        try simp only [Act.put, List.setIfInBounds_toArray, List.set_cons_zero, List.set_cons_succ]
        refine wx_pure (i := 5) (d := some 23) (v := ?_) (by simp only [List.getElem?_toArray, List.getElem?_cons_succ, List.getElem?_cons_zero] <;> rfl) (by rfl) (by kernel_rfl) (by kernel_rfl) (by kernel_rfl) (fun _ _ _ h => h) (by rfl) ?_ ?_
        rotate_left
        · ((intro u); go_simp; try with_reducible rfl)
        try simp only [Act.put, List.setIfInBounds_toArray, List.set_cons_zero, List.set_cons_succ]
        refine wx_take (i := 6) (d := some 24) (v := ?_) (by simp only [List.getElem?_toArray, List.getElem?_cons_succ, List.getElem?_cons_zero] <;> rfl) (by rfl) (by kernel_rfl) (by kernel_rfl) (by kernel_rfl) (fun _ _ _ h => h) (by rfl) (by kernel_rfl) ?_ ?_
        rotate_left
        · ((intro u hu); have o := hown.gb hu (.inr (by simp [Value.ownBlock])); have k1 : (ldT 37 (.pointer (some ⟨g, j * 14, none⟩))).run Tryz.prog u = .ok (.value (rpA z)) u := o.ld rowRp rfl hz; have k2 := (hX.gn hu).ld rowRp (rpC_len x); go_simp; try with_reducible rfl)
        try simp only [Act.put, List.setIfInBounds_toArray, List.set_cons_zero, List.set_cons_succ]
        refine wx_take (i := 7) (d := some 25) (v := ?_) (by simp only [List.getElem?_toArray, List.getElem?_cons_succ, List.getElem?_cons_zero] <;> rfl) (by rfl) (by kernel_rfl) (by kernel_rfl) (by kernel_rfl) (fun _ _ _ h => h) (by rfl) (by kernel_rfl) ?_ ?_
        rotate_left
        · ((intro u hu); have o := hown.gb hu (.inr (by simp [Value.ownBlock])); have k1 : (ldT 37 (.pointer (some ⟨g, j * 14, none⟩))).run Tryz.prog u = .ok (.value (rpA z)) u := o.ld rowRp rfl hz; have k2 := (hX.gn hu).ld rowRp (rpC_len x); go_simp; try with_reducible rfl)
        try simp only [Act.put, List.setIfInBounds_toArray, List.set_cons_zero, List.set_cons_succ]
        refine wx_one (i := 8) (by simp only [List.getElem?_toArray, List.getElem?_cons_succ, List.getElem?_cons_zero] <;> rfl) (by kernel_rfl) (by rfl) (fun K hK => ?_)
        go_simp
        refine (HE.out _).mono ?_
        rintro e wq8 ⟨rfl, hv1⟩
        refine hK.out _ _ (gbB hv1.below) ?_
        replace hown := hown.below hv1.below
        replace hX := hX.below hv1.below
        replace hbw := hbw.trans (hv1.below.mono hbw.size)
        clear hK K hv1
        try simp only [Act.put, List.setIfInBounds_toArray, List.set_cons_zero, List.set_cons_succ]
        refine wx_pure (i := 9) (d := some 27) (v := ?_) (by simp only [List.getElem?_toArray, List.getElem?_cons_succ, List.getElem?_cons_zero] <;> rfl) (by rfl) (by kernel_rfl) (by kernel_rfl) (by kernel_rfl) (fun _ _ _ h => h) (by rfl) ?_ ?_
        rotate_left
        · ((intro u); go_simp; try with_reducible rfl)
        try simp only [Act.put, List.setIfInBounds_toArray, List.set_cons_zero, List.set_cons_succ]
        refine wx_pure (i := 10) (d := some 28) (v := ?_) (by simp only [List.getElem?_toArray, List.getElem?_cons_succ, List.getElem?_cons_zero] <;> rfl) (by rfl) (by kernel_rfl) (by kernel_rfl) (by kernel_rfl) (fun _ _ _ h => h) (by rfl) ?_ ?_
        rotate_left
        · ((intro u); go_simp; try with_reducible rfl)
        try simp only [Act.put, List.setIfInBounds_toArray, List.set_cons_zero, List.set_cons_succ]
        refine wx_done (by kernel_rfl) ?_ _
        clear HE
        by_cases hc : cz = 0
        · subst hc
          have hTl2 := Lib.hid (hTl.out rfl)
          clear hTn hTl
          replace hz := Lib.hid hz
          go_upto_region 8 with fail
          replace hz := hz.out
          have w12 : IntKind.i64.wrap (z.pk + x.pk) = z.pk + x.pk := IntWalk.i64_in _ (by have := hxN.out; have := hzN.out; unfold Rp.N at *; omega)
          have w13 : IntKind.i64.wrap (z.by_ + x.by_) = z.by_ + x.by_ := IntWalk.i64_in _ (by have := hxN.out; have := hzN.out; unfold Rp.N at *; omega)
          have m12 : sat (z.pk + x.pk) = min 1000000000000 (z.pk + x.pk) := by unfold sat; omega
          have m13 : sat (z.by_ + x.by_) = min 1000000000000 (z.by_ + x.by_) := by unfold sat; omega
          have hzn := Lib.hid (show j < zs.length by have := (List.getElem?_eq_some_iff.1 hz).1; exact this)
          refine wx_begin (none) [13] (by kernel_rfl) (fun u0 hb0' hz0' => ?_)
          replace hown := hown.below hb0'
          replace hX := hX.below hb0'
          replace hbw := hbw.trans (hb0'.mono hbw.size)
          clear hb0' hz0'
          refine wx_pure (i := 0) (d := some 29) (v := ?_) (by simp only [List.getElem?_toArray, List.getElem?_cons_succ, List.getElem?_cons_zero] <;> rfl) (by rfl) (by kernel_rfl) (by kernel_rfl) (by kernel_rfl) (fun _ _ _ h => h) (by rfl) ?_ ?_
          rotate_left
          · ((intro u); go_simp; try with_reducible rfl)
          try simp only [Act.put, List.setIfInBounds_toArray, List.set_cons_zero, List.set_cons_succ]
          refine wx_pure (i := 1) (d := some 30) (v := ?_) (by simp only [List.getElem?_toArray, List.getElem?_cons_succ, List.getElem?_cons_zero] <;> rfl) (by rfl) (by kernel_rfl) (by kernel_rfl) (by kernel_rfl) (fun _ _ _ h => h) (by rfl) ?_ ?_
          rotate_left
          · ((intro u); go_simp; try with_reducible rfl)
          try simp only [Act.put, List.setIfInBounds_toArray, List.set_cons_zero, List.set_cons_succ]
          refine wx_pure (i := 2) (d := some 31) (v := ?_) (by simp only [List.getElem?_toArray, List.getElem?_cons_succ, List.getElem?_cons_zero] <;> rfl) (by rfl) (by kernel_rfl) (by kernel_rfl) (by kernel_rfl) (fun _ _ _ h => h) (by rfl) ?_ ?_
          rotate_left
          · ((intro u); go_simp; try with_reducible rfl)
          try simp only [Act.put, List.setIfInBounds_toArray, List.set_cons_zero, List.set_cons_succ]
          refine wx_pure (i := 3) (d := some 32) (v := ?_) (by simp only [List.getElem?_toArray, List.getElem?_cons_succ, List.getElem?_cons_zero] <;> rfl) (by rfl) (by kernel_rfl) (by kernel_rfl) (by kernel_rfl) (fun _ _ _ h => h) (by rfl) ?_ ?_
          rotate_left
          · ((intro u); go_simp; try with_reducible rfl)
          try simp only [Act.put, List.setIfInBounds_toArray, List.set_cons_zero, List.set_cons_succ]
          refine wx_pure (i := 4) (d := some 33) (v := ?_) (by simp only [List.getElem?_toArray, List.getElem?_cons_succ, List.getElem?_cons_zero] <;> rfl) (by rfl) (by kernel_rfl) (by kernel_rfl) (by kernel_rfl) (fun _ _ _ h => h) (by rfl) ?_ ?_
          rotate_left
          · ((intro u); go_simp; try with_reducible rfl)
          try simp only [Act.put, List.setIfInBounds_toArray, List.set_cons_zero, List.set_cons_succ]
          refine wx_pure (i := 5) (d := some 34) (v := ?_) (by simp only [List.getElem?_toArray, List.getElem?_cons_succ, List.getElem?_cons_zero] <;> rfl) (by rfl) (by kernel_rfl) (by kernel_rfl) (by kernel_rfl) (fun _ _ _ h => h) (by rfl) ?_ ?_
          rotate_left
          · ((intro u); go_simp; try with_reducible rfl)
          try simp only [Act.put, List.setIfInBounds_toArray, List.set_cons_zero, List.set_cons_succ]
          refine wx_take (i := 6) (d := some 35) (v := ?_) (by simp only [List.getElem?_toArray, List.getElem?_cons_succ, List.getElem?_cons_zero] <;> rfl) (by rfl) (by kernel_rfl) (by kernel_rfl) (by kernel_rfl) (fun _ _ _ h => h) (by rfl) (by kernel_rfl) ?_ ?_
          rotate_left
          · ((intro u hu); have o := hown.gb hu (.inr (by simp [Value.ownBlock])); have k1 : u.cell? ⟨g, j * 14 + 12, none⟩ = some (.int .i64 z.pk) := o.cell hz (i := 12) rfl; have k2 := (hX.gn hu).cell (i := 12) (v := .int .i64 x.pk) rfl; go_simp; try with_reducible rfl)
          try simp only [Act.put, List.setIfInBounds_toArray, List.set_cons_zero, List.set_cons_succ]
          refine wx_pure (i := 7) (d := some 36) (v := ?_) (by simp only [List.getElem?_toArray, List.getElem?_cons_succ, List.getElem?_cons_zero] <;> rfl) (by rfl) (by kernel_rfl) (by kernel_rfl) (by kernel_rfl) (fun _ _ _ h => h) (by rfl) ?_ ?_
          rotate_left
          · ((intro u); go_simp; try with_reducible rfl)
          try simp only [Act.put, List.setIfInBounds_toArray, List.set_cons_zero, List.set_cons_succ]
          refine wx_take (i := 8) (d := some 37) (v := ?_) (by simp only [List.getElem?_toArray, List.getElem?_cons_succ, List.getElem?_cons_zero] <;> rfl) (by rfl) (by kernel_rfl) (by kernel_rfl) (by kernel_rfl) (fun _ _ _ h => h) (by rfl) (by kernel_rfl) ?_ ?_
          rotate_left
          · ((intro u hu); have o := hown.gb hu (.inr (by simp [Value.ownBlock])); have k1 : u.cell? ⟨g, j * 14 + 12, none⟩ = some (.int .i64 z.pk) := o.cell hz (i := 12) rfl; have k2 := (hX.gn hu).cell (i := 12) (v := .int .i64 x.pk) rfl; go_simp; try with_reducible rfl)
          try simp only [Act.put, List.setIfInBounds_toArray, List.set_cons_zero, List.set_cons_succ]
          refine wx_pure (i := 9) (d := some 38) (v := ?_) (by simp only [List.getElem?_toArray, List.getElem?_cons_succ, List.getElem?_cons_zero] <;> rfl) (by rfl) (by kernel_rfl) (by kernel_rfl) (by kernel_rfl) (fun _ _ _ h => h) (by rfl) ?_ ?_
          rotate_left
          · ((intro u); go_simp; try with_reducible rfl)
          try simp only [Act.put, List.setIfInBounds_toArray, List.set_cons_zero, List.set_cons_succ]
          refine wx_pure (i := 10) (d := some 39) (v := ?_) (by simp only [List.getElem?_toArray, List.getElem?_cons_succ, List.getElem?_cons_zero] <;> rfl) (by rfl) (by kernel_rfl) (by kernel_rfl) (by kernel_rfl) (fun _ _ _ h => h) (by rfl) ?_ ?_
          rotate_left
          · ((intro u); go_simp; try with_reducible rfl)
          try simp only [Act.put, List.setIfInBounds_toArray, List.set_cons_zero, List.set_cons_succ]
          refine wx_pure (i := 11) (d := some 40) (v := ?_) (by simp only [List.getElem?_toArray, List.getElem?_cons_succ, List.getElem?_cons_zero] <;> rfl) (by rfl) (by kernel_rfl) (by kernel_rfl) (by kernel_rfl) (fun _ _ _ h => h) (by rfl) ?_ ?_
          rotate_left
          · ((intro u); go_simp; try with_reducible rfl)
          try simp only [Act.put, List.setIfInBounds_toArray, List.set_cons_zero, List.set_cons_succ]
          refine wx_pure (i := 12) (d := some 41) (v := ?_) (by simp only [List.getElem?_toArray, List.getElem?_cons_succ, List.getElem?_cons_zero] <;> rfl) (by rfl) (by kernel_rfl) (by kernel_rfl) (by kernel_rfl) (fun _ _ _ h => h) (by rfl) ?_ ?_
          rotate_left
          · ((intro u); go_simp; try with_reducible rfl)
          try simp only [Act.put, List.setIfInBounds_toArray, List.set_cons_zero, List.set_cons_succ]
          refine wx_store (i := 13) (by simp only [List.getElem?_toArray, List.getElem?_cons_succ, List.getElem?_cons_zero] <;> rfl) (by kernel_rfl) (by rfl) (by kernel_rfl) (fun K hK => ?_)
          go_simp
          have c1 : World.cell? u0 ⟨g, j * 14 + 12, none⟩ = some (.int .i64 z.pk) := hown.cell hz (i := 12) rfl
          have f1 := hown.frz (j * 14 + 12)
          go_simp
          rw [← m12]
          refine hK _ _ ?_
          have hset := own_fieldAt (k := 14) rfl (x' := { z with pk := sat (z.pk + x.pk) }) hown hzl.out hz 12 (.int .i64 (sat (z.pk + x.pk))) (by decide) rfl
          have hbS := below_set1 hgw (j * 14 + 12) (.int .i64 (sat (z.pk + x.pk))) hbw
          replace hX := hX.other (a := ⟨g, j * 14 + 12, none⟩) (by simp; omega) (.int .i64 (sat (z.pk + x.pk)))
          clear hK K hown hbw c1 f1
          try simp only [Act.put, List.setIfInBounds_toArray, List.set_cons_zero, List.set_cons_succ]
          refine wx_done (by kernel_rfl) ?_ _
          obtain ⟨wS, hwS⟩ : ∃ wS, wS = u0.setCell ⟨g, j * 14 + 12, none⟩ (.int .i64 (sat (z.pk + x.pk))) := ⟨_, rfl⟩
          rw [← hwS] at hset hbS hX ⊢
          clear hwS
          have hown := hset
          have hbw := hbS
          replace hz : (zs.set j { z with pk := sat (z.pk + x.pk) })[j]? = some { z with pk := sat (z.pk + x.pk) } := List.getElem?_set_self hzn.out
          replace hzl := Lib.hid (show N1 = (zs.set j { z with pk := sat (z.pk + x.pk) }).length by rw [List.length_set]; exact hzl.out)
          clear hset hbS
          have hzs := hsetz.out { z with pk := sat (z.pk + x.pk) }
          generalize zs.set j { z with pk := sat (z.pk + x.pk) } = zs2 at *
          replace hz := Lib.hid hz
          replace hzs := Lib.hid hzs
          go_upto_region 9 with fail
          replace hz := hz.out
          refine wx_begin (none) [13] (by kernel_rfl) (fun u0 hb0' hz0' => ?_)
          replace hown := hown.below hb0'
          replace hX := hX.below hb0'
          replace hbw := hbw.trans (hb0'.mono hbw.size)
          clear hb0' hz0'
          refine wx_pure (i := 0) (d := some 42) (v := ?_) (by simp only [List.getElem?_toArray, List.getElem?_cons_succ, List.getElem?_cons_zero] <;> rfl) (by rfl) (by kernel_rfl) (by kernel_rfl) (by kernel_rfl) (fun _ _ _ h => h) (by rfl) ?_ ?_
          rotate_left
          · ((intro u); go_simp; try with_reducible rfl)
          try simp only [Act.put, List.setIfInBounds_toArray, List.set_cons_zero, List.set_cons_succ]
          refine wx_pure (i := 1) (d := some 43) (v := ?_) (by simp only [List.getElem?_toArray, List.getElem?_cons_succ, List.getElem?_cons_zero] <;> rfl) (by rfl) (by kernel_rfl) (by kernel_rfl) (by kernel_rfl) (fun _ _ _ h => h) (by rfl) ?_ ?_
          rotate_left
          · ((intro u); go_simp; try with_reducible rfl)
          try simp only [Act.put, List.setIfInBounds_toArray, List.set_cons_zero, List.set_cons_succ]
          refine wx_pure (i := 2) (d := some 44) (v := ?_) (by simp only [List.getElem?_toArray, List.getElem?_cons_succ, List.getElem?_cons_zero] <;> rfl) (by rfl) (by kernel_rfl) (by kernel_rfl) (by kernel_rfl) (fun _ _ _ h => h) (by rfl) ?_ ?_
          rotate_left
          · ((intro u); go_simp; try with_reducible rfl)
          try simp only [Act.put, List.setIfInBounds_toArray, List.set_cons_zero, List.set_cons_succ]
          refine wx_pure (i := 3) (d := some 45) (v := ?_) (by simp only [List.getElem?_toArray, List.getElem?_cons_succ, List.getElem?_cons_zero] <;> rfl) (by rfl) (by kernel_rfl) (by kernel_rfl) (by kernel_rfl) (fun _ _ _ h => h) (by rfl) ?_ ?_
          rotate_left
          · ((intro u); go_simp; try with_reducible rfl)
          try simp only [Act.put, List.setIfInBounds_toArray, List.set_cons_zero, List.set_cons_succ]
          refine wx_pure (i := 4) (d := some 46) (v := ?_) (by simp only [List.getElem?_toArray, List.getElem?_cons_succ, List.getElem?_cons_zero] <;> rfl) (by rfl) (by kernel_rfl) (by kernel_rfl) (by kernel_rfl) (fun _ _ _ h => h) (by rfl) ?_ ?_
          rotate_left
          · ((intro u); go_simp; try with_reducible rfl)
          try simp only [Act.put, List.setIfInBounds_toArray, List.set_cons_zero, List.set_cons_succ]
          refine wx_pure (i := 5) (d := some 47) (v := ?_) (by simp only [List.getElem?_toArray, List.getElem?_cons_succ, List.getElem?_cons_zero] <;> rfl) (by rfl) (by kernel_rfl) (by kernel_rfl) (by kernel_rfl) (fun _ _ _ h => h) (by rfl) ?_ ?_
          rotate_left
          · ((intro u); go_simp; try with_reducible rfl)
          try simp only [Act.put, List.setIfInBounds_toArray, List.set_cons_zero, List.set_cons_succ]
          refine wx_take (i := 6) (d := some 48) (v := ?_) (by simp only [List.getElem?_toArray, List.getElem?_cons_succ, List.getElem?_cons_zero] <;> rfl) (by rfl) (by kernel_rfl) (by kernel_rfl) (by kernel_rfl) (fun _ _ _ h => h) (by rfl) (by kernel_rfl) ?_ ?_
          rotate_left
          · ((intro u hu); have o := hown.gb hu (.inr (by simp [Value.ownBlock])); have k1 : u.cell? ⟨g, j * 14 + 13, none⟩ = some (.int .i64 z.by_) := o.cell hz (i := 13) rfl; have k2 := (hX.gn hu).cell (i := 13) (v := .int .i64 x.by_) rfl; go_simp; try with_reducible rfl)
          try simp only [Act.put, List.setIfInBounds_toArray, List.set_cons_zero, List.set_cons_succ]
          refine wx_pure (i := 7) (d := some 49) (v := ?_) (by simp only [List.getElem?_toArray, List.getElem?_cons_succ, List.getElem?_cons_zero] <;> rfl) (by rfl) (by kernel_rfl) (by kernel_rfl) (by kernel_rfl) (fun _ _ _ h => h) (by rfl) ?_ ?_
          rotate_left
          · ((intro u); go_simp; try with_reducible rfl)
          try simp only [Act.put, List.setIfInBounds_toArray, List.set_cons_zero, List.set_cons_succ]
          refine wx_take (i := 8) (d := some 50) (v := ?_) (by simp only [List.getElem?_toArray, List.getElem?_cons_succ, List.getElem?_cons_zero] <;> rfl) (by rfl) (by kernel_rfl) (by kernel_rfl) (by kernel_rfl) (fun _ _ _ h => h) (by rfl) (by kernel_rfl) ?_ ?_
          rotate_left
          · ((intro u hu); have o := hown.gb hu (.inr (by simp [Value.ownBlock])); have k1 : u.cell? ⟨g, j * 14 + 13, none⟩ = some (.int .i64 z.by_) := o.cell hz (i := 13) rfl; have k2 := (hX.gn hu).cell (i := 13) (v := .int .i64 x.by_) rfl; go_simp; try with_reducible rfl)
          try simp only [Act.put, List.setIfInBounds_toArray, List.set_cons_zero, List.set_cons_succ]
          refine wx_pure (i := 9) (d := some 51) (v := ?_) (by simp only [List.getElem?_toArray, List.getElem?_cons_succ, List.getElem?_cons_zero] <;> rfl) (by rfl) (by kernel_rfl) (by kernel_rfl) (by kernel_rfl) (fun _ _ _ h => h) (by rfl) ?_ ?_
          rotate_left
          · ((intro u); go_simp; try with_reducible rfl)
          try simp only [Act.put, List.setIfInBounds_toArray, List.set_cons_zero, List.set_cons_succ]
          refine wx_pure (i := 10) (d := some 52) (v := ?_) (by simp only [List.getElem?_toArray, List.getElem?_cons_succ, List.getElem?_cons_zero] <;> rfl) (by rfl) (by kernel_rfl) (by kernel_rfl) (by kernel_rfl) (fun _ _ _ h => h) (by rfl) ?_ ?_
          rotate_left
          · ((intro u); go_simp; try with_reducible rfl)
          try simp only [Act.put, List.setIfInBounds_toArray, List.set_cons_zero, List.set_cons_succ]
          refine wx_pure (i := 11) (d := some 53) (v := ?_) (by simp only [List.getElem?_toArray, List.getElem?_cons_succ, List.getElem?_cons_zero] <;> rfl) (by rfl) (by kernel_rfl) (by kernel_rfl) (by kernel_rfl) (fun _ _ _ h => h) (by rfl) ?_ ?_
          rotate_left
          · ((intro u); go_simp; try with_reducible rfl)
          try simp only [Act.put, List.setIfInBounds_toArray, List.set_cons_zero, List.set_cons_succ]
          refine wx_pure (i := 12) (d := some 54) (v := ?_) (by simp only [List.getElem?_toArray, List.getElem?_cons_succ, List.getElem?_cons_zero] <;> rfl) (by rfl) (by kernel_rfl) (by kernel_rfl) (by kernel_rfl) (fun _ _ _ h => h) (by rfl) ?_ ?_
          rotate_left
          · ((intro u); go_simp; try with_reducible rfl)
          try simp only [Act.put, List.setIfInBounds_toArray, List.set_cons_zero, List.set_cons_succ]
          refine wx_store (i := 13) (by simp only [List.getElem?_toArray, List.getElem?_cons_succ, List.getElem?_cons_zero] <;> rfl) (by kernel_rfl) (by rfl) (by kernel_rfl) (fun K hK => ?_)
          go_simp
          have c1 : World.cell? u0 ⟨g, j * 14 + 13, none⟩ = some (.int .i64 z.by_) := hown.cell hz (i := 13) rfl
          have f1 := hown.frz (j * 14 + 13)
          go_simp
          rw [← m13]
          refine hK _ _ ?_
          have hset := own_fieldAt (k := 14) rfl (x' := putT z x) hown hzl.out hz 13 (.int .i64 (sat (z.by_ + x.by_))) (by decide) rfl
          have hbS := below_set1 hgw (j * 14 + 13) (.int .i64 (sat (z.by_ + x.by_))) hbw
          replace hX := hX.other (a := ⟨g, j * 14 + 13, none⟩) (by simp; omega) (.int .i64 (sat (z.by_ + x.by_)))
          clear hK K hown hbw c1 f1
          try simp only [Act.put, List.setIfInBounds_toArray, List.set_cons_zero, List.set_cons_succ]
          refine wx_done (by kernel_rfl) ?_ _
          clear hX hz m12 m13 w12 w13
          replace hset := Lib.hid hset
          replace hbS := Lib.hid hbS
          go_wp2_with fail
          go_roundw
          case rel => exact ⟨k + 1, _, _, rfl, by omega, by go_num, hset.out, Lib.hid ⟨by rw [htk.out, hzs.out]; exact hTl2.out, by rw [List.length_set, ← hzl.out]; have := hzk2.out; have := hNj.out; omega⟩, hbS.out⟩
          case measure => simp [intOf]; omega
        · have hcb : (cz == 0) = false := by simpa using hc
          have hTn2 := Lib.hid (hTn.out hc)
          clear hTn hTl hc hz
          have lx := hX.ld rowRp (rpC_len x)
          go_wp2_with (at_builtin; refine wpList_app tyeRp rfl _ _ rfl w1.heap.size _ zs [x] rfl (hown.below ((Below.refl _ _).alloc (Nat.le_refl _) _)) ⟨_, 0, none⟩ 1 1 rfl rfl ?d1 ?d2 ?d3 ?_)
          case d1 => exact cell_row_at _ _ _ _ rfl
          case d2 => have := hzk.out; simp only [List.length_singleton]; omega
          case d3 => have := hbw.size; simp; omega
          intro v' w3 hown3 hg3 hd3
          have hb3 := (hbw.alloc hbw.size _).grown hg3 (by have := hbw.size; simp; omega) (fun r h => by have := (hown.lt r h).1; omega)
          replace hown3 := Lib.hid hown3
          replace hb3 := Lib.hid hb3
          clear hg3 hd3 hown hbw lx hX
          go_wp2_with fail
          go_roundw
          case rel => exact ⟨k + 1, _, _, rfl, by omega, by go_num, hown3.out, Lib.hid ⟨by rw [htk.out]; exact hTn2.out, by have := hzk.out; simp only [List.length_append, List.length_singleton] at this ⊢; omega⟩, hb3.out⟩
          case measure => simp [intOf]; omega
    · have hkL : k = n := by omega
      subst hkL
      have hTF := Lib.hid (show Tog xs zs from by
        have h := hT.out.1
        rw [hL.out, List.take_length] at h
        exact h.perm hp.out)
      obtain ⟨A', c', hv7, hS7⟩ := hown.sl
      obtain ⟨m', hm'⟩ : ∃ m', m' = zs.length := ⟨_, rfl⟩
      rw [← hm'] at hv7
      subst hv7
      have hO7 := Lib.hid (hown.mono hwB)
      have hgF := Lib.hid (gb_bel hg1.out hbw hwB)
      have hzl7 := Lib.hid (show zs.length ≤ xs.length by have := hT.out.2; have := hnl.out; omega)
      replace hm' := Lib.hid hm'
      clear hT hown hS7
      go_wp2_with fail
      go_ret
      exact ⟨A', m', c', zs, rfl, hO7.out, hm'.out, hzl7.out, hTF.out, hgF.out⟩
end Go.Proofs.YtilgjgdppfnefaaGreatDoor
