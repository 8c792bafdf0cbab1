/- Reports that are put together: lists.Gather. -/
import Derived.Test.YtfiocnjogbpgoaaGreatDoorKkThG
import Derived.Test.YtfiocnjogbpgoaaGreatDoorKkThC
namespace Go.Proofs.YtfiocnjogbpgoaaGreatDoor
open Go.RowKit
set_option linter.unusedVariables false
set_option linter.unusedSimpArgs false

set_option maxHeartbeats 4000000 in
set_option maxRecDepth 100000 in
theorem gather_any (A : Option Addr) (n cap : Nat) (ms : List Rp) (w : World) (hS : SlE eRp w A n cap ms) (hn : n ≤ 20) (hU : ∀ x ∈ ms, x.U) (hN : ∀ x ∈ ms, x.N) :
    Calls Tryz.prog 112 #[.slice A n cap, .func (.func 60) #[] #[], .func (.func 114) #[] #[]] w fun e w' => ∃ A' m' cap' zs, e = .returned (.slice A' m' cap') ∧ SlE eRp w' A' m' cap' zs ∧ Tog ms zs ∧ Below w.heap.size w w' := by
  have hbA : Below w.heap.size w (w.alloc (.cells #[.slice A n cap] 49)) := (Below.refl _ _).alloc (Nat.le_refl _) _
  have HV := Lib.hid (sortedStable_any w.heap.size A n cap ms _ (hS.below hbA) (Boxed.new w _ _) hn hU)
  have hml := Lib.hid hS.1
  replace hU := Lib.hid hU
  replace hN := Lib.hid hN
  clear hS
  go_enter Tryz.func112, Tryz.ntmps112
  go_wp2_with fail
  refine (valuesR_any A n cap w).mono ?_
  rintro e w1 ⟨rfl, rfl⟩
  go_wp2_with fail
  refine HV.out.mono ?_
  intro e w2 hq
  obtain ⟨A2, c2, qs, rfl, hp, hs, hown2, hb2⟩ := hq
  have hQl : ms.length = qs.length := hp.length_eq.symm
  rw [hQl] at hown2 ⊢
  obtain ⟨A2', c2', hv, hQs⟩ := hown2.sl
  injection hv with e1 e2 e3
  subst e1 e3
  have hbw := hbA.trans (hb2.mono hbA.size)
  obtain ⟨B, hB⟩ : ∃ B, B = w2.heap.size := ⟨_, rfl⟩
  have hwB : w.heap.size ≤ B := by rw [hB]; exact hbw.size
  have hq20 : qs.length ≤ 20 := by rw [← hQl, ← hml.out]; exact hn
  obtain ⟨L, hL⟩ : ∃ L, L = qs.length := ⟨_, rfl⟩
  rw [← hL] at hQs hq20 ⊢
  have hUq := Lib.hid (fun x (hx : x ∈ qs) => hU.out x (hp.mem_iff.1 hx))
  have hNq := Lib.hid (fun x (hx : x ∈ qs) => hN.out x (hp.mem_iff.1 hx))
  have hbB := Below.refl B w2
  have hsB : B ≤ w2.heap.size := by rw [hB]; exact Nat.le_refl _
  have hQB := Lib.hid (show L = 0 ∨ ∀ ad, A2 = some ad → ad.block < B from by
    rw [hB]
    rcases hQs.2.2.2 with h0 | ⟨g, off, hA, hlt, _⟩
    · exact .inl h0
    · exact .inr (fun ad e => by rw [hA] at e; cases e; exact hlt))
  replace hL := Lib.hid hL
  replace hp := Lib.hid hp
  replace hs := Lib.hid hs
  clear HV hb2 hbA hQl hml hU hN hown2 hB
  go_wp2_with fail
  go_loopw [7, 16] (fun vo vi wr => ∃ (k : Nat) (zs : List Rp), k ≤ L ∧ vi = .int .i64 k ∧ OwnE eRp 56 B wr vo zs ∧ Hid (Tog (qs.take k) zs ∧ zs.length ≤ k) ∧ SlE eRp wr A2 L c2 qs ∧ Below w.heap.size w wr ∧ B ≤ wr.heap.size) (fun _ vi _ => L - (intOf vi).toNat)
  case atStart => exact ⟨0, [], Nat.zero_le _, rfl, OwnE.nil _ _, Lib.hid ⟨by rw [List.take_zero]; exact Tog.nil, Nat.le_refl _⟩, hQs, hbw, hsB⟩
  case round =>
    clear hQs hbw hsB hbB
    obtain ⟨k, zs, hk, rfl, hown, hT, hQs, hbw, hsB⟩ := hrel
    by_cases hlt : k < L
    · obtain ⟨x, hxk⟩ : ∃ x, qs[k]? = some x := ⟨qs[k]'(by have := hL.out; omega), List.getElem?_eq_getElem _⟩
      obtain ⟨g0, off, hA, hQ2⟩ : ∃ g off, A2 = some ⟨g, off, none⟩ ∧ SlE eRp wr (some ⟨g, off, none⟩) L c2 qs := by
        rcases hQs.2.2.2 with h0 | ⟨g, off, hA, _⟩
        · omega
        · exact ⟨g, off, hA, hA ▸ hQs⟩
      subst hA
      have hg0 : g0 < B := by
        rcases hQB.out with h | h
        · omega
        · exact h _ rfl
      have l1 : (ldT 56 (.pointer (some ⟨g0, off + k * 14, none⟩))).run Tryz.prog wr = .ok (.value (rpA x)) wr := hQ2.ld rowRp hxk
      have hcap := hQ2.2.1
      have hlt' : (k : Int) < L := by omega
      have S4 : (stT 56 (.pointer (some ⟨wr.heap.size, 0, none⟩)) (rpA x)).run Tryz.prog (wr.alloc (.cells #[.string ⟨#[]⟩, .int .i64 0, .bool false, .int .i64 0, .bool false, .int .u64 0, .int .u64 0, .bool false, .int .u64 0, .int .u64 0, .int .i64 0, .int .i64 0, .int .i64 0, .int .i64 0] 56)) = .ok .skip (wr.alloc (.cells (rpC x).toArray 56)) :=
        stT_new rowRp wr wr.heap.size rfl zRpC (rpC x) rfl (rpC_len x) (rpC_one x)
      have hX := Blk.new wr (rpC x) 56
      have hxU := hUq.out x (List.mem_of_getElem? hxk)
      have hxN := hNq.out x (List.mem_of_getElem? hxk)
      have htk := Lib.hid (show qs.take (k + 1) = qs.take k ++ [x] by rw [List.take_add_one, hxk]; rfl)
      have hTU := Lib.hid (show ∀ y ∈ qs.take k, y.U ∧ y.N from fun y hy => ⟨hUq.out y (List.mem_of_mem_take hy), hNq.out y (List.mem_of_mem_take hy)⟩)
      have hTs := Lib.hid (show ∀ y ∈ qs.take k, cmpRp y x ≤ 0 from fun y hy => by
        have e1 : qs = qs.take k ++ x :: qs.drop (k + 1) := by
          obtain ⟨hk', he⟩ := List.getElem?_eq_some_iff.1 hxk
          rw [← he, List.getElem_cons_drop, List.take_append_drop]
        have hs' := hs.out
        rw [e1] at hs'
        exact (List.pairwise_append.1 hs').2.2 y hy x (List.mem_cons_self ..))
      replace hown := hown.below ((Below.refl _ _).alloc (Nat.le_refl _) (.cells (rpC x).toArray 56))
      replace hQs := hQ2.below ((Below.refl _ _).alloc (Nat.le_refl _) (.cells (rpC x).toArray 56))
      replace hbw := hbw.alloc hbw.size (.cells (rpC x).toArray 56)
      go_upto_region 5 with fail
      obtain ⟨wa, hwa⟩ : ∃ wa, wa = wr.alloc (.cells (rpC x).toArray 56) := ⟨_, rfl⟩
      have hsa : B ≤ wa.heap.size := by rw [hwa]; simp; omega
      rw [← hwa] at hX hown hQs hbw ⊢
      have hpB : B ≤ wr.heap.size := hsB
      generalize wr.heap.size = p9 at hX hpB ⊢
      clear hwa l1 S4 hsB hQ2 hxk
      replace hsB := hsa
      clear hsa
      have hzk := Lib.hid hT.out.2
      by_cases h0 : zs = []
      · subst h0
        obtain ⟨A', c', hv7, _⟩ := hown.sl
        subst hv7
        have hTn := Lib.hid (hT.out.1.new hxN (fun z hz => by cases hz))
        clear hT
        go_upto_region 6 with fail
        refine wx_begin (none) [] (by kernel_rfl) (fun u0 hb0' hz0' => ?_)
        replace hown := hown.below hb0'
        replace hX := hX.below hb0'
        replace hQs := hQs.below hb0'
        replace hbw := hbw.trans (hb0'.mono hbw.size)
        replace hsB : B ≤ u0.heap.size := Nat.le_trans hsB hb0'.size
        clear hb0' hz0'
        refine wx_pure (i := 0) (d := some 22) (v := ?_) (by simp only [List.getElem?_toArray, List.getElem?_cons_succ, List.getElem?_cons_zero] <;> rfl) (by rfl) (by kernel_rfl) (by kernel_rfl) (by kernel_rfl) (fun _ _ _ h => h) (by rfl) ?_ ?_
        rotate_left
        · ((intro u); go_simp; try with_reducible rfl)
        try simp only [Act.put, List.setIfInBounds_toArray, List.set_cons_zero, List.set_cons_succ]
        refine wx_pure (i := 1) (d := some 23) (v := ?_) (by simp only [List.getElem?_toArray, List.getElem?_cons_succ, List.getElem?_cons_zero] <;> rfl) (by rfl) (by kernel_rfl) (by kernel_rfl) (by kernel_rfl) (fun _ _ _ h => h) (by rfl) ?_ ?_
        rotate_left
        · ((intro u); go_simp; try with_reducible rfl)
        try simp only [Act.put, List.setIfInBounds_toArray, List.set_cons_zero, List.set_cons_succ]
        refine wx_pure (i := 2) (d := some 24) (v := ?_) (by simp only [List.getElem?_toArray, List.getElem?_cons_succ, List.getElem?_cons_zero] <;> rfl) (by rfl) (by kernel_rfl) (by kernel_rfl) (by kernel_rfl) (fun _ _ _ h => h) (by rfl) ?_ ?_
        rotate_left
        · ((intro u); go_simp; try with_reducible rfl)
        try simp only [Act.put, List.setIfInBounds_toArray, List.set_cons_zero, List.set_cons_succ]
        refine wx_skip (i := 3) (d := some 25) (by simp only [List.getElem?_toArray, List.getElem?_cons_succ, List.getElem?_cons_zero] <;> rfl) (by rfl) (by kernel_rfl) (by kernel_rfl) (by kernel_rfl) (fun _ _ _ h => h) (by rfl) ?_
        try simp only [Act.put, List.setIfInBounds_toArray, List.set_cons_zero, List.set_cons_succ]
        refine wx_skip (i := 4) (d := some 26) (by simp only [List.getElem?_toArray, List.getElem?_cons_succ, List.getElem?_cons_zero] <;> rfl) (by rfl) (by kernel_rfl) (by kernel_rfl) (by kernel_rfl) (fun _ _ _ h => h) (by rfl) ?_
        try simp only [Act.put, List.setIfInBounds_toArray, List.set_cons_zero, List.set_cons_succ]
        refine wx_skip (i := 5) (d := some 27) (by simp only [List.getElem?_toArray, List.getElem?_cons_succ, List.getElem?_cons_zero] <;> rfl) (by rfl) (by kernel_rfl) (by kernel_rfl) (by kernel_rfl) (fun _ _ _ h => h) (by rfl) ?_
        try simp only [Act.put, List.setIfInBounds_toArray, List.set_cons_zero, List.set_cons_succ]
        refine wx_skip (i := 6) (d := some 28) (by simp only [List.getElem?_toArray, List.getElem?_cons_succ, List.getElem?_cons_zero] <;> rfl) (by rfl) (by kernel_rfl) (by kernel_rfl) (by kernel_rfl) (fun _ _ _ h => h) (by rfl) ?_
        try simp only [Act.put, List.setIfInBounds_toArray, List.set_cons_zero, List.set_cons_succ]
        refine wx_skip (i := 7) (d := some 29) (by simp only [List.getElem?_toArray, List.getElem?_cons_succ, List.getElem?_cons_zero] <;> rfl) (by rfl) (by kernel_rfl) (by kernel_rfl) (by kernel_rfl) (fun _ _ _ h => h) (by rfl) ?_
        try simp only [Act.put, List.setIfInBounds_toArray, List.set_cons_zero, List.set_cons_succ]
        refine wx_skip (i := 8) (d := some 30) (by simp only [List.getElem?_toArray, List.getElem?_cons_succ, List.getElem?_cons_zero] <;> rfl) (by rfl) (by kernel_rfl) (by kernel_rfl) (by kernel_rfl) (fun _ _ _ h => h) (by rfl) ?_
        try simp only [Act.put, List.setIfInBounds_toArray, List.set_cons_zero, List.set_cons_succ]
        refine wx_skip (i := 9) (d := some 31) (by simp only [List.getElem?_toArray, List.getElem?_cons_succ, List.getElem?_cons_zero] <;> rfl) (by rfl) (by kernel_rfl) (by kernel_rfl) (by kernel_rfl) (fun _ _ _ h => h) (by rfl) ?_
        try simp only [Act.put, List.setIfInBounds_toArray, List.set_cons_zero, List.set_cons_succ]
        refine wx_skip (i := 10) (d := some 32) (by simp only [List.getElem?_toArray, List.getElem?_cons_succ, List.getElem?_cons_zero] <;> rfl) (by rfl) (by kernel_rfl) (by kernel_rfl) (by kernel_rfl) (fun _ _ _ h => h) (by rfl) ?_
        try simp only [Act.put, List.setIfInBounds_toArray, List.set_cons_zero, List.set_cons_succ]
        refine wx_skip (i := 11) (d := some 33) (by simp only [List.getElem?_toArray, List.getElem?_cons_succ, List.getElem?_cons_zero] <;> rfl) (by rfl) (by kernel_rfl) (by kernel_rfl) (by kernel_rfl) (fun _ _ _ h => h) (by rfl) ?_
        try simp only [Act.put, List.setIfInBounds_toArray, List.set_cons_zero, List.set_cons_succ]
        refine wx_pure (i := 12) (d := some 34) (v := ?_) (by simp only [List.getElem?_toArray, List.getElem?_cons_succ, List.getElem?_cons_zero] <;> rfl) (by rfl) (by kernel_rfl) (by kernel_rfl) (by kernel_rfl) (fun _ _ _ h => h) (by rfl) ?_ ?_
        rotate_left
        · ((intro u); go_simp; try with_reducible rfl)
        try simp only [Act.put, List.setIfInBounds_toArray, List.set_cons_zero, List.set_cons_succ]
        refine wx_done (by kernel_rfl) ?_ _
        have lx := hX.ld rowRp (rpC_len x)
        go_wp2_with (at_builtin; refine wpList_app tyeRp rfl _ _ rfl B _ [] [x] rfl (hown.below ((Below.refl _ _).alloc (Nat.le_refl _) _)) ⟨_, 0, none⟩ 1 1 rfl rfl ?d1 ?d2 ?d3 ?_)
        case d1 => exact cell_row_at _ _ _ _ rfl
        case d2 => have := hzk.out; simp only [List.length_singleton, List.length_nil]; omega
        case d3 => simp; omega
        intro v' w3 hown3 hg3 hd3
        have hb3 := (hbw.alloc hbw.size _).grown hg3 (by have := hbw.size; simp; omega) (fun r h => by have := (hown.lt r h).1; omega)
        have hQ3 := (hQs.below ((Below.refl _ _).alloc (Nat.le_refl _) _)).gbS hg3 (fun ad e h => by cases e; have := (hown.lt _ h.symm).1; simp only at this; omega)
        have hs3 : B ≤ w3.heap.size := Nat.le_trans (by simp; omega) hg3.size
        replace hown3 := Lib.hid hown3
        replace hb3 := Lib.hid hb3
        replace hQ3 := Lib.hid hQ3
        clear hg3 hd3 hown hbw hQs lx hX hsB
        go_wp2_with fail
        go_roundw
        case rel => exact ⟨k + 1, _, by omega, by go_num, hown3.out, Lib.hid ⟨by rw [htk.out]; exact hTn.out, by have := hzk.out; simp only [List.length_append, List.length_singleton, List.length_nil] at this ⊢; omega⟩, hQ3.out, hb3.out, hs3⟩
        case measure => simp [intOf]; omega
      · obtain ⟨zs', z, hzz⟩ : ∃ zs' z, zs = zs' ++ [z] := ⟨zs.dropLast, zs.getLast h0, (List.dropLast_concat_getLast h0).symm⟩
        obtain ⟨g, c7, hv7, hgB, hgl, hc7, _⟩ := hown.form h0
        have hT1 := hT.out.1
        rw [hzz] at hT1
        obtain ⟨j, hj⟩ : ∃ j, j = zs'.length := ⟨_, rfl⟩
        obtain ⟨N1, hN1⟩ : ∃ N1, N1 = zs.length := ⟨_, rfl⟩
        have hNj : N1 = j + 1 := by rw [hN1, hzz, hj]; simp
        rw [← hN1] at hv7
        subst hv7
        have hz : zs[j]? = some z := by rw [hzz, hj]; simp
        have hzl := Lib.hid hN1
        obtain ⟨y, hy, hyz⟩ := hT1.key z (by simp)
        have hyU := (hTU.out y hy).1
        have hzU : z.U := ⟨hyz.2.2.2 ▸ hyU.1, hyz.2.1 ▸ hyU.2.1, hyz.1 ▸ hyU.2.2⟩
        have hzN : z.N := by
          have e1 := hT1.pk z (by simp)
          have e2 := hT1.by_ z (by simp)
          have n1 := sumAt_nonneg (f := Rp.pk) (z := z) (xs := qs.take k) (fun y hy => (hTU.out y hy).2.1)
          have n2 := sumAt_nonneg (f := Rp.by_) (z := z) (xs := qs.take k) (fun y hy => (hTU.out y hy).2.2.2.1)
          unfold sat at e1 e2
          exact ⟨by omega, by omega, by omega, by omega⟩
        have hzx : cmpRp z x ≤ 0 := by
          have h1 := hTs.out y hy
          have h2 := hyz.cmp x
          have h3 := cm_rp.anti x z
          have h4 := cm_rp.anti x y
          omega
        have hTl := Lib.hid (fun (h : cmpRp z x = 0) => hT1.last hxN (fun y hy => (hTU.out y hy).2) h)
        have hTn := Lib.hid (fun (h : cmpRp z x ≠ 0) => hT.out.1.new hxN (fun v hv => by
          have hlt0 : cmpRp z x < 0 := by omega
          rw [hzz] at hv
          rcases List.mem_append.1 hv with k1 | k1
          · have := (List.pairwise_append.1 hT1.srt).2.2 v k1 z (by simp)
            exact LtR.trans this hlt0
          · rw [List.mem_singleton.1 k1]; exact hlt0))
        have HE := Lib.hid (fun W => repCmp_d z x W hzU hxU)
        have HP := Lib.hid (fun W => putT_any z x W hzN hxN)
        have hsetz := Lib.hid (show zs.set j (putT z x) = zs' ++ [putT z x] by rw [hzz, hj]; simp)
        have hg0g : g0 ≠ g := by omega
        generalize cmpRp z x = cz at *
        have e1 : (N1 : Int) - 1 = j := by omega
        have q1 : IntKind.i64.wrap (j : Int) = j := IntWalk.i64_in _ (by have := hzk.out; omega)
        have hN1p : (0 : Int) < N1 := by omega
        have hjN : (j : Int) < N1 := by omega
        have hN1q : 0 < N1 := by omega
        have d0 : decide ((0 : Int) < N1) = true := decide_eq_true hN1p
        have d1 : decide (0 < N1) = true := decide_eq_true hN1q
        have hgw : w.heap.size ≤ g := by omega
        have hzk2 := Lib.hid (show j + 1 ≤ k by have := hzk.out; omega)
        replace hz := Lib.hid hz
        replace hNj := Lib.hid hNj
        clear hT hT1 hzz hj hN1 hyz hy hyU hzU hzN hzx h0
        go_upto_region 6 with fail
        replace hz := hz.out
        refine wx_begin (none) [] (by kernel_rfl) (fun u0 hb0' hz0' => ?_)
        replace hown := hown.below hb0'
        replace hX := hX.below hb0'
        replace hQs := hQs.below hb0'
        replace hbw := hbw.trans (hb0'.mono hbw.size)
        replace hsB : B ≤ u0.heap.size := Nat.le_trans hsB hb0'.size
        clear hb0' hz0'
        refine wx_pure (i := 0) (d := some 22) (v := ?_) (by simp only [List.getElem?_toArray, List.getElem?_cons_succ, List.getElem?_cons_zero] <;> rfl) (by rfl) (by kernel_rfl) (by kernel_rfl) (by kernel_rfl) (fun _ _ _ h => h) (by rfl) ?_ ?_
        rotate_left
        · ((intro u); go_simp; try with_reducible rfl)
        try simp only [Act.put, List.setIfInBounds_toArray, List.set_cons_zero, List.set_cons_succ]
        refine wx_pure (i := 1) (d := some 23) (v := ?_) (by simp only [List.getElem?_toArray, List.getElem?_cons_succ, List.getElem?_cons_zero] <;> rfl) (by rfl) (by kernel_rfl) (by kernel_rfl) (by kernel_rfl) (fun _ _ _ h => h) (by rfl) ?_ ?_
        rotate_left
        · ((intro u); go_simp; try with_reducible rfl)
        try simp only [Act.put, List.setIfInBounds_toArray, List.set_cons_zero, List.set_cons_succ]
        refine wx_pure (i := 2) (d := some 24) (v := ?_) (by simp only [List.getElem?_toArray, List.getElem?_cons_succ, List.getElem?_cons_zero] <;> rfl) (by rfl) (by kernel_rfl) (by kernel_rfl) (by kernel_rfl) (fun _ _ _ h => h) (by rfl) ?_ ?_
        rotate_left
        · ((intro u); go_simp; try with_reducible rfl)
        try simp only [Act.put, List.setIfInBounds_toArray, List.set_cons_zero, List.set_cons_succ]
        refine wx_pure (i := 3) (d := some 25) (v := ?_) (by simp only [List.getElem?_toArray, List.getElem?_cons_succ, List.getElem?_cons_zero] <;> rfl) (by rfl) (by kernel_rfl) (by kernel_rfl) (by kernel_rfl) (fun _ _ _ h => h) (by rfl) ?_ ?_
        rotate_left
        · ((intro u); go_simp; try with_reducible rfl)
        try simp only [Act.put, List.setIfInBounds_toArray, List.set_cons_zero, List.set_cons_succ]
        refine wx_pure (i := 4) (d := some 26) (v := ?_) (by simp only [List.getElem?_toArray, List.getElem?_cons_succ, List.getElem?_cons_zero] <;> rfl) (by rfl) (by kernel_rfl) (by kernel_rfl) (by kernel_rfl) (fun _ _ _ h => h) (by rfl) ?_ ?_
        rotate_left
        · ((intro u); go_simp; try with_reducible rfl)
        try simp only [Act.put, List.setIfInBounds_toArray, List.set_cons_zero, List.set_cons_succ]
        refine wx_pure (i := 5) (d := some 27) (v := ?_) (by simp only [List.getElem?_toArray, List.getElem?_cons_succ, List.getElem?_cons_zero] <;> rfl) (by rfl) (by kernel_rfl) (by kernel_rfl) (by kernel_rfl) (fun _ _ _ h => h) (by rfl) ?_ ?_
        rotate_left
        · ((intro u); go_simp; try with_reducible rfl)
        try simp only [Act.put, List.setIfInBounds_toArray, List.set_cons_zero, List.set_cons_succ]
        refine wx_pure (i := 6) (d := some 28) (v := ?_) (by simp only [List.getElem?_toArray, List.getElem?_cons_succ, List.getElem?_cons_zero] <;> rfl) (by rfl) (by kernel_rfl) (by kernel_rfl) (by kernel_rfl) (fun _ _ _ h => h) (by rfl) ?_ ?_
        rotate_left
        · ((intro u); go_simp; try with_reducible rfl)
        try simp only [Act.put, List.setIfInBounds_toArray, List.set_cons_zero, List.set_cons_succ]
        refine wx_pure (i := 7) (d := some 29) (v := ?_) (by simp only [List.getElem?_toArray, List.getElem?_cons_succ, List.getElem?_cons_zero] <;> rfl) (by rfl) (by kernel_rfl) (by kernel_rfl) (by kernel_rfl) (fun _ _ _ h => h) (by rfl) ?_ ?_
        rotate_left
        · ((intro u); go_simp; try with_reducible rfl)
        try simp only [Act.put, List.setIfInBounds_toArray, List.set_cons_zero, List.set_cons_succ]
        refine wx_take (i := 8) (d := some 30) (v := ?_) (by simp only [List.getElem?_toArray, List.getElem?_cons_succ, List.getElem?_cons_zero] <;> rfl) (by rfl) (by kernel_rfl) (by kernel_rfl) (by kernel_rfl) (fun _ _ _ h => h) (by rfl) (by kernel_rfl) ?_ ?_
        rotate_left
        · ((intro u hu); have o := hown.gb hu (.inr (by simp [Value.ownBlock])); have k1 : (ldT 56 (.pointer (some ⟨g, j * 14, none⟩))).run Tryz.prog u = .ok (.value (rpA z)) u := o.ld rowRp rfl hz; have k2 := (hX.gn hu).ld rowRp (rpC_len x); go_simp; try with_reducible rfl)
        try simp only [Act.put, List.setIfInBounds_toArray, List.set_cons_zero, List.set_cons_succ]
        refine wx_take (i := 9) (d := some 31) (v := ?_) (by simp only [List.getElem?_toArray, List.getElem?_cons_succ, List.getElem?_cons_zero] <;> rfl) (by rfl) (by kernel_rfl) (by kernel_rfl) (by kernel_rfl) (fun _ _ _ h => h) (by rfl) (by kernel_rfl) ?_ ?_
        rotate_left
        · ((intro u hu); have o := hown.gb hu (.inr (by simp [Value.ownBlock])); have k1 : (ldT 56 (.pointer (some ⟨g, j * 14, none⟩))).run Tryz.prog u = .ok (.value (rpA z)) u := o.ld rowRp rfl hz; have k2 := (hX.gn hu).ld rowRp (rpC_len x); go_simp; try with_reducible rfl)
        try simp only [Act.put, List.setIfInBounds_toArray, List.set_cons_zero, List.set_cons_succ]
        refine wx_one (i := 10) (by simp only [List.getElem?_toArray, List.getElem?_cons_succ, List.getElem?_cons_zero] <;> rfl) (by kernel_rfl) (by rfl) (fun K hK => ?_)
        go_simp
        refine (HE.out _).mono ?_
        rintro e wq10 ⟨rfl, hv1⟩
        refine hK.out _ _ (gbB hv1.below) ?_
        replace hown := hown.below hv1.below
        replace hX := hX.below hv1.below
        replace hQs := hQs.below hv1.below
        replace hbw := hbw.trans (hv1.below.mono hbw.size)
        replace hsB := Nat.le_trans hsB hv1.below.size
        clear hK K hv1
        try simp only [Act.put, List.setIfInBounds_toArray, List.set_cons_zero, List.set_cons_succ]
        refine wx_pure (i := 11) (d := some 33) (v := ?_) (by simp only [List.getElem?_toArray, List.getElem?_cons_succ, List.getElem?_cons_zero] <;> rfl) (by rfl) (by kernel_rfl) (by kernel_rfl) (by kernel_rfl) (fun _ _ _ h => h) (by rfl) ?_ ?_
        rotate_left
        · ((intro u); go_simp; try with_reducible rfl)
        try simp only [Act.put, List.setIfInBounds_toArray, List.set_cons_zero, List.set_cons_succ]
        refine wx_pure (i := 12) (d := some 34) (v := ?_) (by simp only [List.getElem?_toArray, List.getElem?_cons_succ, List.getElem?_cons_zero] <;> rfl) (by rfl) (by kernel_rfl) (by kernel_rfl) (by kernel_rfl) (fun _ _ _ h => h) (by rfl) ?_ ?_
        rotate_left
        · ((intro u); go_simp; try with_reducible rfl)
        try simp only [Act.put, List.setIfInBounds_toArray, List.set_cons_zero, List.set_cons_succ]
        refine wx_done (by kernel_rfl) ?_ _
        clear HE
        by_cases hc : cz = 0
        · subst hc
          have hTl2 := Lib.hid (hTl.out rfl)
          clear hTn hTl
          replace hz := Lib.hid hz
          go_upto_region 7 with fail
          replace hz := hz.out
          refine wx_begin (none) [12] (by kernel_rfl) (fun u0 hb0' hz0' => ?_)
          replace hown := hown.below hb0'
          replace hX := hX.below hb0'
          replace hQs := hQs.below hb0'
          replace hbw := hbw.trans (hb0'.mono hbw.size)
          replace hsB : B ≤ u0.heap.size := Nat.le_trans hsB hb0'.size
          clear hb0' hz0'
          refine wx_pure (i := 0) (d := some 35) (v := ?_) (by simp only [List.getElem?_toArray, List.getElem?_cons_succ, List.getElem?_cons_zero] <;> rfl) (by rfl) (by kernel_rfl) (by kernel_rfl) (by kernel_rfl) (fun _ _ _ h => h) (by rfl) ?_ ?_
          rotate_left
          · ((intro u); go_simp; try with_reducible rfl)
          try simp only [Act.put, List.setIfInBounds_toArray, List.set_cons_zero, List.set_cons_succ]
          refine wx_pure (i := 1) (d := some 36) (v := ?_) (by simp only [List.getElem?_toArray, List.getElem?_cons_succ, List.getElem?_cons_zero] <;> rfl) (by rfl) (by kernel_rfl) (by kernel_rfl) (by kernel_rfl) (fun _ _ _ h => h) (by rfl) ?_ ?_
          rotate_left
          · ((intro u); go_simp; try with_reducible rfl)
          try simp only [Act.put, List.setIfInBounds_toArray, List.set_cons_zero, List.set_cons_succ]
          refine wx_pure (i := 2) (d := some 37) (v := ?_) (by simp only [List.getElem?_toArray, List.getElem?_cons_succ, List.getElem?_cons_zero] <;> rfl) (by rfl) (by kernel_rfl) (by kernel_rfl) (by kernel_rfl) (fun _ _ _ h => h) (by rfl) ?_ ?_
          rotate_left
          · ((intro u); go_simp; try with_reducible rfl)
          try simp only [Act.put, List.setIfInBounds_toArray, List.set_cons_zero, List.set_cons_succ]
          refine wx_pure (i := 3) (d := some 38) (v := ?_) (by simp only [List.getElem?_toArray, List.getElem?_cons_succ, List.getElem?_cons_zero] <;> rfl) (by rfl) (by kernel_rfl) (by kernel_rfl) (by kernel_rfl) (fun _ _ _ h => h) (by rfl) ?_ ?_
          rotate_left
          · ((intro u); go_simp; try with_reducible rfl)
          try simp only [Act.put, List.setIfInBounds_toArray, List.set_cons_zero, List.set_cons_succ]
          refine wx_pure (i := 4) (d := some 39) (v := ?_) (by simp only [List.getElem?_toArray, List.getElem?_cons_succ, List.getElem?_cons_zero] <;> rfl) (by rfl) (by kernel_rfl) (by kernel_rfl) (by kernel_rfl) (fun _ _ _ h => h) (by rfl) ?_ ?_
          rotate_left
          · ((intro u); go_simp; try with_reducible rfl)
          try simp only [Act.put, List.setIfInBounds_toArray, List.set_cons_zero, List.set_cons_succ]
          refine wx_pure (i := 5) (d := some 40) (v := ?_) (by simp only [List.getElem?_toArray, List.getElem?_cons_succ, List.getElem?_cons_zero] <;> rfl) (by rfl) (by kernel_rfl) (by kernel_rfl) (by kernel_rfl) (fun _ _ _ h => h) (by rfl) ?_ ?_
          rotate_left
          · ((intro u); go_simp; try with_reducible rfl)
          try simp only [Act.put, List.setIfInBounds_toArray, List.set_cons_zero, List.set_cons_succ]
          refine wx_pure (i := 6) (d := some 41) (v := ?_) (by simp only [List.getElem?_toArray, List.getElem?_cons_succ, List.getElem?_cons_zero] <;> rfl) (by rfl) (by kernel_rfl) (by kernel_rfl) (by kernel_rfl) (fun _ _ _ h => h) (by rfl) ?_ ?_
          rotate_left
          · ((intro u); go_simp; try with_reducible rfl)
          try simp only [Act.put, List.setIfInBounds_toArray, List.set_cons_zero, List.set_cons_succ]
          refine wx_pure (i := 7) (d := some 42) (v := ?_) (by simp only [List.getElem?_toArray, List.getElem?_cons_succ, List.getElem?_cons_zero] <;> rfl) (by rfl) (by kernel_rfl) (by kernel_rfl) (by kernel_rfl) (fun _ _ _ h => h) (by rfl) ?_ ?_
          rotate_left
          · ((intro u); go_simp; try with_reducible rfl)
          try simp only [Act.put, List.setIfInBounds_toArray, List.set_cons_zero, List.set_cons_succ]
          refine wx_take (i := 8) (d := some 43) (v := ?_) (by simp only [List.getElem?_toArray, List.getElem?_cons_succ, List.getElem?_cons_zero] <;> rfl) (by rfl) (by kernel_rfl) (by kernel_rfl) (by kernel_rfl) (fun _ _ _ h => h) (by rfl) (by kernel_rfl) ?_ ?_
          rotate_left
          · ((intro u hu); have o := hown.gb hu (.inr (by simp [Value.ownBlock])); have k1 : (ldT 56 (.pointer (some ⟨g, j * 14, none⟩))).run Tryz.prog u = .ok (.value (rpA z)) u := o.ld rowRp rfl hz; have k2 := (hX.gn hu).ld rowRp (rpC_len x); go_simp; try with_reducible rfl)
          try simp only [Act.put, List.setIfInBounds_toArray, List.set_cons_zero, List.set_cons_succ]
          refine wx_take (i := 9) (d := some 44) (v := ?_) (by simp only [List.getElem?_toArray, List.getElem?_cons_succ, List.getElem?_cons_zero] <;> rfl) (by rfl) (by kernel_rfl) (by kernel_rfl) (by kernel_rfl) (fun _ _ _ h => h) (by rfl) (by kernel_rfl) ?_ ?_
          rotate_left
          · ((intro u hu); have o := hown.gb hu (.inr (by simp [Value.ownBlock])); have k1 : (ldT 56 (.pointer (some ⟨g, j * 14, none⟩))).run Tryz.prog u = .ok (.value (rpA z)) u := o.ld rowRp rfl hz; have k2 := (hX.gn hu).ld rowRp (rpC_len x); go_simp; try with_reducible rfl)
          try simp only [Act.put, List.setIfInBounds_toArray, List.set_cons_zero, List.set_cons_succ]
          refine wx_one (i := 10) (by simp only [List.getElem?_toArray, List.getElem?_cons_succ, List.getElem?_cons_zero] <;> rfl) (by kernel_rfl) (by rfl) (fun K hK => ?_)
          go_simp
          refine (HP.out _).mono ?_
          rintro e wq10 ⟨rfl, hv1⟩
          refine hK.out _ _ (gbB hv1) ?_
          replace hown := hown.below hv1
          replace hX := hX.below hv1
          replace hQs := hQs.below hv1
          replace hbw := hbw.trans (hv1.mono hbw.size)
          replace hsB := Nat.le_trans hsB hv1.size
          clear hK K hv1
          try simp only [Act.put, List.setIfInBounds_toArray, List.set_cons_zero, List.set_cons_succ]
          refine wx_pure (i := 11) (d := some 46) (v := ?_) (by simp only [List.getElem?_toArray, List.getElem?_cons_succ, List.getElem?_cons_zero] <;> rfl) (by rfl) (by kernel_rfl) (by kernel_rfl) (by kernel_rfl) (fun _ _ _ h => h) (by rfl) ?_ ?_
          rotate_left
          · ((intro u); go_simp; try with_reducible rfl)
          try simp only [Act.put, List.setIfInBounds_toArray, List.set_cons_zero, List.set_cons_succ]
          refine wx_store (i := 12) (by simp only [List.getElem?_toArray, List.getElem?_cons_succ, List.getElem?_cons_zero] <;> rfl) (by kernel_rfl) (by rfl) (by kernel_rfl) (fun K hK => ?_)
          go_simp
          have S := stT_own' rowRp (E := eRp) (k := 14) rfl hown hz 0 (rpC (putT z x)) (by decide) rfl (rpC_one _)
          simp only [Nat.add_zero] at S
          replace S : (stT 56 (.pointer (some ⟨g, j * 14, none⟩)) (rpA (putT z x))).run Tryz.prog _ = .ok .skip (World.setCells _ g (j * 14) (rpC (putT z x))) := S
          go_simp
          refine hK _ _ ?_
          have hset := own_setAt (k := 14) rfl (x' := putT z x) hown hzl.out hz
          replace hset : OwnE eRp 56 B (World.setCells _ g (j * 14) (rpC (putT z x))) _ _ := hset
          have hgS := gb_cellsN (g := g) (rpC (putT z x)) (j * 14) wq10
          have hbS := below_setC (B := w.heap.size) (b := g) (by omega) (rpC (putT z x)) (j * 14) wq10 hbw
          have hQS := hQs.gbS hgS (fun ad e h => by cases e; exact hg0g (Option.some.inj h))
          have hsS : B ≤ (wq10.setCells g (j * 14) (rpC (putT z x))).heap.size := Nat.le_trans hsB hgS.size
          clear hK K S
          try simp only [Act.put, List.setIfInBounds_toArray, List.set_cons_zero, List.set_cons_succ]
          refine wx_done (by kernel_rfl) ?_ _
          clear HP hown hQs hbw hX hgS hz
          replace hset := Lib.hid hset
          replace hQS := Lib.hid hQS
          replace hbS := Lib.hid hbS
          go_wp2_with fail
          go_roundw
          case rel => exact ⟨k + 1, _, by omega, by go_num, hset.out, Lib.hid ⟨by rw [htk.out, hsetz.out]; exact hTl2.out, by have := hzk.out; rw [List.length_set]; omega⟩, hQS.out, hbS.out, hsS⟩
          case measure => simp [intOf]; omega
        · have hcb : (cz == 0) = false := by simpa using hc
          have hTn2 := Lib.hid (hTn.out hc)
          clear hTn hTl HP hc hz
          have lx := hX.ld rowRp (rpC_len x)
          go_wp2_with (at_builtin; refine wpList_app tyeRp rfl _ _ rfl B _ zs [x] rfl (hown.below ((Below.refl _ _).alloc (Nat.le_refl _) _)) ⟨_, 0, none⟩ 1 1 rfl rfl ?d1 ?d2 ?d3 ?_)
          case d1 => exact cell_row_at _ _ _ _ rfl
          case d2 => have := hzk.out; simp only [List.length_singleton, List.length_nil]; omega
          case d3 => simp; omega
          intro v' w3 hown3 hg3 hd3
          have hb3 := (hbw.alloc hbw.size _).grown hg3 (by have := hbw.size; simp; omega) (fun r h => by have := (hown.lt r h).1; omega)
          have hQ3 := (hQs.below ((Below.refl _ _).alloc (Nat.le_refl _) _)).gbS hg3 (fun ad e h => by cases e; have := (hown.lt _ h.symm).1; simp only at this; omega)
          have hs3 : B ≤ w3.heap.size := Nat.le_trans (by simp; omega) hg3.size
          replace hown3 := Lib.hid hown3
          replace hb3 := Lib.hid hb3
          replace hQ3 := Lib.hid hQ3
          clear hg3 hd3 hown hbw hQs lx hX hsB
          go_wp2_with fail
          go_roundw
          case rel => exact ⟨k + 1, _, by omega, by go_num, hown3.out, Lib.hid ⟨by rw [htk.out]; exact hTn2.out, by have := hzk.out; simp only [List.length_append, List.length_singleton, List.length_nil] at this ⊢; omega⟩, hQ3.out, hb3.out, hs3⟩
          case measure => simp [intOf]; omega
    · have hkL : k = L := by omega
      subst hkL
      obtain ⟨A', c', hv7, hS7⟩ := hown.sl
      subst hv7
      have hTF := Lib.hid (show Tog ms zs from by
        have h := hT.out.1
        rw [hL.out, List.take_length] at h
        exact h.perm hp.out)
      obtain ⟨m', hm'⟩ : ∃ m', m' = zs.length := ⟨_, rfl⟩
      rw [← hm'] at hS7 ⊢
      replace hS7 := Lib.hid hS7
      clear hT hown hm'
      go_wp2_with fail
      go_ret
      exact ⟨A', m', c', zs, rfl, hS7.out, hTF.out, hbw⟩
end Go.Proofs.YtfiocnjogbpgoaaGreatDoor
