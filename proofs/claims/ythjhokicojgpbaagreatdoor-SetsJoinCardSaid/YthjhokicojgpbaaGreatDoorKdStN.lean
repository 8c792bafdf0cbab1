/- Sets: the program joins ranges. -/
import Derived.Test.YthjhokicojgpbaaGreatDoorKdStM
import Derived.Test.YthjhokicojgpbaaGreatDoorKdStG
namespace Go.Proofs.YthjhokicojgpbaaGreatDoor
open Go.RowKit
set_option linter.unusedVariables false
set_option linter.unusedSimpArgs false

theorem OwnE.alloc' {α : Type} {E : Enc α} {t : TypeId} {B : Nat} {w : World} {v : Value} {xs : List α} (h : OwnE E t B w v xs) (o : Obj) : OwnE E t B (w.alloc o) v xs := h.below ((Below.refl _ _).alloc (Nat.le_refl _) _)
/-- A list of ranges that lies in memory, from block B on. -/
def GivesL (E : Enc (Ad × Ad)) (B : Nat) (ys : List (Ad × Ad)) (e : Ending) (w' : World) : Prop := ∃ A cap, e = .returned (.slice A ys.length cap) ∧ SlE E w' A ys.length cap ys ∧ ∀ g off, A = some ⟨g, off, none⟩ → B ≤ g ∧ g < w'.heap.size

set_option maxHeartbeats 4000000 in
set_option maxRecDepth 100000 in
theorem joinRg_any (A : Option Addr) (n cap : Nat) (xs : List (Ad × Ad)) (w : World) (hS : SlE eRg w A n cap xs) (hn : n ≤ 100000) (hR : ∀ x ∈ xs, RgR x) :
    Calls Tryz.prog 125 #[.slice A n cap] w fun e w' => ∃ ys, Joined ys xs ∧ ys.length ≤ n ∧ GivesL eRg w.heap.size ys e w' ∧ Below w.heap.size w w' := by
  have hpl := Lib.hid hS.1
  have hCl := Lib.hid (cloneRg_any A n cap xs w hS (by omega))
  clear hS
  replace hR := Lib.hid hR
  go_enter Tryz.func125, Tryz.ntmps125
  go_wp2_with fail
  refine hCl.out.mono ?_
  rintro e w1 ⟨v', rfl, hown, hb1⟩
  clear hCl
  have hSo := Lib.hid (sortRg_any w.heap.size v' xs w1 hown (fun x hx => ⟨(hR.out x hx).1.1, (hR.out x hx).2.1.1⟩) hb1.size (by rw [← hpl.out]; omega))
  clear hown
  go_wp2_with fail
  refine hSo.out.mono ?_
  rintro e w2 ⟨rfl, qs, hperm, hsort, ⟨A1, cap1, hv1, hSl, hA1⟩, hb2⟩
  subst hv1
  have hb2 := hb1.trans hb2
  have hql : qs.length = n := by rw [hperm.length_eq, ← hpl.out]
  have hq := Lib.hid (show ∀ x ∈ qs, RgR x from fun x hx => hR.out x (hperm.mem_iff.1 hx))
  have hw2 := hb2.size
  rw [hql] at hSl ⊢
  replace hSl := Lib.hid hSl
  replace hperm := Lib.hid hperm
  replace hsort := Lib.hid hsort
  replace hA1 := Lib.hid hA1
  replace hql := Lib.hid hql
  clear hb1 hSo hR hpl
  go_wp2_with fail
  go_loopw [4, 14] (fun o i wr => ∃ (k : Nat) (J : List (Ad × Ad)), k ≤ n ∧ i = .int .i64 k ∧ OwnE eRg 49 w2.heap.size wr o J.reverse ∧ Below w2.heap.size w2 wr ∧ Hid (JA J (qs.take k)) ∧ Hid (J.length ≤ k)) (fun _ i _ => n - (intOf i).toNat)
  case atStart => exact ⟨0, [], by omega, rfl, OwnE.nil _ _, Below.refl _ _, Lib.hid (by simpa using JA.nil), Lib.hid (by simp)⟩
  case round =>
    obtain ⟨k, J, hk, rfl, hown, hbw, hJ, hRl⟩ := hrel
    by_cases hlt : k < n
    · obtain ⟨x, hx⟩ : ∃ x, qs[k]? = some x := ⟨qs[k]'(by have := hql.out; omega), List.getElem?_eq_getElem _⟩
      obtain ⟨g0, off, rfl, hg0, hc0⟩ := hSl.out.at' hlt
      have hld := SlE.ld rowRg (hSl.out.below hbw) hx
      replace hld : (ldT 49 (.pointer (some ⟨g0, off + k * 6, none⟩))).run Tryz.prog wr = .ok (.value (rgA x)) wr := hld
      have hxR := hq.out x (List.mem_of_getElem? hx)
      have hle := take_leA hsort.out hx
      have hlt' : (k : Int) < n := by omega
      have hsw := hbw.size
      have hJ2 : Hid (JA (joinA J x) (qs.take (k + 1))) := Lib.hid (by
        rw [List.take_add_one, hx]; exact hJ.out.step hxR hle)
      have S1 := stT_new rowRg (te := 49) wr wr.heap.size rfl [.bool false, .int .u64 0, .int .u64 0, .bool false, .int .u64 0, .int .u64 0] (rgC x) rfl rfl (rgC_one x)
      have hJ0 := hJ
      clear hc0 hx hJ
      have hC := Blk.new wr (rgC x) 49
      replace hown := hown.alloc' (.cells (rgC x).toArray 49)
      replace hbw := hbw.alloc hsw (.cells (rgC x).toArray 49)
      cases J with
      | nil =>
        obtain ⟨Ao, co, rfl, _⟩ := hown.sl
        replace hJ2 : Hid (JA [x] (qs.take (k + 1))) := hJ2
        go_wp2_with fail
        refine wx_begin (none) [] (by kernel_rfl) (fun u0 hb0' hz0' => ?_)
        replace hC := hC.below hb0'
        replace hown := hown.below hb0'
        replace hbw := hbw.trans (hb0'.mono hbw.size)
        clear hb0' hz0'
        refine wx_pure (i := 0) (d := some 20) (v := ?_) (by simp only [List.getElem?_toArray, List.getElem?_cons_succ, List.getElem?_cons_zero] <;> rfl) (by rfl) (by kernel_rfl) (by kernel_rfl) (by kernel_rfl) (fun _ _ _ h => h) (by rfl) ?_ ?_
        rotate_left
        · ((intro u); go_simp; try with_reducible rfl)
        try simp only [Act.put, List.setIfInBounds_toArray, List.set_cons_zero, List.set_cons_succ]
        refine wx_pure (i := 1) (d := some 21) (v := ?_) (by simp only [List.getElem?_toArray, List.getElem?_cons_succ, List.getElem?_cons_zero] <;> rfl) (by rfl) (by kernel_rfl) (by kernel_rfl) (by kernel_rfl) (fun _ _ _ h => h) (by rfl) ?_ ?_
        rotate_left
        · ((intro u); go_simp; try with_reducible rfl)
        try simp only [Act.put, List.setIfInBounds_toArray, List.set_cons_zero, List.set_cons_succ]
        refine wx_pure (i := 2) (d := some 22) (v := ?_) (by simp only [List.getElem?_toArray, List.getElem?_cons_succ, List.getElem?_cons_zero] <;> rfl) (by rfl) (by kernel_rfl) (by kernel_rfl) (by kernel_rfl) (fun _ _ _ h => h) (by rfl) ?_ ?_
        rotate_left
        · ((intro u); go_simp; try with_reducible rfl)
        try simp only [Act.put, List.setIfInBounds_toArray, List.set_cons_zero, List.set_cons_succ]
        refine wx_skip (i := 3) (d := some 23) (by simp only [List.getElem?_toArray, List.getElem?_cons_succ, List.getElem?_cons_zero] <;> rfl) (by rfl) (by kernel_rfl) (by kernel_rfl) (by kernel_rfl) (fun _ _ _ h => h) (by rfl) ?_
        try simp only [Act.put, List.setIfInBounds_toArray, List.set_cons_zero, List.set_cons_succ]
        refine wx_skip (i := 4) (d := some 24) (by simp only [List.getElem?_toArray, List.getElem?_cons_succ, List.getElem?_cons_zero] <;> rfl) (by rfl) (by kernel_rfl) (by kernel_rfl) (by kernel_rfl) (fun _ _ _ h => h) (by rfl) ?_
        try simp only [Act.put, List.setIfInBounds_toArray, List.set_cons_zero, List.set_cons_succ]
        refine wx_skip (i := 5) (d := some 25) (by simp only [List.getElem?_toArray, List.getElem?_cons_succ, List.getElem?_cons_zero] <;> rfl) (by rfl) (by kernel_rfl) (by kernel_rfl) (by kernel_rfl) (fun _ _ _ h => h) (by rfl) ?_
        try simp only [Act.put, List.setIfInBounds_toArray, List.set_cons_zero, List.set_cons_succ]
        refine wx_skip (i := 6) (d := some 26) (by simp only [List.getElem?_toArray, List.getElem?_cons_succ, List.getElem?_cons_zero] <;> rfl) (by rfl) (by kernel_rfl) (by kernel_rfl) (by kernel_rfl) (fun _ _ _ h => h) (by rfl) ?_
        try simp only [Act.put, List.setIfInBounds_toArray, List.set_cons_zero, List.set_cons_succ]
        refine wx_skip (i := 7) (d := some 27) (by simp only [List.getElem?_toArray, List.getElem?_cons_succ, List.getElem?_cons_zero] <;> rfl) (by rfl) (by kernel_rfl) (by kernel_rfl) (by kernel_rfl) (fun _ _ _ h => h) (by rfl) ?_
        try simp only [Act.put, List.setIfInBounds_toArray, List.set_cons_zero, List.set_cons_succ]
        refine wx_skip (i := 8) (d := some 28) (by simp only [List.getElem?_toArray, List.getElem?_cons_succ, List.getElem?_cons_zero] <;> rfl) (by rfl) (by kernel_rfl) (by kernel_rfl) (by kernel_rfl) (fun _ _ _ h => h) (by rfl) ?_
        try simp only [Act.put, List.setIfInBounds_toArray, List.set_cons_zero, List.set_cons_succ]
        refine wx_skip (i := 9) (d := some 29) (by simp only [List.getElem?_toArray, List.getElem?_cons_succ, List.getElem?_cons_zero] <;> rfl) (by rfl) (by kernel_rfl) (by kernel_rfl) (by kernel_rfl) (fun _ _ _ h => h) (by rfl) ?_
        try simp only [Act.put, List.setIfInBounds_toArray, List.set_cons_zero, List.set_cons_succ]
        refine wx_skip (i := 10) (d := some 30) (by simp only [List.getElem?_toArray, List.getElem?_cons_succ, List.getElem?_cons_zero] <;> rfl) (by rfl) (by kernel_rfl) (by kernel_rfl) (by kernel_rfl) (fun _ _ _ h => h) (by rfl) ?_
        try simp only [Act.put, List.setIfInBounds_toArray, List.set_cons_zero, List.set_cons_succ]
        refine wx_pure (i := 11) (d := some 31) (v := ?_) (by simp only [List.getElem?_toArray, List.getElem?_cons_succ, List.getElem?_cons_zero] <;> rfl) (by rfl) (by kernel_rfl) (by kernel_rfl) (by kernel_rfl) (fun _ _ _ h => h) (by rfl) ?_ ?_
        rotate_left
        · ((intro u); go_simp; try with_reducible rfl)
        try simp only [Act.put, List.setIfInBounds_toArray, List.set_cons_zero, List.set_cons_succ]
        refine wx_done (by kernel_rfl) ?_ _
        skip
        have hz := hbw.size
        have k1 := hC.ld rowRg rfl
        go_wp2_with (at_builtin; refine wpList_app tyeRg rfl _ _ rfl w2.heap.size _ _ [x] rfl (hown.alloc' _) ⟨_, 0, none⟩ 1 1 rfl rfl ?c1 ?c2 ?c3 ?_)
        case c1 => exact cell_row_at _ _ _ _ rfl
        case c2 => have := hRl.out; simp only [List.length_reverse, List.length_singleton, List.length_append, List.length_cons, List.length_nil] at this ⊢; omega
        case c3 => first | omega | (simp; done) | (simp; omega)
        intro v3 x3 hown3 hg3 _
        have hb3 : Below w2.heap.size w2 x3 := (hbw.alloc hbw.size _).grown hg3 (by first | omega | (simp; done) | (simp; omega)) (fun k h => (hown.lt k h).1)
        clear hg3 hown hbw
        go_wp2_with fail
        go_roundw
        case rel => exact ⟨k + 1, [x], by omega, by go_num, hown3, hb3, hJ2, Lib.hid (by simp)⟩
        case measure => simp [intOf]; omega
      | cons y r =>
        have hyx : y.1.n ≤ x.1.n := hJ0.out.first hle
        have hyR := hJ0.out.2 y List.mem_cons_self
        have HT := fun w' => Lib.hid (touches_any y x w' hyR hxR hyx)
        have HC := fun w' => Lib.hid (spanCmp_d y.2 x.2 w' hyR.2.1.1 hxR.2.1.1)
        rw [List.reverse_cons] at hown
        obtain ⟨g, co, rfl, hg1, hg2, hco, _, _⟩ := hown.form (by simp)
        obtain ⟨t, ht⟩ : ∃ t : Int, (r.length : Int) = t := ⟨_, rfl⟩
        obtain ⟨L, hL⟩ : ∃ L, L = (r.reverse ++ [y]).length := ⟨_, rfl⟩
        have hL1 : L = r.length + 1 := by rw [hL]; simp
        have hkk : r.length + 1 ≤ k := hRl.out
        have ht0 : 0 ≤ t := by omega
        have ht1 : t < 100000 := by omega
        have htn := Lib.hid (show r.reverse.length = t.toNat by rw [List.length_reverse]; omega)
        have hrl : (L : Int) - 1 = t := by omega
        have hwt : IntKind.i64.wrap t = t := IntWalk.i64_in _ (by omega)
        have hrl2 : t < (L : Int) := by omega
        have hL0 : ((L : Int) == 0) = false := by rw [beq_eq_false_iff_ne]; omega
        rw [← hL] at hown hco ⊢
        replace hL := Lib.hid hL
        replace hL1 := Lib.hid hL1
        clear ht hkk hyx hle
        by_cases hqx : y.2.n + 1 < x.1.n
        · have e0 : joinA (y :: r) x = x :: y :: r := if_pos hqx
          rw [e0] at hJ2
          have HV := Lib.hid (show decide (x.1.n ≤ y.2.n + 1) = false from decide_eq_false (by omega))
          clear e0 hqx
          go_wp2_with fail
          refine wx_begin (none) [] (by kernel_rfl) (fun u0 hb0' hz0' => ?_)
          replace hC := hC.below hb0'
          replace hown := hown.below hb0'
          replace hbw := hbw.trans (hb0'.mono hbw.size)
          clear hb0' hz0'
          refine wx_pure (i := 0) (d := some 20) (v := ?_) (by simp only [List.getElem?_toArray, List.getElem?_cons_succ, List.getElem?_cons_zero] <;> rfl) (by rfl) (by kernel_rfl) (by kernel_rfl) (by kernel_rfl) (fun _ _ _ h => h) (by rfl) ?_ ?_
          rotate_left
          · ((intro u); go_simp; try with_reducible rfl)
          try simp only [Act.put, List.setIfInBounds_toArray, List.set_cons_zero, List.set_cons_succ]
          refine wx_pure (i := 1) (d := some 21) (v := ?_) (by simp only [List.getElem?_toArray, List.getElem?_cons_succ, List.getElem?_cons_zero] <;> rfl) (by rfl) (by kernel_rfl) (by kernel_rfl) (by kernel_rfl) (fun _ _ _ h => h) (by rfl) ?_ ?_
          rotate_left
          · ((intro u); go_simp; try with_reducible rfl)
          try simp only [Act.put, List.setIfInBounds_toArray, List.set_cons_zero, List.set_cons_succ]
          refine wx_pure (i := 2) (d := some 22) (v := ?_) (by simp only [List.getElem?_toArray, List.getElem?_cons_succ, List.getElem?_cons_zero] <;> rfl) (by rfl) (by kernel_rfl) (by kernel_rfl) (by kernel_rfl) (fun _ _ _ h => h) (by rfl) ?_ ?_
          rotate_left
          · ((intro u); go_simp; try with_reducible rfl)
          try simp only [Act.put, List.setIfInBounds_toArray, List.set_cons_zero, List.set_cons_succ]
          refine wx_pure (i := 3) (d := some 23) (v := ?_) (by simp only [List.getElem?_toArray, List.getElem?_cons_succ, List.getElem?_cons_zero] <;> rfl) (by rfl) (by kernel_rfl) (by kernel_rfl) (by kernel_rfl) (fun _ _ _ h => h) (by rfl) ?_ ?_
          rotate_left
          · ((intro u); go_simp; try with_reducible rfl)
          try simp only [Act.put, List.setIfInBounds_toArray, List.set_cons_zero, List.set_cons_succ]
          refine wx_pure (i := 4) (d := some 24) (v := ?_) (by simp only [List.getElem?_toArray, List.getElem?_cons_succ, List.getElem?_cons_zero] <;> rfl) (by rfl) (by kernel_rfl) (by kernel_rfl) (by kernel_rfl) (fun _ _ _ h => h) (by rfl) ?_ ?_
          rotate_left
          · ((intro u); go_simp; try with_reducible rfl)
          try simp only [Act.put, List.setIfInBounds_toArray, List.set_cons_zero, List.set_cons_succ]
          refine wx_pure (i := 5) (d := some 25) (v := ?_) (by simp only [List.getElem?_toArray, List.getElem?_cons_succ, List.getElem?_cons_zero] <;> rfl) (by rfl) (by kernel_rfl) (by kernel_rfl) (by kernel_rfl) (fun _ _ _ h => h) (by rfl) ?_ ?_
          rotate_left
          · ((intro u); go_simp; try with_reducible rfl)
          try simp only [Act.put, List.setIfInBounds_toArray, List.set_cons_zero, List.set_cons_succ]
          refine wx_pure (i := 6) (d := some 26) (v := ?_) (by simp only [List.getElem?_toArray, List.getElem?_cons_succ, List.getElem?_cons_zero] <;> rfl) (by rfl) (by kernel_rfl) (by kernel_rfl) (by kernel_rfl) (fun _ _ _ h => h) (by rfl) ?_ ?_
          rotate_left
          · ((intro u); go_simp; try with_reducible rfl)
          try simp only [Act.put, List.setIfInBounds_toArray, List.set_cons_zero, List.set_cons_succ]
          refine wx_take (i := 7) (d := some 27) (v := ?_) (by simp only [List.getElem?_toArray, List.getElem?_cons_succ, List.getElem?_cons_zero] <;> rfl) (by rfl) (by kernel_rfl) (by kernel_rfl) (by kernel_rfl) (fun _ _ _ h => h) (by rfl) (by kernel_rfl) ?_ ?_
          rotate_left
          · ((intro u hu); have k1 := (hC.gn hu).ld rowRg rfl; have k2 := (hown.gb hu (.inr (by simp [Value.ownBlock]))).ld rowRg rfl (last_get _ _); rw [htn.out] at k2; go_simp; try with_reducible rfl)
          try simp only [Act.put, List.setIfInBounds_toArray, List.set_cons_zero, List.set_cons_succ]
          refine wx_take (i := 8) (d := some 28) (v := ?_) (by simp only [List.getElem?_toArray, List.getElem?_cons_succ, List.getElem?_cons_zero] <;> rfl) (by rfl) (by kernel_rfl) (by kernel_rfl) (by kernel_rfl) (fun _ _ _ h => h) (by rfl) (by kernel_rfl) ?_ ?_
          rotate_left
          · ((intro u hu); have k1 := (hC.gn hu).ld rowRg rfl; have k2 := (hown.gb hu (.inr (by simp [Value.ownBlock]))).ld rowRg rfl (last_get _ _); rw [htn.out] at k2; go_simp; try with_reducible rfl)
          try simp only [Act.put, List.setIfInBounds_toArray, List.set_cons_zero, List.set_cons_succ]
          refine wx_one (i := 9) (by simp only [List.getElem?_toArray, List.getElem?_cons_succ, List.getElem?_cons_zero] <;> rfl) (by kernel_rfl) (by rfl) (fun K hK => ?_)
          go_simp
          refine (HT _).out.mono ?_
          rintro e u1 ⟨rfl, hv1⟩
          rw [HV.out]
          refine hK _ _ (gbB hv1) ?_
          replace hC := hC.below hv1
          replace hown := hown.below hv1
          replace hbw := hbw.trans (hv1.mono hbw.size)
          clear hK K hv1
          try simp only [Act.put, List.setIfInBounds_toArray, List.set_cons_zero, List.set_cons_succ]
          refine wx_pure (i := 10) (d := some 30) (v := ?_) (by simp only [List.getElem?_toArray, List.getElem?_cons_succ, List.getElem?_cons_zero] <;> rfl) (by rfl) (by kernel_rfl) (by kernel_rfl) (by kernel_rfl) (fun _ _ _ h => h) (by rfl) ?_ ?_
          rotate_left
          · ((intro u); go_simp; try with_reducible rfl)
          try simp only [Act.put, List.setIfInBounds_toArray, List.set_cons_zero, List.set_cons_succ]
          refine wx_pure (i := 11) (d := some 31) (v := ?_) (by simp only [List.getElem?_toArray, List.getElem?_cons_succ, List.getElem?_cons_zero] <;> rfl) (by rfl) (by kernel_rfl) (by kernel_rfl) (by kernel_rfl) (fun _ _ _ h => h) (by rfl) ?_ ?_
          rotate_left
          · ((intro u); go_simp; try with_reducible rfl)
          try simp only [Act.put, List.setIfInBounds_toArray, List.set_cons_zero, List.set_cons_succ]
          refine wx_done (by kernel_rfl) ?_ _
          skip
          have hz := hbw.size
          have k1 := hC.ld rowRg rfl
          go_wp2_with (at_builtin; refine wpList_app tyeRg rfl _ _ rfl w2.heap.size _ _ [x] rfl (hown.alloc' _) ⟨_, 0, none⟩ 1 1 rfl rfl ?d1 ?d2 ?d3 ?_)
          case d1 => exact cell_row_at _ _ _ _ rfl
          case d2 => have := hRl.out; simp only [List.length_reverse, List.length_singleton, List.length_append, List.length_cons, List.length_nil] at this ⊢; omega
          case d3 => first | omega | (simp; done) | (simp; omega)
          intro v3 x3 hown3 hg3 _
          have hb3 : Below w2.heap.size w2 x3 := (hbw.alloc hbw.size _).grown hg3 (by first | omega | (simp; done) | (simp; omega)) (fun k h => (hown.lt k h).1)
          clear hg3 hown hbw
          go_wp2_with fail
          go_roundw
          case rel => exact ⟨k + 1, x :: y :: r, by omega, by go_num, by rw [List.reverse_cons, List.reverse_cons, List.append_assoc]; exact hown3, hb3, hJ2, Lib.hid (by have := hRl.out; simp only [List.length_cons] at *; omega)⟩
          case measure => simp [intOf]; omega
        · have HV := Lib.hid (show decide (x.1.n ≤ y.2.n + 1) = true from decide_eq_true (by omega))
          have e0 : joinA (y :: r) x = (y.1, if y.2.n < x.2.n then x.2 else y.2) :: r := if_neg hqx
          rw [e0] at hJ2
          clear e0 hqx
          have hcl := cmpN_lt y.2.n x.2.n
          go_wp2_with fail
          refine wx_begin (none) [] (by kernel_rfl) (fun u0 hb0' hz0' => ?_)
          replace hC := hC.below hb0'
          replace hown := hown.below hb0'
          replace hbw := hbw.trans (hb0'.mono hbw.size)
          clear hb0' hz0'
          refine wx_pure (i := 0) (d := some 20) (v := ?_) (by simp only [List.getElem?_toArray, List.getElem?_cons_succ, List.getElem?_cons_zero] <;> rfl) (by rfl) (by kernel_rfl) (by kernel_rfl) (by kernel_rfl) (fun _ _ _ h => h) (by rfl) ?_ ?_
          rotate_left
          · ((intro u); go_simp; try with_reducible rfl)
          try simp only [Act.put, List.setIfInBounds_toArray, List.set_cons_zero, List.set_cons_succ]
          refine wx_pure (i := 1) (d := some 21) (v := ?_) (by simp only [List.getElem?_toArray, List.getElem?_cons_succ, List.getElem?_cons_zero] <;> rfl) (by rfl) (by kernel_rfl) (by kernel_rfl) (by kernel_rfl) (fun _ _ _ h => h) (by rfl) ?_ ?_
          rotate_left
          · ((intro u); go_simp; try with_reducible rfl)
          try simp only [Act.put, List.setIfInBounds_toArray, List.set_cons_zero, List.set_cons_succ]
          refine wx_pure (i := 2) (d := some 22) (v := ?_) (by simp only [List.getElem?_toArray, List.getElem?_cons_succ, List.getElem?_cons_zero] <;> rfl) (by rfl) (by kernel_rfl) (by kernel_rfl) (by kernel_rfl) (fun _ _ _ h => h) (by rfl) ?_ ?_
          rotate_left
          · ((intro u); go_simp; try with_reducible rfl)
          try simp only [Act.put, List.setIfInBounds_toArray, List.set_cons_zero, List.set_cons_succ]
          refine wx_pure (i := 3) (d := some 23) (v := ?_) (by simp only [List.getElem?_toArray, List.getElem?_cons_succ, List.getElem?_cons_zero] <;> rfl) (by rfl) (by kernel_rfl) (by kernel_rfl) (by kernel_rfl) (fun _ _ _ h => h) (by rfl) ?_ ?_
          rotate_left
          · ((intro u); go_simp; try with_reducible rfl)
          try simp only [Act.put, List.setIfInBounds_toArray, List.set_cons_zero, List.set_cons_succ]
          refine wx_pure (i := 4) (d := some 24) (v := ?_) (by simp only [List.getElem?_toArray, List.getElem?_cons_succ, List.getElem?_cons_zero] <;> rfl) (by rfl) (by kernel_rfl) (by kernel_rfl) (by kernel_rfl) (fun _ _ _ h => h) (by rfl) ?_ ?_
          rotate_left
          · ((intro u); go_simp; try with_reducible rfl)
          try simp only [Act.put, List.setIfInBounds_toArray, List.set_cons_zero, List.set_cons_succ]
          refine wx_pure (i := 5) (d := some 25) (v := ?_) (by simp only [List.getElem?_toArray, List.getElem?_cons_succ, List.getElem?_cons_zero] <;> rfl) (by rfl) (by kernel_rfl) (by kernel_rfl) (by kernel_rfl) (fun _ _ _ h => h) (by rfl) ?_ ?_
          rotate_left
          · ((intro u); go_simp; try with_reducible rfl)
          try simp only [Act.put, List.setIfInBounds_toArray, List.set_cons_zero, List.set_cons_succ]
          refine wx_pure (i := 6) (d := some 26) (v := ?_) (by simp only [List.getElem?_toArray, List.getElem?_cons_succ, List.getElem?_cons_zero] <;> rfl) (by rfl) (by kernel_rfl) (by kernel_rfl) (by kernel_rfl) (fun _ _ _ h => h) (by rfl) ?_ ?_
          rotate_left
          · ((intro u); go_simp; try with_reducible rfl)
          try simp only [Act.put, List.setIfInBounds_toArray, List.set_cons_zero, List.set_cons_succ]
          refine wx_take (i := 7) (d := some 27) (v := ?_) (by simp only [List.getElem?_toArray, List.getElem?_cons_succ, List.getElem?_cons_zero] <;> rfl) (by rfl) (by kernel_rfl) (by kernel_rfl) (by kernel_rfl) (fun _ _ _ h => h) (by rfl) (by kernel_rfl) ?_ ?_
          rotate_left
          · ((intro u hu); have k1 := (hC.gn hu).ld rowRg rfl; have k2 := (hown.gb hu (.inr (by simp [Value.ownBlock]))).ld rowRg rfl (last_get _ _); rw [htn.out] at k2; go_simp; try with_reducible rfl)
          try simp only [Act.put, List.setIfInBounds_toArray, List.set_cons_zero, List.set_cons_succ]
          refine wx_take (i := 8) (d := some 28) (v := ?_) (by simp only [List.getElem?_toArray, List.getElem?_cons_succ, List.getElem?_cons_zero] <;> rfl) (by rfl) (by kernel_rfl) (by kernel_rfl) (by kernel_rfl) (fun _ _ _ h => h) (by rfl) (by kernel_rfl) ?_ ?_
          rotate_left
          · ((intro u hu); have k1 := (hC.gn hu).ld rowRg rfl; have k2 := (hown.gb hu (.inr (by simp [Value.ownBlock]))).ld rowRg rfl (last_get _ _); rw [htn.out] at k2; go_simp; try with_reducible rfl)
          try simp only [Act.put, List.setIfInBounds_toArray, List.set_cons_zero, List.set_cons_succ]
          refine wx_one (i := 9) (by simp only [List.getElem?_toArray, List.getElem?_cons_succ, List.getElem?_cons_zero] <;> rfl) (by kernel_rfl) (by rfl) (fun K hK => ?_)
          go_simp
          refine (HT _).out.mono ?_
          rintro e u1 ⟨rfl, hv1⟩
          rw [HV.out]
          refine hK _ _ (gbB hv1) ?_
          replace hC := hC.below hv1
          replace hown := hown.below hv1
          replace hbw := hbw.trans (hv1.mono hbw.size)
          clear hK K hv1
          try simp only [Act.put, List.setIfInBounds_toArray, List.set_cons_zero, List.set_cons_succ]
          refine wx_pure (i := 10) (d := some 30) (v := ?_) (by simp only [List.getElem?_toArray, List.getElem?_cons_succ, List.getElem?_cons_zero] <;> rfl) (by rfl) (by kernel_rfl) (by kernel_rfl) (by kernel_rfl) (fun _ _ _ h => h) (by rfl) ?_ ?_
          rotate_left
          · ((intro u); go_simp; try with_reducible rfl)
          try simp only [Act.put, List.setIfInBounds_toArray, List.set_cons_zero, List.set_cons_succ]
          refine wx_pure (i := 11) (d := some 31) (v := ?_) (by simp only [List.getElem?_toArray, List.getElem?_cons_succ, List.getElem?_cons_zero] <;> rfl) (by rfl) (by kernel_rfl) (by kernel_rfl) (by kernel_rfl) (fun _ _ _ h => h) (by rfl) ?_ ?_
          rotate_left
          · ((intro u); go_simp; try with_reducible rfl)
          try simp only [Act.put, List.setIfInBounds_toArray, List.set_cons_zero, List.set_cons_succ]
          refine wx_done (by kernel_rfl) ?_ _
          skip
          go_wp2_with fail
          refine wx_begin (none) [] (by kernel_rfl) (fun u0 hb0' hz0' => ?_)
          replace hC := hC.below hb0'
          replace hown := hown.below hb0'
          replace hbw := hbw.trans (hb0'.mono hbw.size)
          clear hb0' hz0'
          refine wx_pure (i := 0) (d := some 36) (v := ?_) (by simp only [List.getElem?_toArray, List.getElem?_cons_succ, List.getElem?_cons_zero] <;> rfl) (by rfl) (by kernel_rfl) (by kernel_rfl) (by kernel_rfl) (fun _ _ _ h => h) (by rfl) ?_ ?_
          rotate_left
          · ((intro u); go_simp; try with_reducible rfl)
          try simp only [Act.put, List.setIfInBounds_toArray, List.set_cons_zero, List.set_cons_succ]
          refine wx_pure (i := 1) (d := some 37) (v := ?_) (by simp only [List.getElem?_toArray, List.getElem?_cons_succ, List.getElem?_cons_zero] <;> rfl) (by rfl) (by kernel_rfl) (by kernel_rfl) (by kernel_rfl) (fun _ _ _ h => h) (by rfl) ?_ ?_
          rotate_left
          · ((intro u); go_simp; try with_reducible rfl)
          try simp only [Act.put, List.setIfInBounds_toArray, List.set_cons_zero, List.set_cons_succ]
          refine wx_pure (i := 2) (d := some 38) (v := ?_) (by simp only [List.getElem?_toArray, List.getElem?_cons_succ, List.getElem?_cons_zero] <;> rfl) (by rfl) (by kernel_rfl) (by kernel_rfl) (by kernel_rfl) (fun _ _ _ h => h) (by rfl) ?_ ?_
          rotate_left
          · ((intro u); go_simp; try with_reducible rfl)
          try simp only [Act.put, List.setIfInBounds_toArray, List.set_cons_zero, List.set_cons_succ]
          refine wx_pure (i := 3) (d := some 39) (v := ?_) (by simp only [List.getElem?_toArray, List.getElem?_cons_succ, List.getElem?_cons_zero] <;> rfl) (by rfl) (by kernel_rfl) (by kernel_rfl) (by kernel_rfl) (fun _ _ _ h => h) (by rfl) ?_ ?_
          rotate_left
          · ((intro u); go_simp; try with_reducible rfl)
          try simp only [Act.put, List.setIfInBounds_toArray, List.set_cons_zero, List.set_cons_succ]
          refine wx_pure (i := 4) (d := some 40) (v := ?_) (by simp only [List.getElem?_toArray, List.getElem?_cons_succ, List.getElem?_cons_zero] <;> rfl) (by rfl) (by kernel_rfl) (by kernel_rfl) (by kernel_rfl) (fun _ _ _ h => h) (by rfl) ?_ ?_
          rotate_left
          · ((intro u); go_simp; try with_reducible rfl)
          try simp only [Act.put, List.setIfInBounds_toArray, List.set_cons_zero, List.set_cons_succ]
          refine wx_take (i := 5) (d := some 41) (v := ?_) (by simp only [List.getElem?_toArray, List.getElem?_cons_succ, List.getElem?_cons_zero] <;> rfl) (by rfl) (by kernel_rfl) (by kernel_rfl) (by kernel_rfl) (fun _ _ _ h => h) (by rfl) (by kernel_rfl) ?_ ?_
          rotate_left
          · ((intro u hu); have k1 := (hC.gn hu).ldAt rowAd 3 (adC x.2) [] rfl rfl; have k2 := (hown.gb hu (.inr (by simp [Value.ownBlock]))).ldAt rowAd (k := 6) rfl (last_get _ _) 3 (adC y.2) [] rfl rfl; rw [htn.out] at k2; go_simp; try with_reducible rfl)
          try simp only [Act.put, List.setIfInBounds_toArray, List.set_cons_zero, List.set_cons_succ]
          refine wx_pure (i := 6) (d := some 42) (v := ?_) (by simp only [List.getElem?_toArray, List.getElem?_cons_succ, List.getElem?_cons_zero] <;> rfl) (by rfl) (by kernel_rfl) (by kernel_rfl) (by kernel_rfl) (fun _ _ _ h => h) (by rfl) ?_ ?_
          rotate_left
          · ((intro u); go_simp; try with_reducible rfl)
          try simp only [Act.put, List.setIfInBounds_toArray, List.set_cons_zero, List.set_cons_succ]
          refine wx_take (i := 7) (d := some 43) (v := ?_) (by simp only [List.getElem?_toArray, List.getElem?_cons_succ, List.getElem?_cons_zero] <;> rfl) (by rfl) (by kernel_rfl) (by kernel_rfl) (by kernel_rfl) (fun _ _ _ h => h) (by rfl) (by kernel_rfl) ?_ ?_
          rotate_left
          · ((intro u hu); have k1 := (hC.gn hu).ldAt rowAd 3 (adC x.2) [] rfl rfl; have k2 := (hown.gb hu (.inr (by simp [Value.ownBlock]))).ldAt rowAd (k := 6) rfl (last_get _ _) 3 (adC y.2) [] rfl rfl; rw [htn.out] at k2; go_simp; try with_reducible rfl)
          try simp only [Act.put, List.setIfInBounds_toArray, List.set_cons_zero, List.set_cons_succ]
          refine wx_one (i := 8) (by simp only [List.getElem?_toArray, List.getElem?_cons_succ, List.getElem?_cons_zero] <;> rfl) (by kernel_rfl) (by rfl) (fun K hK => ?_)
          go_simp
          refine (HC _).out.mono ?_
          rintro e u1 ⟨rfl, hg1'⟩
          have hv1 := hg1'.below
          refine hK _ _ hg1'.1 ?_
          replace hC := hC.below hv1
          replace hown := hown.below hv1
          replace hbw := hbw.trans (hv1.mono hbw.size)
          clear hK K hv1 hg1'
          try simp only [Act.put, List.setIfInBounds_toArray, List.set_cons_zero, List.set_cons_succ]
          refine wx_pure (i := 9) (d := some 45) (v := ?_) (by simp only [List.getElem?_toArray, List.getElem?_cons_succ, List.getElem?_cons_zero] <;> rfl) (by rfl) (by kernel_rfl) (by kernel_rfl) (by kernel_rfl) (fun _ _ _ h => h) (by rfl) ?_ ?_
          rotate_left
          · ((intro u); go_simp; try with_reducible rfl)
          try simp only [Act.put, List.setIfInBounds_toArray, List.set_cons_zero, List.set_cons_succ]
          refine wx_done (by kernel_rfl) ?_ _
          skip
          by_cases hqy : y.2.n < x.2.n
          · rw [if_pos hqy] at hJ2
            have k1 := hC.ldAt rowAd 3 (adC x.2) [] rfl rfl
            have S2 := stT_own rowAd (E := eRg) hown (last_get _ _) 3 (adC x.2) (by decide) rfl (adC_one _)
            have hset := hown.setLast (x' := (y.1, x.2)) hL.out (adC y.1) (adC y.2) (adC x.2) [] (by rw [List.append_nil]; rfl) (by rw [List.append_nil]; rfl) rfl
            have hb3 := below_setC hg1 (adC x.2) (r.reverse.length * 6 + 3) _ hbw
            replace S2 : (stT 28 (.pointer (some ⟨g, r.reverse.length * 6 + 3, none⟩)) (adA x.2)).run Tryz.prog _ = .ok .skip (World.setCells _ g (r.reverse.length * 6 + 3) (adC x.2)) := S2
            replace hset : OwnE eRg 49 _ (World.setCells _ g (r.reverse.length * 6 + 3) (adC x.2)) _ _ := hset
            rw [htn.out] at S2 hset hb3
            clear hown hbw hcl
            go_wp2_with fail
            go_roundw
            case rel => exact ⟨k + 1, (y.1, x.2) :: r, by omega, by go_num, by rw [List.reverse_cons]; exact hset, hb3, hJ2, Lib.hid (by have := hRl.out; simp only [List.length_cons] at *; omega)⟩
            case measure => simp [intOf]; omega
          · rw [if_neg hqy] at hJ2
            clear hcl
            go_wp2_with fail
            go_roundw
            case rel => exact ⟨k + 1, y :: r, by omega, by go_num, by rw [List.reverse_cons]; exact hown, hbw, hJ2, Lib.hid (by have := hRl.out; simp only [List.length_cons] at *; omega)⟩
            case measure => simp [intOf]; omega
    · have hkn : k = n := by omega
      obtain ⟨A', cap', rfl, hSr⟩ := hown.sl
      have hbl := fun g off (h : A' = some ⟨g, off, none⟩) => hown.lt g (by rw [h]; rfl)
      have hJn := hJ.out
      rw [List.take_of_length_le (by have := hql.out; omega)] at hJn
      have hfin := Lib.hid (show Joined J.reverse xs ∧ J.reverse.length ≤ n from ⟨hJn.done hperm.out, by have := hRl.out; rw [List.length_reverse]; omega⟩)
      clear hown hJ hJn hkn
      replace hSr := Lib.hid hSr
      replace hbl := Lib.hid hbl
      generalize hL : J.reverse.length = L at *
      go_wp2_with fail
      go_ret
      exact ⟨J.reverse, hfin.out.1, by rw [hL]; exact hfin.out.2, ⟨A', cap', by rw [hL]; rfl, by rw [hL]; exact hSr.out, fun g off h => ⟨Nat.le_trans hw2 (hbl.out g off h).1, (hbl.out g off h).2⟩⟩, hb2.trans (hbw.mono hb2.size)⟩
end Go.Proofs.YthjhokicojgpbaaGreatDoor
