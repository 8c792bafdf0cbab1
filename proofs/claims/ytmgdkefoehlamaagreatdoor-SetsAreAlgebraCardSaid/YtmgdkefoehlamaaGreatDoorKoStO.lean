/- Sets: the reference: wide numbers. -/
import Derived.Test.YtmgdkefoehlamaaGreatDoorKoGzA
import Derived.Test.YtmgdkefoehlamaaGreatDoorKoStM
import Derived.Test.YtmgdkefoehlamaaGreatDoorKoStG
import Derived.Test.YtmgdkefoehlamaaGreatDoorKoLaneD
import Derived.Test.YtmgdkefoehlamaaGreatDoorKoTxtJ
set_option linter.unusedVariables false
set_option linter.unusedSimpArgs false
set_option maxRecDepth 100000
namespace Go.Proofs.YtmgdkefoehlamaaGreatDoor
open Go.RowKit

theorem OwnE.alloc' {α : Type} {E : Enc α} {t : TypeId} {B : Nat} {w : World} {v : Value} {xs : List α} (h : OwnE E t B w v xs) (o : Obj) : OwnE E t B (w.alloc o) v xs := h.below ((Below.refl _ _).alloc (Nat.le_refl _) _)
def GivesL (E : Enc (Ad × Ad)) (B : Nat) (ys : List (Ad × Ad)) (e : Ending) (w' : World) : Prop := ∃ A cap, e = .returned (.slice A ys.length cap) ∧ SlE E w' A ys.length cap ys ∧ ∀ g off, A = some ⟨g, off, none⟩ → B ≤ g ∧ g < w'.heap.size

set_option maxHeartbeats 4000000 in
theorem joinRg_any (A : Option Addr) (n cap : Nat) (xs : List (Ad × Ad)) (w : World) (hS : SlE eRg w A n cap xs) (hn : n ≤ 100000) (hR : ∀ x ∈ xs, RgR x) :
    Calls Tryz.prog 82 #[.slice A n cap] w fun e w' => ∃ ys, Joined ys xs ∧ ys.length ≤ n ∧ GivesL eRg w.heap.size ys e w' ∧ Below w.heap.size w w' := by
  have hpl := Lib.hid hS.1
  have hCl := Lib.hid (cloneRg_any A n cap xs w hS (by omega))
  clear hS
  replace hR := Lib.hid hR
  go_enter Tryz.func82, Tryz.ntmps82
  go_wp2_with fail
  refine hCl.out.mono ?_
  rintro e w1 ⟨v', rfl, hown, hb1⟩
  clear hCl
  have hSo := Lib.hid (sortRg_any w.heap.size v' xs w1 hown (fun x hx => ⟨(hR.out x hx).1.1, (hR.out x hx).2.1.1⟩) hb1.size (by rw [← hpl.out]; omega))
  clear hown
  go_wp2_with fail
  refine hSo.out.mono ?_
  rintro e w2 ⟨rfl, qs, hperm, hsort, ⟨A1, cap1, hv1, hSl, hA1⟩, hb2⟩
  subst hv1
  have hb2 := hb1.trans hb2
  have hql : qs.length = n := by rw [hperm.length_eq, ← hpl.out]
  have hq := Lib.hid (show ∀ x ∈ qs, RgR x from fun x hx => hR.out x (hperm.mem_iff.1 hx))
  have hw2 := hb2.size
  rw [hql] at hSl ⊢
  replace hSl := Lib.hid hSl
  replace hperm := Lib.hid hperm
  replace hsort := Lib.hid hsort
  replace hA1 := Lib.hid hA1
  replace hql := Lib.hid hql
  clear hb1 hSo hR hpl
  go_wp2_with fail
  go_loopw [4, 14] (fun o i wr => ∃ (k : Nat) (J : List (Ad × Ad)), k ≤ n ∧ i = .int .i64 k ∧ OwnE eRg 53 w2.heap.size wr o J.reverse ∧ Below w2.heap.size w2 wr ∧ Hid (JA J (qs.take k)) ∧ Hid (J.length ≤ k)) (fun _ i _ => n - (intOf i).toNat)
  case atStart => exact ⟨0, [], by omega, rfl, OwnE.nil _ _, Below.refl _ _, Lib.hid (by simpa using JA.nil), Lib.hid (by simp)⟩
  case round =>
    obtain ⟨k, J, hk, rfl, hown, hbw, hJ, hRl⟩ := hrel
    by_cases hlt : k < n
    · obtain ⟨x, hx⟩ : ∃ x, qs[k]? = some x := ⟨qs[k]'(by have := hql.out; omega), List.getElem?_eq_getElem _⟩
      obtain ⟨g0, off, rfl, hg0, hc0⟩ := hSl.out.at' hlt
      have hld := SlE.ld rowRg (hSl.out.below hbw) hx
      replace hld : (ldT 53 (.pointer (some ⟨g0, off + k * 6, none⟩))).run Tryz.prog wr = .ok (.value (rgA x)) wr := hld
      have hxR := hq.out x (List.mem_of_getElem? hx)
      have hle := take_leA hsort.out hx
      have hlt' : (k : Int) < n := by omega
      have hsw := hbw.size
      have hJ2 : Hid (JA (joinA J x) (qs.take (k + 1))) := Lib.hid (by
        rw [List.take_add_one, hx]; exact hJ.out.step hxR hle)
      have S1 := stT_new rowRg (te := 53) wr wr.heap.size rfl [.bool false, .int .u64 0, .int .u64 0, .bool false, .int .u64 0, .int .u64 0] (rgC x) rfl rfl (rgC_one x)
      have hJ0 := hJ
      clear hc0 hx hJ
      have hC := Blk.new wr (rgC x) 53
      replace hown := hown.alloc' (.cells (rgC x).toArray 53)
      replace hbw := hbw.alloc hsw (.cells (rgC x).toArray 53)
      cases J with
      | nil =>
        obtain ⟨Ao, co, rfl, _⟩ := hown.sl
        replace hJ2 : Hid (JA [x] (qs.take (k + 1))) := hJ2
        go_wp2_with fail
        refine wx_begin (none) [] (by kernel_rfl) (fun u0 hb0' hz0' => ?_)
        replace hC := hC.below hb0'
        replace hown := hown.below hb0'
        replace hbw := hbw.trans (hb0'.mono hbw.size)
        clear hb0' hz0'
        refine wx_pureZ 0 (some 20) (v := ?_) ?_ ?_; rotate_left; · (intro u; go_simp; try with_reducible rfl)
        try simp only [Act.put, gzD, gzE, gzF]
        refine wx_pureZ 1 (some 21) (v := ?_) ?_ ?_; rotate_left; · (intro u; go_simp; try with_reducible rfl)
        try simp only [Act.put, gzD, gzE, gzF]
        refine wx_pureZ 2 (some 22) (v := ?_) ?_ ?_; rotate_left; · (intro u; go_simp; try with_reducible rfl)
        try simp only [Act.put, gzD, gzE, gzF]
        refine wx_skipZ 3 (some 23) ?_
        try simp only [Act.put, gzD, gzE, gzF]
        refine wx_skipZ 4 (some 24) ?_
        try simp only [Act.put, gzD, gzE, gzF]
        refine wx_skipZ 5 (some 25) ?_
        try simp only [Act.put, gzD, gzE, gzF]
        refine wx_skipZ 6 (some 26) ?_
        try simp only [Act.put, gzD, gzE, gzF]
        refine wx_skipZ 7 (some 27) ?_
        try simp only [Act.put, gzD, gzE, gzF]
        refine wx_skipZ 8 (some 28) ?_
        try simp only [Act.put, gzD, gzE, gzF]
        refine wx_skipZ 9 (some 29) ?_
        try simp only [Act.put, gzD, gzE, gzF]
        refine wx_skipZ 10 (some 30) ?_
        try simp only [Act.put, gzD, gzE, gzF]
        refine wx_pureZ 11 (some 31) (v := ?_) ?_ ?_; rotate_left; · (intro u; go_simp; try with_reducible rfl)
        try simp only [Act.put, gzD, gzE, gzF]
        refine wx_done (by kernel_rfl) ?_ _
        skip
        have hz := hbw.size
        have k1 := hC.ld rowRg rfl
        go_wp2_with (at_builtin; refine wpList_app tyeRg rfl _ _ rfl w2.heap.size _ _ [x] rfl (hown.alloc' _) ⟨_, 0, none⟩ 1 1 rfl rfl ?c1 ?c2 ?c3 ?_)
        case c1 => exact cell_row_at _ _ _ _ rfl
        case c2 => have := hRl.out; simp only [List.length_reverse, List.length_singleton, List.length_append, List.length_cons, List.length_nil] at this ⊢; omega
        case c3 => first | omega | (simp; done) | (simp; omega)
        intro v3 x3 hown3 hg3 _
        have hb3 : Below w2.heap.size w2 x3 := (hbw.alloc hbw.size _).grown hg3 (by first | omega | (simp; done) | (simp; omega)) (fun k h => (hown.lt k h).1)
        clear hg3 hown hbw
        go_wp2_with fail
        go_roundw
        case rel => exact ⟨k + 1, [x], by omega, by go_num, hown3, hb3, hJ2, Lib.hid (by simp)⟩
        case measure => simp [intOf]; omega
      | cons y r =>
        have hyx : y.1.n ≤ x.1.n := hJ0.out.first hle
        have hyR := hJ0.out.2 y List.mem_cons_self
        have HT := fun w' => Lib.hid (touches_any y x w' hyR hxR hyx)
        have HC := fun w' => Lib.hid (spanCmp_d y.2 x.2 w' hyR.2.1.1 hxR.2.1.1)
        rw [List.reverse_cons] at hown
        obtain ⟨g, co, rfl, hg1, hg2, hco, _, _⟩ := hown.form (by simp)
        obtain ⟨t, ht⟩ : ∃ t : Int, (r.length : Int) = t := ⟨_, rfl⟩
        obtain ⟨L, hL⟩ : ∃ L, L = (r.reverse ++ [y]).length := ⟨_, rfl⟩
        have hL1 : L = r.length + 1 := by rw [hL]; simp
        have hkk : r.length + 1 ≤ k := hRl.out
        have ht0 : 0 ≤ t := by omega
        have ht1 : t < 100000 := by omega
        have htn := Lib.hid (show r.reverse.length = t.toNat by rw [List.length_reverse]; omega)
        have hrl : (L : Int) - 1 = t := by omega
        have hwt : IntKind.i64.wrap t = t := IntWalk.i64_in _ (by omega)
        have hrl2 : t < (L : Int) := by omega
        have hL0 : ((L : Int) == 0) = false := by rw [beq_eq_false_iff_ne]; omega
        rw [← hL] at hown hco ⊢
        replace hL := Lib.hid hL
        replace hL1 := Lib.hid hL1
        clear ht hkk hyx hle
        by_cases hqx : y.2.n + 1 < x.1.n
        · have e0 : joinA (y :: r) x = x :: y :: r := if_pos hqx
          rw [e0] at hJ2
          have HV := Lib.hid (show decide (x.1.n ≤ y.2.n + 1) = false from decide_eq_false (by omega))
          clear e0 hqx
          go_wp2_with fail
          refine wx_begin (none) [] (by kernel_rfl) (fun u0 hb0' hz0' => ?_)
          replace hC := hC.below hb0'
          replace hown := hown.below hb0'
          replace hbw := hbw.trans (hb0'.mono hbw.size)
          clear hb0' hz0'
          refine wx_pureZ 0 (some 20) (v := ?_) ?_ ?_; rotate_left; · (intro u; go_simp; try with_reducible rfl)
          try simp only [Act.put, gzD, gzE, gzF]
          refine wx_pureZ 1 (some 21) (v := ?_) ?_ ?_; rotate_left; · (intro u; go_simp; try with_reducible rfl)
          try simp only [Act.put, gzD, gzE, gzF]
          refine wx_pureZ 2 (some 22) (v := ?_) ?_ ?_; rotate_left; · (intro u; go_simp; try with_reducible rfl)
          try simp only [Act.put, gzD, gzE, gzF]
          refine wx_pureZ 3 (some 23) (v := ?_) ?_ ?_; rotate_left; · (intro u; go_simp; try with_reducible rfl)
          try simp only [Act.put, gzD, gzE, gzF]
          refine wx_pureZ 4 (some 24) (v := ?_) ?_ ?_; rotate_left; · (intro u; go_simp; try with_reducible rfl)
          try simp only [Act.put, gzD, gzE, gzF]
          refine wx_pureZ 5 (some 25) (v := ?_) ?_ ?_; rotate_left; · (intro u; go_simp; try with_reducible rfl)
          try simp only [Act.put, gzD, gzE, gzF]
          refine wx_pureZ 6 (some 26) (v := ?_) ?_ ?_; rotate_left; · (intro u; go_simp; try with_reducible rfl)
          try simp only [Act.put, gzD, gzE, gzF]
          refine wx_takeZ 7 (some 27) (v := ?_) ?_ ?_; rotate_left; · (intro u hu; have k1 := (hC.gn hu).ld rowRg rfl; have k2 := (hown.gb hu (.inr (by simp [Value.ownBlock]))).ld rowRg rfl (last_get _ _); rw [htn.out] at k2; go_simp; try with_reducible rfl)
          try simp only [Act.put, gzD, gzE, gzF]
          refine wx_takeZ 8 (some 28) (v := ?_) ?_ ?_; rotate_left; · (intro u hu; have k1 := (hC.gn hu).ld rowRg rfl; have k2 := (hown.gb hu (.inr (by simp [Value.ownBlock]))).ld rowRg rfl (last_get _ _); rw [htn.out] at k2; go_simp; try with_reducible rfl)
          try simp only [Act.put, gzD, gzE, gzF]
          refine wx_oneZ 9 (fun K hK => ?_)
          go_simp
          refine (HT _).out.mono ?_
          rintro e u1 ⟨rfl, hv1⟩
          rw [HV.out]
          refine hK _ _ (gbB hv1) ?_
          replace hC := hC.below hv1
          replace hown := hown.below hv1
          replace hbw := hbw.trans (hv1.mono hbw.size)
          clear hK K hv1
          try simp only [Act.put, gzD, gzE, gzF]
          refine wx_pureZ 10 (some 30) (v := ?_) ?_ ?_; rotate_left; · (intro u; go_simp; try with_reducible rfl)
          try simp only [Act.put, gzD, gzE, gzF]
          refine wx_pureZ 11 (some 31) (v := ?_) ?_ ?_; rotate_left; · (intro u; go_simp; try with_reducible rfl)
          try simp only [Act.put, gzD, gzE, gzF]
          refine wx_done (by kernel_rfl) ?_ _
          skip
          have hz := hbw.size
          have k1 := hC.ld rowRg rfl
          go_wp2_with (at_builtin; refine wpList_app tyeRg rfl _ _ rfl w2.heap.size _ _ [x] rfl (hown.alloc' _) ⟨_, 0, none⟩ 1 1 rfl rfl ?d1 ?d2 ?d3 ?_)
          case d1 => exact cell_row_at _ _ _ _ rfl
          case d2 => have := hRl.out; simp only [List.length_reverse, List.length_singleton, List.length_append, List.length_cons, List.length_nil] at this ⊢; omega
          case d3 => first | omega | (simp; done) | (simp; omega)
          intro v3 x3 hown3 hg3 _
          have hb3 : Below w2.heap.size w2 x3 := (hbw.alloc hbw.size _).grown hg3 (by first | omega | (simp; done) | (simp; omega)) (fun k h => (hown.lt k h).1)
          clear hg3 hown hbw
          go_wp2_with fail
          go_roundw
          case rel => exact ⟨k + 1, x :: y :: r, by omega, by go_num, by rw [List.reverse_cons, List.reverse_cons, List.append_assoc]; exact hown3, hb3, hJ2, Lib.hid (by have := hRl.out; simp only [List.length_cons] at *; omega)⟩
          case measure => simp [intOf]; omega
        · have HV := Lib.hid (show decide (x.1.n ≤ y.2.n + 1) = true from decide_eq_true (by omega))
          have e0 : joinA (y :: r) x = (y.1, if y.2.n < x.2.n then x.2 else y.2) :: r := if_neg hqx
          rw [e0] at hJ2
          clear e0 hqx
          have hcl := cmpN_lt y.2.n x.2.n
          go_wp2_with fail
          refine wx_begin (none) [] (by kernel_rfl) (fun u0 hb0' hz0' => ?_)
          replace hC := hC.below hb0'
          replace hown := hown.below hb0'
          replace hbw := hbw.trans (hb0'.mono hbw.size)
          clear hb0' hz0'
          refine wx_pureZ 0 (some 20) (v := ?_) ?_ ?_; rotate_left; · (intro u; go_simp; try with_reducible rfl)
          try simp only [Act.put, gzD, gzE, gzF]
          refine wx_pureZ 1 (some 21) (v := ?_) ?_ ?_; rotate_left; · (intro u; go_simp; try with_reducible rfl)
          try simp only [Act.put, gzD, gzE, gzF]
          refine wx_pureZ 2 (some 22) (v := ?_) ?_ ?_; rotate_left; · (intro u; go_simp; try with_reducible rfl)
          try simp only [Act.put, gzD, gzE, gzF]
          refine wx_pureZ 3 (some 23) (v := ?_) ?_ ?_; rotate_left; · (intro u; go_simp; try with_reducible rfl)
          try simp only [Act.put, gzD, gzE, gzF]
          refine wx_pureZ 4 (some 24) (v := ?_) ?_ ?_; rotate_left; · (intro u; go_simp; try with_reducible rfl)
          try simp only [Act.put, gzD, gzE, gzF]
          refine wx_pureZ 5 (some 25) (v := ?_) ?_ ?_; rotate_left; · (intro u; go_simp; try with_reducible rfl)
          try simp only [Act.put, gzD, gzE, gzF]
          refine wx_pureZ 6 (some 26) (v := ?_) ?_ ?_; rotate_left; · (intro u; go_simp; try with_reducible rfl)
          try simp only [Act.put, gzD, gzE, gzF]
          refine wx_takeZ 7 (some 27) (v := ?_) ?_ ?_; rotate_left; · (intro u hu; have k1 := (hC.gn hu).ld rowRg rfl; have k2 := (hown.gb hu (.inr (by simp [Value.ownBlock]))).ld rowRg rfl (last_get _ _); rw [htn.out] at k2; go_simp; try with_reducible rfl)
          try simp only [Act.put, gzD, gzE, gzF]
          refine wx_takeZ 8 (some 28) (v := ?_) ?_ ?_; rotate_left; · (intro u hu; have k1 := (hC.gn hu).ld rowRg rfl; have k2 := (hown.gb hu (.inr (by simp [Value.ownBlock]))).ld rowRg rfl (last_get _ _); rw [htn.out] at k2; go_simp; try with_reducible rfl)
          try simp only [Act.put, gzD, gzE, gzF]
          refine wx_oneZ 9 (fun K hK => ?_)
          go_simp
          refine (HT _).out.mono ?_
          rintro e u1 ⟨rfl, hv1⟩
          rw [HV.out]
          refine hK _ _ (gbB hv1) ?_
          replace hC := hC.below hv1
          replace hown := hown.below hv1
          replace hbw := hbw.trans (hv1.mono hbw.size)
          clear hK K hv1
          try simp only [Act.put, gzD, gzE, gzF]
          refine wx_pureZ 10 (some 30) (v := ?_) ?_ ?_; rotate_left; · (intro u; go_simp; try with_reducible rfl)
          try simp only [Act.put, gzD, gzE, gzF]
          refine wx_pureZ 11 (some 31) (v := ?_) ?_ ?_; rotate_left; · (intro u; go_simp; try with_reducible rfl)
          try simp only [Act.put, gzD, gzE, gzF]
          refine wx_done (by kernel_rfl) ?_ _
          skip
          go_wp2_with fail
          refine wx_begin (none) [] (by kernel_rfl) (fun u0 hb0' hz0' => ?_)
          replace hC := hC.below hb0'
          replace hown := hown.below hb0'
          replace hbw := hbw.trans (hb0'.mono hbw.size)
          clear hb0' hz0'
          refine wx_pureZ 0 (some 36) (v := ?_) ?_ ?_; rotate_left; · (intro u; go_simp; try with_reducible rfl)
          try simp only [Act.put, gzD, gzE, gzF]
          refine wx_pureZ 1 (some 37) (v := ?_) ?_ ?_; rotate_left; · (intro u; go_simp; try with_reducible rfl)
          try simp only [Act.put, gzD, gzE, gzF]
          refine wx_pureZ 2 (some 38) (v := ?_) ?_ ?_; rotate_left; · (intro u; go_simp; try with_reducible rfl)
          try simp only [Act.put, gzD, gzE, gzF]
          refine wx_pureZ 3 (some 39) (v := ?_) ?_ ?_; rotate_left; · (intro u; go_simp; try with_reducible rfl)
          try simp only [Act.put, gzD, gzE, gzF]
          refine wx_pureZ 4 (some 40) (v := ?_) ?_ ?_; rotate_left; · (intro u; go_simp; try with_reducible rfl)
          try simp only [Act.put, gzD, gzE, gzF]
          refine wx_takeZ 5 (some 41) (v := ?_) ?_ ?_; rotate_left; · (intro u hu; have k1 := (hC.gn hu).ldAt rowAd 3 (adC x.2) [] rfl rfl; have k2 := (hown.gb hu (.inr (by simp [Value.ownBlock]))).ldAt rowAd (k := 6) rfl (last_get _ _) 3 (adC y.2) [] rfl rfl; rw [htn.out] at k2; go_simp; try with_reducible rfl)
          try simp only [Act.put, gzD, gzE, gzF]
          refine wx_pureZ 6 (some 42) (v := ?_) ?_ ?_; rotate_left; · (intro u; go_simp; try with_reducible rfl)
          try simp only [Act.put, gzD, gzE, gzF]
          refine wx_takeZ 7 (some 43) (v := ?_) ?_ ?_; rotate_left; · (intro u hu; have k1 := (hC.gn hu).ldAt rowAd 3 (adC x.2) [] rfl rfl; have k2 := (hown.gb hu (.inr (by simp [Value.ownBlock]))).ldAt rowAd (k := 6) rfl (last_get _ _) 3 (adC y.2) [] rfl rfl; rw [htn.out] at k2; go_simp; try with_reducible rfl)
          try simp only [Act.put, gzD, gzE, gzF]
          refine wx_oneZ 8 (fun K hK => ?_)
          go_simp
          refine (HC _).out.mono ?_
          rintro e u1 ⟨rfl, hg1'⟩
          have hv1 := hg1'.below
          refine hK _ _ hg1'.1 ?_
          replace hC := hC.below hv1
          replace hown := hown.below hv1
          replace hbw := hbw.trans (hv1.mono hbw.size)
          clear hK K hv1 hg1'
          try simp only [Act.put, gzD, gzE, gzF]
          refine wx_pureZ 9 (some 45) (v := ?_) ?_ ?_; rotate_left; · (intro u; go_simp; try with_reducible rfl)
          try simp only [Act.put, gzD, gzE, gzF]
          refine wx_done (by kernel_rfl) ?_ _
          skip
          by_cases hqy : y.2.n < x.2.n
          · rw [if_pos hqy] at hJ2
            have k1 := hC.ldAt rowAd 3 (adC x.2) [] rfl rfl
            have S2 := stT_own rowAd (E := eRg) hown (last_get _ _) 3 (adC x.2) (by decide) rfl (adC_one _)
            have hset := hown.setLast (x' := (y.1, x.2)) hL.out (adC y.1) (adC y.2) (adC x.2) [] (by rw [List.append_nil]; rfl) (by rw [List.append_nil]; rfl) rfl
            have hb3 := below_setC hg1 (adC x.2) (r.reverse.length * 6 + 3) _ hbw
            replace S2 : (stT 38 (.pointer (some ⟨g, r.reverse.length * 6 + 3, none⟩)) (adA x.2)).run Tryz.prog _ = .ok .skip (World.setCells _ g (r.reverse.length * 6 + 3) (adC x.2)) := S2
            replace hset : OwnE eRg 53 _ (World.setCells _ g (r.reverse.length * 6 + 3) (adC x.2)) _ _ := hset
            rw [htn.out] at S2 hset hb3
            clear hown hbw hcl
            go_wp2_with fail
            go_roundw
            case rel => exact ⟨k + 1, (y.1, x.2) :: r, by omega, by go_num, by rw [List.reverse_cons]; exact hset, hb3, hJ2, Lib.hid (by have := hRl.out; simp only [List.length_cons] at *; omega)⟩
            case measure => simp [intOf]; omega
          · rw [if_neg hqy] at hJ2
            clear hcl
            go_wp2_with fail
            go_roundw
            case rel => exact ⟨k + 1, y :: r, by omega, by go_num, by rw [List.reverse_cons]; exact hown, hbw, hJ2, Lib.hid (by have := hRl.out; simp only [List.length_cons] at *; omega)⟩
            case measure => simp [intOf]; omega
    · have hkn : k = n := by omega
      obtain ⟨A', cap', rfl, hSr⟩ := hown.sl
      have hbl := fun g off (h : A' = some ⟨g, off, none⟩) => hown.lt g (by rw [h]; rfl)
      have hJn := hJ.out
      rw [List.take_of_length_le (by have := hql.out; omega)] at hJn
      have hfin := Lib.hid (show Joined J.reverse xs ∧ J.reverse.length ≤ n from ⟨hJn.done hperm.out, by have := hRl.out; rw [List.length_reverse]; omega⟩)
      clear hown hJ hJn hkn
      replace hSr := Lib.hid hSr
      replace hbl := Lib.hid hbl
      generalize hL : J.reverse.length = L at *
      go_wp2_with fail
      go_ret
      exact ⟨J.reverse, hfin.out.1, by rw [hL]; exact hfin.out.2, ⟨A', cap', by rw [hL]; rfl, by rw [hL]; exact hSr.out, fun g off h => ⟨Nat.le_trans hw2 (hbl.out g off h).1, (hbl.out g off h).2⟩⟩, hb2.trans (hbw.mono hb2.size)⟩

theorem dig_six {V : Nat} (s : Bool) (hV : V < 2 ^ 128) (j : Nat) (hj : j < 8) : dig (s2n s + V) j = dig V j := by
  cases s
  · rw [s2n_false, Nat.zero_add]
  · rw [s2n_true]
    unfold dig
    have e : (2 : Nat) ^ 128 = 2 ^ (16 * j) * (2 ^ (112 - 16 * j) * 2 ^ 16) := by rw [← Nat.pow_add, ← Nat.pow_add]; congr 1; omega
    have hp := Nat.two_pow_pos (16 * j)
    rw [e, Nat.mul_add_div hp, Nat.mul_comm (2 ^ (112 - 16 * j)), Nat.add_comm, Nat.add_mul_mod_self_left]
theorem dig_top {V : Nat} (s : Bool) (hV : V < 2 ^ 128) : ((dig (s2n s + V) 8 : Nat) : Int) = b2i s := by
  unfold dig
  show (((s2n s + V) / 2 ^ 128 % 2 ^ 16 : Nat) : Int) = b2i s
  cases s
  · rw [s2n_false, Nat.zero_add, Nat.div_eq_of_lt hV]; rfl
  · rw [s2n_true, show (2 ^ 128 + V) / 2 ^ 128 = 1 by omega]; rfl
theorem wV_wA {V : Nat} (s : Bool) (hV : V < 2 ^ 128) : wV V s = wA (s2n s + V) := by
  unfold wV wA digN
  rw [dig_six s hV 0 (by decide), dig_six s hV 1 (by decide), dig_six s hV 2 (by decide), dig_six s hV 3 (by decide), dig_six s hV 4 (by decide), dig_six s hV 5 (by decide), dig_six s hV 6 (by decide), dig_six s hV 7 (by decide), dig_top s hV]
theorem of_w (a : Ad) (w : World) (h : a.U) : Calls Tryz.prog 91 #[adA a] w (GivesV (wA a.n) w) := by
  have := of_any a.s a.hi a.lo w h.1.1 h.1.2 h.2.1 h.2.2
  rwa [wV_wA a.s (show num a.hi a.lo < 2 ^ 128 from h.v_lt)] at this
theorem fil_n {p : Pf} (h : p.R) : s2n p.1.s + fil p.1.v (freeB p) = p.1.n + 2 ^ freeB p - 1 := by
  rw [fil_blk h]
  have := Nat.two_pow_pos (freeB p)
  unfold Ad.n; omega
theorem lastOf_w (p : Pf) (w : World) (h : p.R) : Calls Tryz.prog 88 #[pfA p] w (GivesV (wA (p.1.n + 2 ^ freeB p - 1)) w) := by
  have hv : fil p.1.v (freeB p) < 2 ^ 128 := fil_lt h.free_le.1 h.1.1.v_lt
  have := lastOf_any p.1.s p.1.hi p.1.lo p.2 w h.1.1.1.1 h.1.1.1.2 h.1.1.2.1 h.1.1.2.2 h.2.1 h.2.2.1
  rw [wV_wA p.1.s (show fil (num p.1.hi p.1.lo) (lenZ p.1.s - p.2).toNat < 2 ^ 128 from hv)] at this
  rwa [show s2n p.1.s + fil (num p.1.hi p.1.lo) (lenZ p.1.s - p.2).toNat = p.1.n + 2 ^ freeB p - 1 from fil_n h] at this
theorem clr_le (V k : Nat) : clr V k ≤ V := Nat.div_mul_le_self _ _
theorem firstOf_w (a : Ad) (n : Int) (w : World) (h : a.U) (hn1 : 0 ≤ n) (hn2 : n ≤ lenZ a.s) : Calls Tryz.prog 87 #[adA a, .int .i64 n] w (GivesV (wA (s2n a.s + clr a.v (lenZ a.s - n).toNat)) w) := by
  have hv : clr a.v (lenZ a.s - n).toNat < 2 ^ 128 := Nat.lt_of_le_of_lt (clr_le _ _) h.v_lt
  have := firstOf_any a.s a.hi a.lo n w h.1.1 h.1.2 h.2.1 h.2.2 hn1 hn2
  rwa [wV_wA a.s (show clr (num a.hi a.lo) (lenZ a.s - n).toNat < 2 ^ 128 from hv)] at this
theorem wA_adOf {W : Nat} (h : W < 2 ^ 129) : wA W = wV (W % 2 ^ 128) (decide (2 ^ 128 ≤ W)) := by
  rw [wV_wA _ (Nat.mod_lt _ (by decide))]
  congr 2
  by_cases hs : 2 ^ 128 ≤ W
  · rw [decide_eq_true hs, s2n_true]; congr 1; omega
  · rw [decide_eq_false hs, s2n_false]; congr 1; omega
theorem length_w (a : Ad) (w : World) : Calls Tryz.prog 86 #[adA a] w (GivesV (.int .i64 (lenZ a.s)) w) := length_any a.s a.hi a.lo w

def eqN (A B : Nat) : Bool := dig A 0 == dig B 0 && (dig A 1 == dig B 1 && (dig A 2 == dig B 2 && (dig A 3 == dig B 3 && (dig A 4 == dig B 4 && (dig A 5 == dig B 5 && (dig A 6 == dig B 6 && (dig A 7 == dig B 7 && dig A 8 == dig B 8)))))))
set_option maxHeartbeats 1000000 in
theorem wide_equalN (A B : Nat) (w : World) : (Op.equalIn 10000 145 (.agg (digN A).toArray) (.agg (digN B).toArray)).run Tryz.prog w = .ok (eqN A B) w := by
  have u3 := Tryz.underlying3
  have a3 := Tryz.isAgg3
  have z3 := Tryz.sizeOf3
  have ei : ∀ a b : Nat, ((a : Int) = (b : Int)) = (a = b) := fun a b => propext Int.ofNat_inj
  unfold digN
  rw [show (10000 : Nat) = 9999 + 1 from rfl, Op.equalIn]
  simp only [Sem.run_bind, run_underlying Tryz.underlying145, Result.andThen_ok]
  simp only [Std.Legacy.Range.forIn_eq_forIn_range', Std.Legacy.Range.size, Nat.sub_zero, Nat.add_sub_cancel, Nat.div_one, List.range'_succ, List.range'_zero, List.forIn_cons, List.forIn_nil]
  go_simp
  unfold eqN
  (repeat' split) <;> simp_all
@[go_sem] theorem run_neqN (x y : Operand) (A B : Nat) (w : World) : (neqW x y (.agg (digN A).toArray) (.agg (digN B).toArray)).run Tryz.prog w = .ok (.value (.bool (!eqN A B))) w := by
  have := wide_equalN A B w
  unfold neqW
  go_simp
def eqlW (x y : Operand) (a b : Value) : Sem Next := do
  let v ← (do eqGuard .eql 145 x y a b; binOp .eql 145 a b)
  pure (.value v)
@[go_sem ↓ high] theorem execOp_eqlW (ρ : Operand → Value) (dst : Option Tmp) (x y : Operand) (r ty : TypeId) (pos : String) (after : Array Edge) (guard : Option (Nat × Bool)) :
    execOp ρ ⟨dst, .binOp .eql 145 x y r, ty, pos, after, guard⟩ = eqlW x y (ρ x) (ρ y) := rfl
@[go_sem high] theorem execOp_eqlW' (ρ : Operand → Value) (dst : Option Tmp) (x y : Operand) (r ty : TypeId) (pos : String) (after : Array Edge) (guard : Option (Nat × Bool)) :
    execOp ρ ⟨dst, .binOp .eql 145 x y r, ty, pos, after, guard⟩ = eqlW x y (ρ x) (ρ y) := rfl
@[go_sem] theorem run_eqlN (x y : Operand) (A B : Nat) (w : World) : (eqlW x y (.agg (digN A).toArray) (.agg (digN B).toArray)).run Tryz.prog w = .ok (.value (.bool (eqN A B))) w := by
  have := wide_equalN A B w
  unfold eqlW
  go_simp
theorem eqN_iff {A B : Nat} (hA : A < 2 ^ 144) (hB : B < 2 ^ 144) : eqN A B = decide (A = B) := by
  by_cases h : A = B
  · subst h; simp [eqN]
  · rw [decide_eq_false h]
    cases hw : eqN A B
    · rfl
    · exfalso
      unfold eqN at hw
      simp only [Bool.and_eq_true, beq_iff_eq] at hw
      obtain ⟨a0, a1, a2, a3, a4, a5, a6, a7, a8⟩ := hw
      apply h
      have hd : ∀ j, j < 9 → dig A j = dig B j := fun j hj => by
        match j, hj with
        | 0, _ => exact a0
        | 1, _ => exact a1
        | 2, _ => exact a2
        | 3, _ => exact a3
        | 4, _ => exact a4
        | 5, _ => exact a5
        | 6, _ => exact a6
        | 7, _ => exact a7
        | 8, _ => exact a8
      have step : ∀ j, j ≤ 9 → A / 2 ^ (16 * (9 - j)) = B / 2 ^ (16 * (9 - j)) := fun j => by
        induction j with
        | zero => intro _; show A / 2 ^ 144 = B / 2 ^ 144; rw [Nat.div_eq_of_lt hA, Nat.div_eq_of_lt hB]
        | succ j ih =>
          intro hj
          have i := ih (by omega)
          rw [show 9 - j = (9 - (j + 1)) + 1 by omega] at i
          exact (cmpN_step A B _ i).1 (hd _ (by omega))
      have := step 9 (Nat.le_refl _)
      simpa using this

theorem and16z (x : Int) (h1 : -9223372036854775808 ≤ x) (h2 : x < 9223372036854775808) : bits .and .i64 x 65535 = x % 65536 := by
  have hm : (BitVec.ofInt 64 65535).toNat = 2 ^ 16 - 1 := by decide
  have key : (BitVec.ofInt 64 x &&& BitVec.ofInt 64 65535).toNat = (x % ((2 ^ 64 : Nat) : Int)).toNat % 2 ^ 16 := by
    rw [BitVec.toNat_and, BitVec.toNat_ofInt, hm, Nat.and_two_pow_sub_one_eq_mod]
  show IntKind.i64.wrap ((BitVec.ofInt 64 x &&& BitVec.ofInt 64 65535).toNat : Nat) = x % 65536
  rw [key, IntKind.wrap_i64]
  omega

theorem plus_digit {W S : Nat} {c : Int} {j : Nat} (h : c + ((W / 2 ^ (16 * j) : Nat) : Int) = ((S / 2 ^ (16 * j) : Nat) : Int)) :
    (c + (dig W j : Nat)) % 65536 = (dig S j : Nat) ∧ (c + (dig W j : Nat)) / 65536 + ((W / 2 ^ (16 * (j + 1)) : Nat) : Int) = ((S / 2 ^ (16 * (j + 1)) : Nat) : Int) := by
  have e : ∀ V : Nat, V / 2 ^ (16 * (j + 1)) = V / 2 ^ (16 * j) / 65536 := fun V => by
    rw [Nat.div_div_eq_div_mul, show 16 * (j + 1) = 16 * j + 16 by omega, Nat.pow_add]
  rw [e, e]
  unfold dig
  generalize W / 2 ^ (16 * j) = a at *
  generalize S / 2 ^ (16 * j) = b at *
  constructor <;> omega
def mixD (W S k j : Nat) : Nat := if j < k then dig S j else dig W j
def mixN (W S k : Nat) : List Value := [.int .i64 (mixD W S k 0 : Nat), .int .i64 (mixD W S k 1 : Nat), .int .i64 (mixD W S k 2 : Nat), .int .i64 (mixD W S k 3 : Nat), .int .i64 (mixD W S k 4 : Nat), .int .i64 (mixD W S k 5 : Nat), .int .i64 (mixD W S k 6 : Nat), .int .i64 (mixD W S k 7 : Nat), .int .i64 (mixD W S k 8 : Nat)]
theorem mixN_get (W S k : Nat) (j : Nat) (hj : j < 9) : (mixN W S k)[j]? = some (.int .i64 (mixD W S k j : Nat)) := by
  match j, hj with
  | 0, _ => rfl
  | 1, _ => rfl
  | 2, _ => rfl
  | 3, _ => rfl
  | 4, _ => rfl
  | 5, _ => rfl
  | 6, _ => rfl
  | 7, _ => rfl
  | 8, _ => rfl
theorem mixN_nine (W S : Nat) : mixN W S 9 = digN S := rfl
theorem mixN_here (W S k : Nat) (hk : k < 9) : (mixN W S k)[k]? = some (.int .i64 (dig W k : Nat)) := by
  rw [mixN_get W S k k hk]; unfold mixD; rw [if_neg (Nat.lt_irrefl k)]
theorem mixN_set (W S k : Nat) (hk : k < 9) : (mixN W S k).set k (.int .i64 (dig S k : Nat)) = mixN W S (k + 1) := by
  apply List.ext_getElem?
  intro i
  by_cases hi : i < 9
  · rw [mixN_get W S (k + 1) i hi, List.getElem?_set]
    by_cases e : k = i
    · subst e
      rw [if_pos rfl, if_pos (show k < (mixN W S k).length from hk)]
      unfold mixD; rw [if_pos (Nat.lt_succ_self k)]
    · rw [if_neg e, mixN_get W S k i hi]
      unfold mixD
      by_cases g : i < k
      · rw [if_pos g, if_pos (by omega)]
      · rw [if_neg g, if_neg (by omega)]
  · rw [List.getElem?_eq_none (by rw [List.length_set]; show 9 ≤ i; omega), List.getElem?_eq_none (by show 9 ≤ i; omega)]

set_option maxHeartbeats 2000000 in
theorem plus_any (W S : Nat) (n : Int) (w : World) (hn1 : -65536 ≤ n) (hn2 : n ≤ 65536) (hS : n + (W : Int) = (S : Int)) :
    Calls Tryz.prog 90 #[wA W, .int .i64 n] w (GivesV (wA S) w) := by
  obtain ⟨h1, h2⟩ := two_new w (digN W) [.int .i64 0, .int .i64 0, .int .i64 0, .int .i64 0, .int .i64 0, .int .i64 0, .int .i64 0, .int .i64 0, .int .i64 0] 145 145
  have hG := below_two w (.cells (digN W).toArray 145) (.cells #[.int .i64 0, .int .i64 0, .int .i64 0, .int .i64 0, .int .i64 0, .int .i64 0, .int .i64 0, .int .i64 0, .int .i64 0] 145)
  go_enter Tryz.func90, Tryz.ntmps90
  go_wp2_with fail
  go_loopw [1, 6] (fun c i wr => ∃ (k : Nat) (z : Int), k ≤ 9 ∧ i = .int .i64 k ∧ c = .int .i64 z ∧ -65537 ≤ z ∧ z ≤ 65537 ∧ Hid (z + ((W / 2 ^ (16 * k) : Nat) : Int) = ((S / 2 ^ (16 * k) : Nat) : Int)) ∧ Blk wr w.heap.size (mixN W S k) 145 ∧ Blk wr (w.heap.size + 1) [.int .i64 0, .int .i64 0, .int .i64 0, .int .i64 0, .int .i64 0, .int .i64 0, .int .i64 0, .int .i64 0, .int .i64 0] 145 ∧ Below w.heap.size w wr) (fun _ i _ => 9 - (intOf i).toNat)
  case atStart => exact ⟨0, n, by omega, rfl, rfl, by omega, by omega, Lib.hid (by simpa using hS), h1, h2, hG⟩
  case round =>
    clear h1 h2 hG
    obtain ⟨k, z, hk, rfl, rfl, hz1, hz2, hc, hx, hy, hb⟩ := hrel
    by_cases hlt : k < 9
    · obtain ⟨d1, d2⟩ := plus_digit hc.out
      have hd := dig_lt W k
      have q := hx.cell (mixN_here W S k hlt)
      have fq := hx.free k
      have d3 := mixN_set W S k hlt
      have hx0 : 0 ≤ ((dig W k : Nat) : Int) ∧ ((dig W k : Nat) : Int) < 65536 := by omega
      generalize ((dig W k : Nat) : Int) = X at *
      have hA := (and16z (z + X) (by omega) (by omega)).trans d1
      have hW : IntKind.i64.wrap (z + X) = z + X := IntWalk.i64_in _ (by omega)
      have hx9 := hx.set k (.int .i64 (dig S k : Nat))
      rw [d3] at hx9
      have hy9 := hy.other (a := ⟨w.heap.size, k, none⟩) (by show w.heap.size + 1 ≠ w.heap.size; omega) (.int .i64 (dig S k : Nat))
      have hb9 := hb.setCell (p := ⟨w.heap.size, k, none⟩) (Nat.le_refl _) (.int .i64 (dig S k : Nat))
      have hlt' : (k : Int) < 9 := by omega
      have d2 := Lib.hid d2
      have hz3 := Lib.hid (show -65537 ≤ (z + X) / 65536 ∧ (z + X) / 65536 ≤ 65537 by omega)
      clear hd hx hy hb d1 d3 hc
      generalize ((dig S k : Nat) : Int) = Y at *
      go_wp2_with fail
      go_roundw
      case rel => exact ⟨k + 1, (z + X) / 65536, by omega, by go_num, rfl, hz3.out.1, hz3.out.2, d2, hx9, hy9, hb9⟩
      case measure => simp [intOf]; omega
    · have hk9 : k = 9 := by omega
      subst hk9
      rw [mixN_nine] at hx
      have l1 := hx.ld rowW rfl
      have S1 := stT_row rowW hy rfl (digN_len S) (digN_one S)
      go_wp2_with fail
      refine bodyPost_ret (v := wA S) (results_row rowW rfl _ _ _ _ _ rfl (hy.row (digN S)) rfl) rfl ⟨rfl, below_row hb (by omega) _⟩
theorem addr_w (W : Nat) (w : World) (hW : W < 2 ^ 129) : Calls Tryz.prog 85 #[wA W] w (GivesV (adA (adOf W)) w) := by
  rw [wA_adOf hW]
  exact waddr_any (W % 2 ^ 128) (decide (2 ^ 128 ≤ W)) w (Nat.mod_lt _ (by decide))
end Go.Proofs.YtmgdkefoehlamaaGreatDoor
