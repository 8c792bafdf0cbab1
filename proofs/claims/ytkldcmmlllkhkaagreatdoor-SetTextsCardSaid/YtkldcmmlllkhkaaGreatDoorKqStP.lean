/- Sets: the reference joins spans. -/
import Derived.Test.YtkldcmmlllkhkaaGreatDoorKqGzA
import Derived.Test.YtkldcmmlllkhkaaGreatDoorKqStO
set_option linter.unusedVariables false
set_option linter.unusedSimpArgs false
set_option maxRecDepth 100000
namespace Go.Proofs.YtkldcmmlllkhkaaGreatDoor
open Go.RowKit

theorem OwnE.cell' {α : Type} {E : Enc α} {t : TypeId} {k : Nat} (hk : E.k = k) {w : World} {B g n cap : Nat} {xs : List α} (h : OwnE E t B w (.slice (some ⟨g, 0, none⟩) n cap) xs) {j : Nat} {x : α} (hx : xs[j]? = some x) {i : Nat} {v : Value} (hv : (E.enc x)[i]? = some v) : w.cell? ⟨g, j * k + i, none⟩ = some v := by
  subst hk; exact h.cell hx hv
theorem OwnE.setLast' {α : Type} {E : Enc α} {t : TypeId} {k o : Nat} (hk : E.k = k) {w : World} {B g n cap : Nat} {xs : List α} {x x' : α} (h : OwnE E t B w (.slice (some ⟨g, 0, none⟩) n cap) (xs ++ [x])) (hn : n = (xs ++ [x]).length) (a old cs b : List Value) (ho : a.length = o) (h1 : E.enc x = a ++ (old ++ b)) (h2 : E.enc x' = a ++ (cs ++ b)) (hl : old.length = cs.length) :
    OwnE E t B (w.setCells g (xs.length * k + o) cs) (.slice (some ⟨g, 0, none⟩) n cap) (xs ++ [x']) := by
  subst hk; subst ho; exact h.setLast hn a old cs b h1 h2 hl
theorem stT_own' {α : Type} {E : Enc α} {t t' : TypeId} {m k : Nat} (T : RowT t' m) (hk : E.k = k) {w : World} {B g n cap : Nat} {xs : List α} {x : α} (h : OwnE E t B w (.slice (some ⟨g, 0, none⟩) n cap) xs) {j : Nat} (hx : xs[j]? = some x) (o : Nat) (cs : List Value) (ho : o + m ≤ k) (hl : cs.length = m) (h1 : ∀ v ∈ cs, v.oneCell' = true) :
    (stT t' (.pointer (some ⟨g, j * k + o, none⟩)) (.agg cs.toArray)).run Tryz.prog w = .ok .skip (w.setCells g (j * k + o) cs) := by
  subst hk; exact stT_own T h hx o cs ho hl h1
theorem Ad.R.dig_six {a : Ad} (h : a.R) : ((dig a.n 8 : Nat) : Int) = b2i a.s := dig_top a.s h.1.v_lt

set_option maxHeartbeats 4000000 in
theorem joinSp_any (A : Option Addr) (n cap : Nat) (xs : List (Ad × Ad)) (w : World) (hS : SlE eSp w A n cap xs) (hn : n ≤ 100000) (hR : ∀ x ∈ xs, RgR x) :
    Calls Tryz.prog 81 #[.slice A n cap] w fun e w' => ∃ ys, Joined ys xs ∧ ys.length ≤ n ∧ GivesL eSp w.heap.size ys e w' ∧ Below w.heap.size w w' := by
  have hpl := Lib.hid hS.1
  have hCl := Lib.hid (cloneSp_any A n cap xs w hS (by omega))
  clear hS
  replace hR := Lib.hid hR
  go_enter Tryz.func81, Tryz.ntmps81
  go_wp2_with fail
  refine hCl.out.mono ?_
  rintro e w1 ⟨v', rfl, hown, hb1⟩
  clear hCl
  have hSo := Lib.hid (sortSp_any w.heap.size v' xs w1 hown (fun x hx => ⟨(hR.out x hx).1.1, (hR.out x hx).2.1.1⟩) hb1.size (by rw [← hpl.out]; omega))
  clear hown
  go_wp2_with fail
  refine hSo.out.mono ?_
  rintro e w2 ⟨rfl, qs, hperm, hsort, ⟨A1, cap1, hv1, hSl, hA1⟩, hb2⟩
  subst hv1
  have hb2 := hb1.trans hb2
  have hql : qs.length = n := by rw [hperm.length_eq, ← hpl.out]
  have hq := Lib.hid (show ∀ x ∈ qs, RgR x from fun x hx => hR.out x (hperm.mem_iff.1 hx))
  have hw2 := hb2.size
  rw [hql] at hSl ⊢
  replace hSl := Lib.hid hSl
  replace hperm := Lib.hid hperm
  replace hsort := Lib.hid hsort
  replace hA1 := Lib.hid hA1
  replace hql := Lib.hid hql
  clear hb1 hSo hR hpl
  go_wp2_with fail
  go_loopw [3, 13] (fun o i wr => ∃ (k : Nat) (J : List (Ad × Ad)), k ≤ n ∧ i = .int .i64 k ∧ OwnE eSp 106 w2.heap.size wr o J.reverse ∧ Below w2.heap.size w2 wr ∧ Hid (JA J (qs.take k)) ∧ Hid (J.length ≤ k)) (fun _ i _ => n - (intOf i).toNat)
  case atStart => exact ⟨0, [], by omega, rfl, OwnE.nil _ _, Below.refl _ _, Lib.hid (by simpa using JA.nil), Lib.hid (by simp)⟩
  case round =>
    obtain ⟨k, J, hk, rfl, hown, hbw, hJ, hRl⟩ := hrel
    by_cases hlt : k < n
    · obtain ⟨x, hx⟩ : ∃ x, qs[k]? = some x := ⟨qs[k]'(by have := hql.out; omega), List.getElem?_eq_getElem _⟩
      obtain ⟨g0, off, rfl, hg0, hc0⟩ := hSl.out.at' hlt
      have hld := SlE.ld rowSp (hSl.out.below hbw) hx
      replace hld : (ldT 106 (.pointer (some ⟨g0, off + k * 18, none⟩))).run Tryz.prog wr = .ok (.value (spA x)) wr := hld
      have hxR := hq.out x (List.mem_of_getElem? hx)
      have hle := take_leA hsort.out hx
      have hlt' : (k : Int) < n := by omega
      have hsw := hbw.size
      have hJ2 : Hid (JA (joinA J x) (qs.take (k + 1))) := Lib.hid (by
        rw [List.take_add_one, hx]; exact hJ.out.step hxR hle)
      have S1 := stT_new rowSp (te := 106) wr wr.heap.size rfl [.int .i64 0, .int .i64 0, .int .i64 0, .int .i64 0, .int .i64 0, .int .i64 0, .int .i64 0, .int .i64 0, .int .i64 0, .int .i64 0, .int .i64 0, .int .i64 0, .int .i64 0, .int .i64 0, .int .i64 0, .int .i64 0, .int .i64 0, .int .i64 0] (spC x) rfl rfl (spC_one x)
      have hJ0 := hJ
      clear hc0 hx hJ
      have hC := Blk.new wr (spC x) 106
      replace hown := hown.alloc' (.cells (spC x).toArray 106)
      replace hbw := hbw.alloc hsw (.cells (spC x).toArray 106)
      cases J with
      | nil =>
        obtain ⟨Ao, co, rfl, _⟩ := hown.sl
        replace hJ2 : Hid (JA [x] (qs.take (k + 1))) := hJ2
        as_aux_lemma =>
        go_wp2_with fail
        refine wx_begin (none) [] (by kernel_rfl) (fun u0 hb0' hz0' => ?_)
        replace hC := hC.below hb0'
        replace hown := hown.below hb0'
        replace hbw := hbw.trans (hb0'.mono hbw.size)
        clear hb0' hz0'
        refine wx_pureZ 0 (some 20) (v := ?_) ?_ ?_; rotate_left; · (intro u; go_simp; try with_reducible rfl)
        try simp only [Act.put, gzD, gzE, gzF]
        refine wx_pureZ 1 (some 21) (v := ?_) ?_ ?_; rotate_left; · (intro u; go_simp; try with_reducible rfl)
        try simp only [Act.put, gzD, gzE, gzF]
        refine wx_pureZ 2 (some 22) (v := ?_) ?_ ?_; rotate_left; · (intro u; go_simp; try with_reducible rfl)
        try simp only [Act.put, gzD, gzE, gzF]
        refine wx_skipZ 3 (some 23) ?_
        try simp only [Act.put, gzD, gzE, gzF]
        refine wx_skipZ 4 (some 24) ?_
        try simp only [Act.put, gzD, gzE, gzF]
        refine wx_skipZ 5 (some 25) ?_
        try simp only [Act.put, gzD, gzE, gzF]
        refine wx_skipZ 6 (some 26) ?_
        try simp only [Act.put, gzD, gzE, gzF]
        refine wx_skipZ 7 (some 27) ?_
        try simp only [Act.put, gzD, gzE, gzF]
        refine wx_skipZ 8 (some 28) ?_
        try simp only [Act.put, gzD, gzE, gzF]
        refine wx_skipZ 9 (some 29) ?_
        try simp only [Act.put, gzD, gzE, gzF]
        refine wx_skipZ 10 (some 30) ?_
        try simp only [Act.put, gzD, gzE, gzF]
        refine wx_skipZ 11 (some 31) ?_
        try simp only [Act.put, gzD, gzE, gzF]
        refine wx_skipZ 12 (some 32) ?_
        try simp only [Act.put, gzD, gzE, gzF]
        refine wx_pureZ 13 (some 33) (v := ?_) ?_ ?_; rotate_left; · (intro u; go_simp; try with_reducible rfl)
        try simp only [Act.put, gzD, gzE, gzF]
        refine wx_pureZ 14 (some 34) (v := ?_) ?_ ?_; rotate_left; · (intro u; go_simp; try with_reducible rfl)
        try simp only [Act.put, gzD, gzE, gzF]
        refine wx_skipZ 15 (some 35) ?_
        try simp only [Act.put, gzD, gzE, gzF]
        refine wx_skipZ 16 (some 36) ?_
        try simp only [Act.put, gzD, gzE, gzF]
        refine wx_skipZ 17 (some 37) ?_
        try simp only [Act.put, gzD, gzE, gzF]
        refine wx_skipZ 18 (some 38) ?_
        try simp only [Act.put, gzD, gzE, gzF]
        refine wx_skipZ 19 (some 39) ?_
        try simp only [Act.put, gzD, gzE, gzF]
        refine wx_skipZ 20 (some 40) ?_
        try simp only [Act.put, gzD, gzE, gzF]
        refine wx_skipZ 21 (some 41) ?_
        try simp only [Act.put, gzD, gzE, gzF]
        refine wx_skipZ 22 (some 42) ?_
        try simp only [Act.put, gzD, gzE, gzF]
        refine wx_skipZ 23 (some 43) ?_
        try simp only [Act.put, gzD, gzE, gzF]
        refine wx_skipZ 24 (some 44) ?_
        try simp only [Act.put, gzD, gzE, gzF]
        refine wx_pureZ 25 (some 45) (v := ?_) ?_ ?_; rotate_left; · (intro u; go_simp; try with_reducible rfl)
        try simp only [Act.put, gzD, gzE, gzF]
        refine wx_done (by kernel_rfl) ?_ _
        skip
        have hz := hbw.size
        have k1 := hC.ld rowSp rfl
        go_wp2_with (at_builtin; refine wpList_app tyeSp rfl _ _ rfl w2.heap.size _ _ [x] rfl (hown.alloc' _) ⟨_, 0, none⟩ 1 1 rfl rfl ?c1 ?c2 ?c3 ?_)
        case c1 => first | exact cell_row_at _ _ _ _ rfl | (intro j u hj; rw [eSp.cells_single] at hj; exact hj)
        case c2 => have := hRl.out; simp only [List.length_reverse, List.length_singleton, List.length_append, List.length_cons, List.length_nil] at this ⊢; omega
        case c3 => first | omega | (simp; done) | (simp; omega)
        intro v3 x3 hown3 hg3 _
        have hb3 : Below w2.heap.size w2 x3 := (hbw.alloc hbw.size _).grown hg3 (by first | omega | (simp; done) | (simp; omega)) (fun k h => (hown.lt k h).1)
        clear hg3 hown hbw
        go_wp2_with fail
        go_roundw
        case rel => exact ⟨k + 1, [x], by omega, by go_num, hown3, hb3, hJ2, Lib.hid (by simp)⟩
        case measure => simp [intOf]; omega
      | cons y r =>
        have hyx : y.1.n ≤ x.1.n := hJ0.out.first hle
        have hyR := hJ0.out.2 y List.mem_cons_self
        have hyn := hyR.n_lt
        have hxn := hxR.n_lt
        have HP := fun w' => Lib.hid (plus_any y.2.n (y.2.n + 1) 1 w' (by decide) (by decide) (by omega))
        have HC1 := fun w' => Lib.hid (wcmp_d x.1.n (y.2.n + 1) w' (by omega) (by omega))
        have HC2 := fun w' => Lib.hid (wcmp_d x.2.n y.2.n w' (by omega) (by omega))
        have hst := hyR.s_touch hxR hyx
        obtain ⟨Dx, hDx⟩ : ∃ D : Int, Hid (((dig x.1.n 8 : Nat) : Int) = D) := ⟨_, Lib.hid rfl⟩
        obtain ⟨Dy, hDy⟩ : ∃ D : Int, Hid (((dig y.1.n 8 : Nat) : Int) = D) := ⟨_, Lib.hid rfl⟩
        have hDs : Hid (x.1.s = y.1.s ↔ Dy = Dx) := Lib.hid (by
          have e1 := hDx.out
          have e2 := hDy.out
          rw [hxR.1.dig_six] at e1
          rw [hyR.1.dig_six] at e2
          rw [← e1, ← e2]
          cases x.1.s <;> cases y.1.s <;> decide)
        have hcl := cmpN_le x.1.n (y.2.n + 1)
        have hcg := Lib.hid (cmpN_gt x.2.n y.2.n)
        rw [List.reverse_cons] at hown
        obtain ⟨g, co, rfl, hg1, hg2, hco, _, _⟩ := hown.form (by simp)
        obtain ⟨t, ht⟩ : ∃ t : Int, (r.length : Int) = t := ⟨_, rfl⟩
        obtain ⟨L, hL⟩ : ∃ L, L = (r.reverse ++ [y]).length := ⟨_, rfl⟩
        have hL1 : L = r.length + 1 := by rw [hL]; simp
        have hkk : r.length + 1 ≤ k := hRl.out
        have ht0 : 0 ≤ t := by omega
        have ht1 : t < 100000 := by omega
        have htn := Lib.hid (show r.reverse.length = t.toNat by rw [List.length_reverse]; omega)
        have hrl : (L : Int) - 1 = t := by omega
        have hwt : IntKind.i64.wrap t = t := IntWalk.i64_in _ (by omega)
        have hrl2 : t < (L : Int) := by omega
        rw [← hL] at hown hco ⊢
        replace hL := Lib.hid hL
        replace hL1 := Lib.hid hL1
        clear ht hkk hyx hle hyn hxn
        by_cases hDD : Dy = Dx
        · have c0 : (Dy == Dx) = true := by simp [hDD]
          clear hst hDs hDD
          obtain ⟨c, hc⟩ : ∃ c, c = cmpN x.1.n (y.2.n + 1) := ⟨_, rfl⟩
          obtain ⟨c2, hc2⟩ : ∃ c, c = cmpN x.2.n y.2.n := ⟨_, rfl⟩
          rw [← hc] at hcl HC1
          rw [← hc2] at hcg HC2
          replace hcl := Lib.hid hcl
          clear hc hc2
          go_wp2_with fail
          refine wx_begin (none) [] (by kernel_rfl) (fun u0 hb0' hz0' => ?_)
          replace hC := hC.below hb0'
          replace hown := hown.below hb0'
          replace hbw := hbw.trans (hb0'.mono hbw.size)
          clear hb0' hz0'
          refine wx_pureZ 0 (some 20) (v := ?_) ?_ ?_; rotate_left; · (intro u; go_simp; try with_reducible rfl)
          try simp only [Act.put, gzD, gzE, gzF]
          refine wx_pureZ 1 (some 21) (v := ?_) ?_ ?_; rotate_left; · (intro u; go_simp; try with_reducible rfl)
          try simp only [Act.put, gzD, gzE, gzF]
          refine wx_pureZ 2 (some 22) (v := ?_) ?_ ?_; rotate_left; · (intro u; go_simp; try with_reducible rfl)
          try simp only [Act.put, gzD, gzE, gzF]
          refine wx_pureZ 3 (some 23) (v := ?_) ?_ ?_; rotate_left; · (intro u; go_simp; try with_reducible rfl)
          try simp only [Act.put, gzD, gzE, gzF]
          refine wx_pureZ 4 (some 24) (v := ?_) ?_ ?_; rotate_left; · (intro u; go_simp; try with_reducible rfl)
          try simp only [Act.put, gzD, gzE, gzF]
          refine wx_pureZ 5 (some 25) (v := ?_) ?_ ?_; rotate_left; · (intro u; go_simp; try with_reducible rfl)
          try simp only [Act.put, gzD, gzE, gzF]
          refine wx_pureZ 6 (some 26) (v := ?_) ?_ ?_; rotate_left; · (intro u; go_simp; try with_reducible rfl)
          try simp only [Act.put, gzD, gzE, gzF]
          refine wx_pureZ 7 (some 27) (v := ?_) ?_ ?_; rotate_left; · (intro u; go_simp; try with_reducible rfl)
          try simp only [Act.put, gzD, gzE, gzF]
          refine wx_takeZ 8 (some 28) (v := ?_) ?_ ?_; rotate_left; · (intro u hu; have hou := hown.gb hu (.inr (by simp [Value.ownBlock])); have kc := hC.gn hu; have k1 := kc.cell (i := 8) (v := .int .i64 (dig x.1.n 8)) rfl; have k2 := hou.cell' (k := 18) rfl (last_get _ _) (i := 8) (v := .int .i64 (dig y.1.n 8)) rfl; have k3 := kc.ldAt rowW 0 (digN x.1.n) (digN x.2.n) rfl rfl; have k4 := hou.ldAt rowW (k := 18) rfl (last_get _ _) 9 (digN y.2.n) [] rfl rfl; rw [htn.out] at k2 k4; rw [hDx.out] at k1; rw [hDy.out] at k2; clear hou kc; go_simp; try with_reducible rfl)
          try simp only [Act.put, gzD, gzE, gzF]
          refine wx_pureZ 9 (some 29) (v := ?_) ?_ ?_; rotate_left; · (intro u; go_simp; try with_reducible rfl)
          try simp only [Act.put, gzD, gzE, gzF]
          refine wx_pureZ 10 (some 30) (v := ?_) ?_ ?_; rotate_left; · (intro u; go_simp; try with_reducible rfl)
          try simp only [Act.put, gzD, gzE, gzF]
          refine wx_takeZ 11 (some 31) (v := ?_) ?_ ?_; rotate_left; · (intro u hu; have hou := hown.gb hu (.inr (by simp [Value.ownBlock])); have kc := hC.gn hu; have k1 := kc.cell (i := 8) (v := .int .i64 (dig x.1.n 8)) rfl; have k2 := hou.cell' (k := 18) rfl (last_get _ _) (i := 8) (v := .int .i64 (dig y.1.n 8)) rfl; have k3 := kc.ldAt rowW 0 (digN x.1.n) (digN x.2.n) rfl rfl; have k4 := hou.ldAt rowW (k := 18) rfl (last_get _ _) 9 (digN y.2.n) [] rfl rfl; rw [htn.out] at k2 k4; rw [hDx.out] at k1; rw [hDy.out] at k2; clear hou kc; go_simp; try with_reducible rfl)
          try simp only [Act.put, gzD, gzE, gzF]
          refine wx_pureZ 12 (some 32) (v := ?_) ?_ ?_; rotate_left; · (intro u; go_simp; try with_reducible rfl)
          try simp only [Act.put, gzD, gzE, gzF]
          refine wx_pureZ 13 (some 33) (v := ?_) ?_ ?_; rotate_left; · (intro u; go_simp; try with_reducible rfl)
          try simp only [Act.put, gzD, gzE, gzF]
          refine wx_pureZ 14 (some 34) (v := ?_) ?_ ?_; rotate_left; · (intro u; go_simp; try with_reducible rfl)
          try simp only [Act.put, gzD, gzE, gzF]
          refine wx_pureZ 15 (some 35) (v := ?_) ?_ ?_; rotate_left; · (intro u; go_simp; try with_reducible rfl)
          try simp only [Act.put, gzD, gzE, gzF]
          refine wx_takeZ 16 (some 36) (v := ?_) ?_ ?_; rotate_left; · (intro u hu; have hou := hown.gb hu (.inr (by simp [Value.ownBlock])); have kc := hC.gn hu; have k1 := kc.cell (i := 8) (v := .int .i64 (dig x.1.n 8)) rfl; have k2 := hou.cell' (k := 18) rfl (last_get _ _) (i := 8) (v := .int .i64 (dig y.1.n 8)) rfl; have k3 := kc.ldAt rowW 0 (digN x.1.n) (digN x.2.n) rfl rfl; have k4 := hou.ldAt rowW (k := 18) rfl (last_get _ _) 9 (digN y.2.n) [] rfl rfl; rw [htn.out] at k2 k4; rw [hDx.out] at k1; rw [hDy.out] at k2; clear hou kc; go_simp; try with_reducible rfl)
          try simp only [Act.put, gzD, gzE, gzF]
          refine wx_pureZ 17 (some 37) (v := ?_) ?_ ?_; rotate_left; · (intro u; go_simp; try with_reducible rfl)
          try simp only [Act.put, gzD, gzE, gzF]
          refine wx_pureZ 18 (some 38) (v := ?_) ?_ ?_; rotate_left; · (intro u; go_simp; try with_reducible rfl)
          try simp only [Act.put, gzD, gzE, gzF]
          refine wx_pureZ 19 (some 39) (v := ?_) ?_ ?_; rotate_left; · (intro u; go_simp; try with_reducible rfl)
          try simp only [Act.put, gzD, gzE, gzF]
          refine wx_pureZ 20 (some 40) (v := ?_) ?_ ?_; rotate_left; · (intro u; go_simp; try with_reducible rfl)
          try simp only [Act.put, gzD, gzE, gzF]
          refine wx_takeZ 21 (some 41) (v := ?_) ?_ ?_; rotate_left; · (intro u hu; have hou := hown.gb hu (.inr (by simp [Value.ownBlock])); have kc := hC.gn hu; have k1 := kc.cell (i := 8) (v := .int .i64 (dig x.1.n 8)) rfl; have k2 := hou.cell' (k := 18) rfl (last_get _ _) (i := 8) (v := .int .i64 (dig y.1.n 8)) rfl; have k3 := kc.ldAt rowW 0 (digN x.1.n) (digN x.2.n) rfl rfl; have k4 := hou.ldAt rowW (k := 18) rfl (last_get _ _) 9 (digN y.2.n) [] rfl rfl; rw [htn.out] at k2 k4; rw [hDx.out] at k1; rw [hDy.out] at k2; clear hou kc; go_simp; try with_reducible rfl)
          try simp only [Act.put, gzD, gzE, gzF]
          refine wx_oneZ 22 (fun K hK => ?_)
          go_simp
          refine (HP _).out.mono ?_
          rintro e u1 ⟨rfl, hv1⟩
          refine hK _ _ (gbB hv1) ?_
          replace hC := hC.below hv1
          replace hown := hown.below hv1
          replace hbw := hbw.trans (hv1.mono hbw.size)
          clear hK K hv1
          try simp only [Act.put, gzD, gzE, gzF]
          refine wx_oneZ 23 (fun K hK => ?_)
          go_simp
          refine (HC1 _).out.mono ?_
          rintro e u2 ⟨rfl, hg2'⟩
          have hv1 := hg2'.below
          refine hK _ _ hg2'.1 ?_
          replace hC := hC.below hv1
          replace hown := hown.below hv1
          replace hbw := hbw.trans (hv1.mono hbw.size)
          clear hK K hv1 hg2'
          try simp only [Act.put, gzD, gzE, gzF]
          refine wx_pureZ 24 (some 44) (v := ?_) ?_ ?_; rotate_left; · (intro u; go_simp; try with_reducible rfl)
          try simp only [Act.put, gzD, gzE, gzF]
          refine wx_pureZ 25 (some 45) (v := ?_) ?_ ?_; rotate_left; · (intro u; go_simp; try with_reducible rfl)
          try simp only [Act.put, gzD, gzE, gzF]
          refine wx_done (by kernel_rfl) ?_ _
          skip
          by_cases hqx : y.2.n + 1 < x.1.n
          · have e0 : joinA (y :: r) x = x :: y :: r := if_pos hqx
            rw [e0] at hJ2
            have HV : ¬ c ≤ 0 := by
              have h := hcl.out
              rw [show decide (x.1.n ≤ y.2.n + 1) = false from decide_eq_false (by omega)] at h
              exact of_decide_eq_false h
            clear e0 hqx hcl
            as_aux_lemma =>
            have hz := hbw.size
            have k1 := hC.ld rowSp rfl
            go_wp2_with (at_builtin; refine wpList_app tyeSp rfl _ _ rfl w2.heap.size _ _ [x] rfl (hown.alloc' _) ⟨_, 0, none⟩ 1 1 rfl rfl ?d1 ?d2 ?d3 ?_)
            case d1 => first | exact cell_row_at _ _ _ _ rfl | (intro j u hj; rw [eSp.cells_single] at hj; exact hj)
            case d2 => have := hRl.out; simp only [List.length_reverse, List.length_singleton, List.length_append, List.length_cons, List.length_nil] at this ⊢; omega
            case d3 => first | omega | (simp; done) | (simp; omega)
            intro v3 x3 hown3 hg3 _
            have hb3 : Below w2.heap.size w2 x3 := (hbw.alloc hbw.size _).grown hg3 (by first | omega | (simp; done) | (simp; omega)) (fun k h => (hown.lt k h).1)
            clear hg3 hown hbw
            go_wp2_with fail
            go_roundw
            case rel => exact ⟨k + 1, x :: y :: r, by omega, by go_num, by rw [List.reverse_cons, List.reverse_cons, List.append_assoc]; exact hown3, hb3, hJ2, Lib.hid (by have := hRl.out; simp only [List.length_cons] at *; omega)⟩
            case measure => simp [intOf]; omega
          · have HV : c ≤ 0 := by
              have h := hcl.out
              rw [show decide (x.1.n ≤ y.2.n + 1) = true from decide_eq_true (by omega)] at h
              exact of_decide_eq_true h
            have e0 : joinA (y :: r) x = (y.1, if y.2.n < x.2.n then x.2 else y.2) :: r := if_neg hqx
            rw [e0] at hJ2
            clear e0 hqx hcl
            as_aux_lemma =>
            go_wp2_with fail
            refine wx_begin (none) [] (by kernel_rfl) (fun u0 hb0' hz0' => ?_)
            replace hC := hC.below hb0'
            replace hown := hown.below hb0'
            replace hbw := hbw.trans (hb0'.mono hbw.size)
            clear hb0' hz0'
            refine wx_pureZ 0 (some 46) (v := ?_) ?_ ?_; rotate_left; · (intro u; go_simp; try with_reducible rfl)
            try simp only [Act.put, gzD, gzE, gzF]
            refine wx_takeZ 1 (some 47) (v := ?_) ?_ ?_; rotate_left; · (intro u hu; have hou := hown.gb hu (.inr (by simp [Value.ownBlock])); have kc := hC.gn hu; have k3 := kc.ldAt rowW 9 (digN x.2.n) [] rfl rfl; have k4 := hou.ldAt rowW (k := 18) rfl (last_get _ _) 9 (digN y.2.n) [] rfl rfl; rw [htn.out] at k4; clear hou kc; go_simp; try with_reducible rfl)
            try simp only [Act.put, gzD, gzE, gzF]
            refine wx_pureZ 2 (some 48) (v := ?_) ?_ ?_; rotate_left; · (intro u; go_simp; try with_reducible rfl)
            try simp only [Act.put, gzD, gzE, gzF]
            refine wx_pureZ 3 (some 49) (v := ?_) ?_ ?_; rotate_left; · (intro u; go_simp; try with_reducible rfl)
            try simp only [Act.put, gzD, gzE, gzF]
            refine wx_pureZ 4 (some 50) (v := ?_) ?_ ?_; rotate_left; · (intro u; go_simp; try with_reducible rfl)
            try simp only [Act.put, gzD, gzE, gzF]
            refine wx_pureZ 5 (some 51) (v := ?_) ?_ ?_; rotate_left; · (intro u; go_simp; try with_reducible rfl)
            try simp only [Act.put, gzD, gzE, gzF]
            refine wx_takeZ 6 (some 52) (v := ?_) ?_ ?_; rotate_left; · (intro u hu; have hou := hown.gb hu (.inr (by simp [Value.ownBlock])); have kc := hC.gn hu; have k3 := kc.ldAt rowW 9 (digN x.2.n) [] rfl rfl; have k4 := hou.ldAt rowW (k := 18) rfl (last_get _ _) 9 (digN y.2.n) [] rfl rfl; rw [htn.out] at k4; clear hou kc; go_simp; try with_reducible rfl)
            try simp only [Act.put, gzD, gzE, gzF]
            refine wx_oneZ 7 (fun K hK => ?_)
            go_simp
            refine (HC2 _).out.mono ?_
            rintro e u1 ⟨rfl, hg1'⟩
            have hv1 := hg1'.below
            refine hK _ _ hg1'.1 ?_
            replace hC := hC.below hv1
            replace hown := hown.below hv1
            replace hbw := hbw.trans (hv1.mono hbw.size)
            clear hK K hv1 hg1'
            try simp only [Act.put, gzD, gzE, gzF]
            refine wx_pureZ 8 (some 54) (v := ?_) ?_ ?_; rotate_left; · (intro u; go_simp; try with_reducible rfl)
            try simp only [Act.put, gzD, gzE, gzF]
            refine wx_done (by kernel_rfl) ?_ _
            skip
            by_cases hqy : y.2.n < x.2.n
            · rw [if_pos hqy] at hJ2
              have HV2 : 0 < c2 := by have h := hcg.out; rw [decide_eq_true hqy] at h; exact of_decide_eq_true h
              clear hqy hcg
              have k1 := hC.ldAt rowW 9 (digN x.2.n) [] rfl rfl
              have S2 := stT_own' rowW (E := eSp) (k := 18) rfl hown (last_get _ _) 9 (digN x.2.n) (by decide) (digN_len _) (digN_one _)
              have hset := hown.setLast' (k := 18) (o := 9) (x' := (y.1, x.2)) rfl hL.out (digN y.1.n) (digN y.2.n) (digN x.2.n) [] (digN_len _) (by rw [List.append_nil]; rfl) (by rw [List.append_nil]; rfl) ((digN_len _).trans (digN_len _).symm)
              have hb3 := below_setC hg1 (digN x.2.n) (r.reverse.length * 18 + 9) _ hbw
              rw [htn.out] at S2 hset hb3
              clear hown hbw
              go_wp2_with fail
              go_roundw
              case rel => exact ⟨k + 1, (y.1, x.2) :: r, by omega, by go_num, by rw [List.reverse_cons]; exact hset, hb3, hJ2, Lib.hid (by have := hRl.out; simp only [List.length_cons] at *; omega)⟩
              case measure => simp [intOf]; omega
            · rw [if_neg hqy] at hJ2
              have HV2 : ¬ 0 < c2 := by have h := hcg.out; rw [decide_eq_false hqy] at h; exact of_decide_eq_false h
              clear hqy hcg
              go_wp2_with fail
              go_roundw
              case rel => exact ⟨k + 1, y :: r, by omega, by go_num, by rw [List.reverse_cons]; exact hown, hbw, hJ2, Lib.hid (by have := hRl.out; simp only [List.length_cons] at *; omega)⟩
              case measure => simp [intOf]; omega
        · have hqx : y.2.n + 1 < x.1.n := by
            rcases Nat.lt_or_ge (y.2.n + 1) x.1.n with h | h
            · exact h
            · exact absurd (hDs.out.1 (hst h).symm) hDD
          have e0 : joinA (y :: r) x = x :: y :: r := if_pos hqx
          rw [e0] at hJ2
          have c0 : (Dy == Dx) = false := by simp [hDD]
          clear e0 hqx hst hDs hDD hcl
          as_aux_lemma =>
          go_wp2_with fail
          refine wx_begin (none) [] (by kernel_rfl) (fun u0 hb0' hz0' => ?_)
          replace hC := hC.below hb0'
          replace hown := hown.below hb0'
          replace hbw := hbw.trans (hb0'.mono hbw.size)
          clear hb0' hz0'
          refine wx_pureZ 0 (some 20) (v := ?_) ?_ ?_; rotate_left; · (intro u; go_simp; try with_reducible rfl)
          try simp only [Act.put, gzD, gzE, gzF]
          refine wx_pureZ 1 (some 21) (v := ?_) ?_ ?_; rotate_left; · (intro u; go_simp; try with_reducible rfl)
          try simp only [Act.put, gzD, gzE, gzF]
          refine wx_pureZ 2 (some 22) (v := ?_) ?_ ?_; rotate_left; · (intro u; go_simp; try with_reducible rfl)
          try simp only [Act.put, gzD, gzE, gzF]
          refine wx_pureZ 3 (some 23) (v := ?_) ?_ ?_; rotate_left; · (intro u; go_simp; try with_reducible rfl)
          try simp only [Act.put, gzD, gzE, gzF]
          refine wx_pureZ 4 (some 24) (v := ?_) ?_ ?_; rotate_left; · (intro u; go_simp; try with_reducible rfl)
          try simp only [Act.put, gzD, gzE, gzF]
          refine wx_pureZ 5 (some 25) (v := ?_) ?_ ?_; rotate_left; · (intro u; go_simp; try with_reducible rfl)
          try simp only [Act.put, gzD, gzE, gzF]
          refine wx_pureZ 6 (some 26) (v := ?_) ?_ ?_; rotate_left; · (intro u; go_simp; try with_reducible rfl)
          try simp only [Act.put, gzD, gzE, gzF]
          refine wx_pureZ 7 (some 27) (v := ?_) ?_ ?_; rotate_left; · (intro u; go_simp; try with_reducible rfl)
          try simp only [Act.put, gzD, gzE, gzF]
          refine wx_takeZ 8 (some 28) (v := ?_) ?_ ?_; rotate_left; · (intro u hu; have hou := hown.gb hu (.inr (by simp [Value.ownBlock])); have kc := hC.gn hu; have k1 := kc.cell (i := 8) (v := .int .i64 (dig x.1.n 8)) rfl; have k2 := hou.cell' (k := 18) rfl (last_get _ _) (i := 8) (v := .int .i64 (dig y.1.n 8)) rfl; have k3 := kc.ldAt rowW 0 (digN x.1.n) (digN x.2.n) rfl rfl; have k4 := hou.ldAt rowW (k := 18) rfl (last_get _ _) 9 (digN y.2.n) [] rfl rfl; rw [htn.out] at k2 k4; rw [hDx.out] at k1; rw [hDy.out] at k2; clear hou kc; go_simp; try with_reducible rfl)
          try simp only [Act.put, gzD, gzE, gzF]
          refine wx_pureZ 9 (some 29) (v := ?_) ?_ ?_; rotate_left; · (intro u; go_simp; try with_reducible rfl)
          try simp only [Act.put, gzD, gzE, gzF]
          refine wx_pureZ 10 (some 30) (v := ?_) ?_ ?_; rotate_left; · (intro u; go_simp; try with_reducible rfl)
          try simp only [Act.put, gzD, gzE, gzF]
          refine wx_takeZ 11 (some 31) (v := ?_) ?_ ?_; rotate_left; · (intro u hu; have hou := hown.gb hu (.inr (by simp [Value.ownBlock])); have kc := hC.gn hu; have k1 := kc.cell (i := 8) (v := .int .i64 (dig x.1.n 8)) rfl; have k2 := hou.cell' (k := 18) rfl (last_get _ _) (i := 8) (v := .int .i64 (dig y.1.n 8)) rfl; have k3 := kc.ldAt rowW 0 (digN x.1.n) (digN x.2.n) rfl rfl; have k4 := hou.ldAt rowW (k := 18) rfl (last_get _ _) 9 (digN y.2.n) [] rfl rfl; rw [htn.out] at k2 k4; rw [hDx.out] at k1; rw [hDy.out] at k2; clear hou kc; go_simp; try with_reducible rfl)
          try simp only [Act.put, gzD, gzE, gzF]
          refine wx_pureZ 12 (some 32) (v := ?_) ?_ ?_; rotate_left; · (intro u; go_simp; try with_reducible rfl)
          try simp only [Act.put, gzD, gzE, gzF]
          refine wx_pureZ 13 (some 33) (v := ?_) ?_ ?_; rotate_left; · (intro u; go_simp; try with_reducible rfl)
          try simp only [Act.put, gzD, gzE, gzF]
          refine wx_pureZ 14 (some 34) (v := ?_) ?_ ?_; rotate_left; · (intro u; go_simp; try with_reducible rfl)
          try simp only [Act.put, gzD, gzE, gzF]
          refine wx_skipZ 15 (some 35) ?_
          try simp only [Act.put, gzD, gzE, gzF]
          refine wx_skipZ 16 (some 36) ?_
          try simp only [Act.put, gzD, gzE, gzF]
          refine wx_skipZ 17 (some 37) ?_
          try simp only [Act.put, gzD, gzE, gzF]
          refine wx_skipZ 18 (some 38) ?_
          try simp only [Act.put, gzD, gzE, gzF]
          refine wx_skipZ 19 (some 39) ?_
          try simp only [Act.put, gzD, gzE, gzF]
          refine wx_skipZ 20 (some 40) ?_
          try simp only [Act.put, gzD, gzE, gzF]
          refine wx_skipZ 21 (some 41) ?_
          try simp only [Act.put, gzD, gzE, gzF]
          refine wx_skipZ 22 (some 42) ?_
          try simp only [Act.put, gzD, gzE, gzF]
          refine wx_skipZ 23 (some 43) ?_
          try simp only [Act.put, gzD, gzE, gzF]
          refine wx_skipZ 24 (some 44) ?_
          try simp only [Act.put, gzD, gzE, gzF]
          refine wx_pureZ 25 (some 45) (v := ?_) ?_ ?_; rotate_left; · (intro u; go_simp; try with_reducible rfl)
          try simp only [Act.put, gzD, gzE, gzF]
          refine wx_done (by kernel_rfl) ?_ _
          skip
          have hz := hbw.size
          have k1 := hC.ld rowSp rfl
          go_wp2_with (at_builtin; refine wpList_app tyeSp rfl _ _ rfl w2.heap.size _ _ [x] rfl (hown.alloc' _) ⟨_, 0, none⟩ 1 1 rfl rfl ?e1 ?e2 ?e3 ?_)
          case e1 => first | exact cell_row_at _ _ _ _ rfl | (intro j u hj; rw [eSp.cells_single] at hj; exact hj)
          case e2 => have := hRl.out; simp only [List.length_reverse, List.length_singleton, List.length_append, List.length_cons, List.length_nil] at this ⊢; omega
          case e3 => first | omega | (simp; done) | (simp; omega)
          intro v3 x3 hown3 hg3 _
          have hb3 : Below w2.heap.size w2 x3 := (hbw.alloc hbw.size _).grown hg3 (by first | omega | (simp; done) | (simp; omega)) (fun k h => (hown.lt k h).1)
          clear hg3 hown hbw
          go_wp2_with fail
          go_roundw
          case rel => exact ⟨k + 1, x :: y :: r, by omega, by go_num, by rw [List.reverse_cons, List.reverse_cons, List.append_assoc]; exact hown3, hb3, hJ2, Lib.hid (by have := hRl.out; simp only [List.length_cons] at *; omega)⟩
          case measure => simp [intOf]; omega
    · have hkn : k = n := by omega
      obtain ⟨A', cap', rfl, hSr⟩ := hown.sl
      have hbl := fun g off (h : A' = some ⟨g, off, none⟩) => hown.lt g (by rw [h]; rfl)
      have hJn := hJ.out
      rw [List.take_of_length_le (by have := hql.out; omega)] at hJn
      have hfin := Lib.hid (show Joined J.reverse xs ∧ J.reverse.length ≤ n from ⟨hJn.done hperm.out, by have := hRl.out; rw [List.length_reverse]; omega⟩)
      clear hown hJ hJn hkn
      replace hSr := Lib.hid hSr
      replace hbl := Lib.hid hbl
      generalize hL : J.reverse.length = L at *
      go_wp2_with fail
      go_ret
      exact ⟨J.reverse, hfin.out.1, by rw [hL]; exact hfin.out.2, ⟨A', cap', by rw [hL]; rfl, by rw [hL]; exact hSr.out, fun g off h => ⟨Nat.le_trans hw2 (hbl.out g off h).1, (hbl.out g off h).2⟩⟩, hb2.trans (hbw.mono hb2.size)⟩
end Go.Proofs.YtkldcmmlllkhkaaGreatDoor
