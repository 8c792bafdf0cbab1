/- Reports: how the reference checks a list. -/
import Derived.Test.YtilgjgdppfnefaaGreatDoorKhRpK
namespace Go.Proofs.YtilgjgdppfnefaaGreatDoor
open Go.RowKit
set_option linter.unusedVariables false
set_option linter.unusedSimpArgs false

theorem compareInt_anti (x y : Int) : Lib.compareInt y x = - Lib.compareInt x y := by
  unfold Lib.compareInt
  (repeat' split) <;> omega
theorem cmpN_anti (x y : Nat) : cmpN y x = - cmpN x y := by
  unfold cmpN
  by_cases h1 : x < y
  · rw [if_pos h1, if_neg (by omega), if_neg (by omega)]; rfl
  · rw [if_neg h1]
    by_cases h2 : x = y
    · rw [if_pos h2, if_neg (by omega), if_pos h2.symm]; rfl
    · rw [if_neg h2, if_pos (by omega)]
theorem compareBytes_anti : ∀ a b : List UInt8, Lib.compareBytes b a = - Lib.compareBytes a b
  | [], [] => rfl
  | [], _ :: _ => rfl
  | _ :: _, [] => rfl
  | x :: a, y :: b => by
    unfold Lib.compareBytes
    by_cases h1 : x < y
    · rw [if_pos h1, if_neg (by exact fun h => UInt8.lt_irrefl x (UInt8.lt_trans h1 h)), if_pos h1]; rfl
    · rw [if_neg h1]
      by_cases h2 : y < x
      · rw [if_pos h2, if_neg h1, if_pos h2]
      · rw [if_neg h2, if_neg h2, if_neg h1]
        exact compareBytes_anti a b
theorem firstZ_anti : ∀ l m : List Int, m = l.map (fun z => -z) → firstZ m = - firstZ l
  | [], _, h => by subst h; rfl
  | a :: l, _, h => by
    subst h
    rw [List.map_cons]
    by_cases ha : a = 0
    · rw [ha, firstZ_zero, show -(0 : Int) = 0 from rfl, firstZ_zero]
      exact firstZ_anti l _ rfl
    · rw [firstZ_ne ha, firstZ_ne (by omega)]
theorem cmpFl_anti (x y : Fl) : cmpFl y x = - cmpFl x y := by
  unfold cmpFl
  apply firstZ_anti
  rw [compareInt_anti x.p, cmpN_anti x.f.n, cmpN_anti x.t.n, compareInt_anti x.fp, compareInt_anti x.tp]
  rfl
theorem cmpRp_anti (x y : Rp) : cmpRp y x = - cmpRp x y := by
  unfold cmpRp
  apply firstZ_anti
  rw [compareInt_anti x.hour, compareBytes_anti x.node, compareInt_anti (rank x.out), cmpFl_anti x.fl]
  rfl

/-- What is wrong with a report, as the reference tells. -/
def refE (x : Rp) : Int := if keyB x.node = true then (if inB x.hour 0 96023 = true then (if flE x.fl = 0 then (if inB x.pk 1 1000000000000 = true then (if inB x.by_ 0 1000000000000 = true then 0 else 1) else 1) else flE x.fl) else 1) else 5
theorem numE_in (z a b : Int) : numE z a b = if inB z a b = true then 0 else 1 := by
  unfold numE inB; simp
theorem repF_ref (x : Rp) : repF x = refE x := by
  unfold repF refE keyE
  rw [numE_in, numE_in, numE_in]
  by_cases h1 : keyB x.node = true
  · rw [if_pos h1, if_pos h1, firstZ_zero]
    by_cases h2 : inB x.hour 0 96023 = true
    · rw [if_pos h2, if_pos h2, firstZ_zero]
      by_cases h3 : flE x.fl = 0
      · rw [if_pos h3, h3, firstZ_zero, show firstZ [] = 0 from rfl, firstZ_zero]
        by_cases h4 : inB x.pk 1 1000000000000 = true
        · rw [if_pos h4, if_pos h4, firstZ_zero]
          by_cases h5 : inB x.by_ 0 1000000000000 = true
          · rw [if_pos h5]; rfl
          · rw [if_neg h5]; rfl
        · rw [if_neg h4, if_neg h4, firstZ_ne (a := 1) (by decide)]
      · rw [if_neg h3, firstZ_ne h3, firstZ_ne h3]
    · rw [if_neg h2, if_neg h2, firstZ_ne (a := 1) (by decide), firstZ_ne (a := 1) (by decide)]
  · rw [if_neg h1, if_neg h1, firstZ_ne (a := 5) (by decide), firstZ_ne (a := 5) (by decide)]

set_option maxHeartbeats 8000000 in
set_option maxRecDepth 100000 in
theorem repsFault_any (R : Int) (A : Option Addr) (n cap : Nat) (rs : List Rp) (w : World) (hS : SlE eRp w A n cap rs) (hn : n ≤ 1000000) (hU : ∀ r ∈ rs, r.U) (hR : R = repsF rs) :
    Calls Tryz.prog 11 #[.slice A n cap] w (GivesV (.int .i64 R) w) := by
  have hl := hS.1
  unfold repsF at hR
  by_cases h3 : 3000 < n
  · have hV := Lib.hid (show R = 2 by rw [hR, if_pos (by omega)])
    have h3' : (3000 : Int) < n := by omega
    clear h3 hS hl hn hR hU
    go_enter Tryz.func11, Tryz.ntmps11
    go_wp2_with fail
    go_ret
    exact ⟨by rw [hV.out]; rfl, Below.refl _ _⟩
  · have h3' : ¬ (3000 : Int) < n := by omega
    rw [if_neg (by omega)] at hR
    replace hR := Lib.hid hR
    replace hl := Lib.hid hl
    replace hS := Lib.hid hS
    replace hU := Lib.hid hU
    clear h3
    go_enter Tryz.func11, Tryz.ntmps11
    go_wp2_with fail
    go_loopw [11] (fun vi wr => ∃ k : Nat, k ≤ n ∧ vi = .int .i64 k ∧ Below w.heap.size w wr ∧ Hid (R = risL (prevO rs k) (rs.drop k))) (fun vi _ => n - (intOf vi).toNat)
    case atStart => exact ⟨0, Nat.zero_le _, rfl, Below.refl _ _, Lib.hid hR.out⟩
    case round =>
      obtain ⟨k, hk, rfl, hbw, hI⟩ := hrel
      by_cases hlt : k < n
      · obtain ⟨x, hx⟩ : ∃ x, rs[k]? = some x := ⟨rs[k]'(by have := hl.out; omega), List.getElem?_eq_getElem _⟩
        have hS1 := hS.out.below hbw
        obtain ⟨g, off, rfl, hgl, _⟩ := hS1.at' hlt
        have k1 : (ldT 37 (.pointer (some ⟨g, off + k * 14, none⟩))).run Tryz.prog wr = .ok (.value (.agg (rpC x).toArray)) wr := hS1.ld rowRp hx
        have hcap := hS1.2.1
        have hlt' : (k : Int) < n := by omega
        have S1 := stT_new rowRp (te := 37) wr wr.heap.size rfl [.string ⟨#[]⟩, .int .i64 0, .bool false, .int .i64 0, .bool false, .int .u64 0, .int .u64 0, .bool false, .int .u64 0, .int .u64 0, .int .i64 0, .int .i64 0, .int .i64 0, .int .i64 0] (rpC x) rfl rfl (rpC_one x)
        have hX := Blk.new wr (rpC x) 37
        have hvA : Below wr.heap.size wr (wr.alloc (.cells (rpC x).toArray 37)) := (Below.refl _ _).alloc (Nat.le_refl _) _
        have hxU := hU.out x (List.mem_of_getElem? hx)
        have HK := Lib.hid (fun W => refKey_any x.node W hxU.2.2)
        have HH := Lib.hid (fun W => in_any x.hour 0 96023 W)
        have HF : Hid (∀ W, Calls Tryz.prog 37 #[flA x.fl] W (GivesV (.int .i64 (flE x.fl)) W)) := Lib.hid (fun W => flowFault_any _ _ _ _ _ _ _ _ _ W hxU.1.1.1.1 hxU.1.2.1.1.1)
        have HP := Lib.hid (fun W => in_any x.pk 1 1000000000000 W)
        have HB := Lib.hid (fun W => in_any x.by_ 0 1000000000000 W)
        have hst := risL_step hx
        rw [← hI.out, repF_ref, refE] at hst
        have a0 := hX.cell (i := 0) (v := .string ⟨x.node.toArray⟩) rfl
        replace hbw := hbw.trans (hvA.mono hbw.size)
        clear hI hS1 hvA hxU hgl
        obtain ⟨N, hN⟩ : ∃ N, N = wr.heap.size := ⟨_, rfl⟩
        go_wp2_with fail
        refine (HK.out _).mono ?_
        rintro e w3 ⟨rfl, hv1⟩
        replace hX := hX.below hv1
        replace hbw := hbw.trans (hv1.mono hbw.size)
        clear HK hv1 a0 k1 S1
        by_cases c1 : keyB x.node = true
        case neg =>
          rw [if_neg c1, if_neg (by decide)] at hst
          subst hst
          have c1' : keyB x.node = false := by simpa using c1
          rw [c1']
          clear c1 c1'
          go_wp2_with fail
          go_ret
          exact ⟨rfl, hbw⟩
        rw [if_pos c1] at hst
        rw [c1]
        clear c1
        have a1 := hX.cell (i := 1) (v := .int .i64 x.hour) rfl
        go_wp2_with fail
        refine (HH.out _).mono ?_
        rintro e w4 ⟨rfl, rfl⟩
        by_cases c1 : inB x.hour 0 96023 = true
        case neg =>
          rw [if_neg c1, if_neg (by decide)] at hst
          subst hst
          have c1' : inB x.hour 0 96023 = false := by simpa using c1
          rw [c1']
          clear c1 c1'
          go_wp2_with fail
          go_ret
          exact ⟨rfl, hbw⟩
        rw [if_pos c1] at hst
        rw [c1]
        clear c1 HH a1
        have l1 := hX.ldAt rowFl 3 (flC x.fl) [.int .i64 x.pk, .int .i64 x.by_] rfl rfl
        go_wp2_with fail
        refine (HF.out _).mono ?_
        rintro e w4 ⟨rfl, hv1⟩
        replace hX := hX.below hv1
        replace hbw := hbw.trans (hv1.mono hbw.size)
        clear HF hv1 l1
        generalize flE x.fl = F at hst
        by_cases c1 : F = 0
        case neg =>
          rw [if_neg c1, if_neg c1] at hst
          subst hst
          go_wp2_with fail
          go_ret
          exact ⟨rfl, hbw⟩
        subst c1
        rw [if_pos rfl] at hst
        have a12 := hX.cell (i := 12) (v := .int .i64 x.pk) rfl
        go_wp2_with fail
        refine (HP.out _).mono ?_
        rintro e w4 ⟨rfl, rfl⟩
        by_cases c1 : inB x.pk 1 1000000000000 = true
        case neg =>
          rw [if_neg c1, if_neg (by decide)] at hst
          subst hst
          have c1' : inB x.pk 1 1000000000000 = false := by simpa using c1
          rw [c1']
          clear c1 c1'
          go_wp2_with fail
          go_ret
          exact ⟨rfl, hbw⟩
        rw [if_pos c1] at hst
        rw [c1]
        clear c1 HP a12
        have a13 := hX.cell (i := 13) (v := .int .i64 x.by_) rfl
        go_wp2_with fail
        refine (HB.out _).mono ?_
        rintro e w4 ⟨rfl, rfl⟩
        by_cases c1 : inB x.by_ 0 1000000000000 = true
        case neg =>
          rw [if_neg c1, if_neg (by decide)] at hst
          subst hst
          have c1' : inB x.by_ 0 1000000000000 = false := by simpa using c1
          rw [c1']
          clear c1 c1'
          go_wp2_with fail
          go_ret
          exact ⟨rfl, hbw⟩
        rw [if_pos c1, if_pos rfl] at hst
        rw [c1]
        clear c1 HB a13
        have hS1 := hS.out.below hbw
        obtain ⟨g1, off1, hgo, hgl, _⟩ := hS1.at' hlt
        cases hgo
        by_cases hk0 : k = 0
        · subst hk0
          have hst2 := Lib.hid (show R = risL (prevO rs (0 + 1)) (rs.drop (0 + 1)) by rw [hst, if_neg]; simp [prevO, badO])
          clear hst hS1 hx
          go_upto_region 15 with fail
          refine wb_begin ([wr.heap.size]) [] (by kernel_rfl) (fun u0 hb0' hz0' => ?_)
          replace hX := hX.below hb0'
          replace hbw := hbw.trans (hb0'.mono hbw.size)
          clear hb0' hz0'
          refine wb_pure (i := 0) (d := some 44) (v := ?_) (by simp only [List.getElem?_toArray, List.getElem?_cons_succ, List.getElem?_cons_zero] <;> rfl) (by rfl) (by kernel_rfl) (by kernel_rfl) (by kernel_rfl) (fun _ _ _ h => h) (by rfl) ?_ ?_
          rotate_left
          · ((intro u); go_simp; try with_reducible rfl)
          try simp only [Act.put, List.setIfInBounds_toArray, List.set_cons_zero, List.set_cons_succ]
          refine wb_pure (i := 1) (d := some 45) (v := ?_) (by simp only [List.getElem?_toArray, List.getElem?_cons_succ, List.getElem?_cons_zero] <;> rfl) (by rfl) (by kernel_rfl) (by kernel_rfl) (by kernel_rfl) (fun _ _ _ h => h) (by rfl) ?_ ?_
          rotate_left
          · ((intro u); go_simp; try with_reducible rfl)
          try simp only [Act.put, List.setIfInBounds_toArray, List.set_cons_zero, List.set_cons_succ]
          refine wb_pure (i := 2) (d := some 46) (v := ?_) (by simp only [List.getElem?_toArray, List.getElem?_cons_succ, List.getElem?_cons_zero] <;> rfl) (by rfl) (by kernel_rfl) (by kernel_rfl) (by kernel_rfl) (fun _ _ _ h => h) (by rfl) ?_ ?_
          rotate_left
          · ((intro u); go_simp; try with_reducible rfl)
          try simp only [Act.put, List.setIfInBounds_toArray, List.set_cons_zero, List.set_cons_succ]
          refine wb_skip (i := 3) (d := some 47) (by simp only [List.getElem?_toArray, List.getElem?_cons_succ, List.getElem?_cons_zero] <;> rfl) (by rfl) (by kernel_rfl) (by kernel_rfl) (by kernel_rfl) (fun _ _ _ h => h) (by rfl) ?_
          try simp only [Act.put, List.setIfInBounds_toArray, List.set_cons_zero, List.set_cons_succ]
          refine wb_skip (i := 4) (d := some 48) (by simp only [List.getElem?_toArray, List.getElem?_cons_succ, List.getElem?_cons_zero] <;> rfl) (by rfl) (by kernel_rfl) (by kernel_rfl) (by kernel_rfl) (fun _ _ _ h => h) (by rfl) ?_
          try simp only [Act.put, List.setIfInBounds_toArray, List.set_cons_zero, List.set_cons_succ]
          refine wb_skip (i := 5) (d := some 49) (by simp only [List.getElem?_toArray, List.getElem?_cons_succ, List.getElem?_cons_zero] <;> rfl) (by rfl) (by kernel_rfl) (by kernel_rfl) (by kernel_rfl) (fun _ _ _ h => h) (by rfl) ?_
          try simp only [Act.put, List.setIfInBounds_toArray, List.set_cons_zero, List.set_cons_succ]
          refine wb_skip (i := 6) (d := some 50) (by simp only [List.getElem?_toArray, List.getElem?_cons_succ, List.getElem?_cons_zero] <;> rfl) (by rfl) (by kernel_rfl) (by kernel_rfl) (by kernel_rfl) (fun _ _ _ h => h) (by rfl) ?_
          try simp only [Act.put, List.setIfInBounds_toArray, List.set_cons_zero, List.set_cons_succ]
          refine wb_skip (i := 7) (d := some 51) (by simp only [List.getElem?_toArray, List.getElem?_cons_succ, List.getElem?_cons_zero] <;> rfl) (by rfl) (by kernel_rfl) (by kernel_rfl) (by kernel_rfl) (fun _ _ _ h => h) (by rfl) ?_
          try simp only [Act.put, List.setIfInBounds_toArray, List.set_cons_zero, List.set_cons_succ]
          refine wb_skip (i := 8) (d := some 52) (by simp only [List.getElem?_toArray, List.getElem?_cons_succ, List.getElem?_cons_zero] <;> rfl) (by rfl) (by kernel_rfl) (by kernel_rfl) (by kernel_rfl) (fun _ _ _ h => h) (by rfl) ?_
          try simp only [Act.put, List.setIfInBounds_toArray, List.set_cons_zero, List.set_cons_succ]
          refine wb_skip (i := 9) (d := some 53) (by simp only [List.getElem?_toArray, List.getElem?_cons_succ, List.getElem?_cons_zero] <;> rfl) (by rfl) (by kernel_rfl) (by kernel_rfl) (by kernel_rfl) (fun _ _ _ h => h) (by rfl) ?_
          try simp only [Act.put, List.setIfInBounds_toArray, List.set_cons_zero, List.set_cons_succ]
          refine wb_skip (i := 10) (d := some 54) (by simp only [List.getElem?_toArray, List.getElem?_cons_succ, List.getElem?_cons_zero] <;> rfl) (by rfl) (by kernel_rfl) (by kernel_rfl) (by kernel_rfl) (fun _ _ _ h => h) (by rfl) ?_
          try simp only [Act.put, List.setIfInBounds_toArray, List.set_cons_zero, List.set_cons_succ]
          refine wb_pure (i := 11) (d := some 55) (v := ?_) (by simp only [List.getElem?_toArray, List.getElem?_cons_succ, List.getElem?_cons_zero] <;> rfl) (by rfl) (by kernel_rfl) (by kernel_rfl) (by kernel_rfl) (fun _ _ _ h => h) (by rfl) ?_ ?_
          rotate_left
          · ((intro u); go_simp; try with_reducible rfl)
          try simp only [Act.put, List.setIfInBounds_toArray, List.set_cons_zero, List.set_cons_succ]
          refine wb_pure (i := 12) (d := some 43) (v := ?_) (by simp only [List.getElem?_toArray, List.getElem?_cons_succ, List.getElem?_cons_zero] <;> rfl) (by rfl) (by kernel_rfl) (by kernel_rfl) (by kernel_rfl) (fun _ _ _ h => h) (by rfl) ?_ ?_
          rotate_left
          · ((intro u); go_simp; try with_reducible rfl)
          try simp only [Act.put, List.setIfInBounds_toArray, List.set_cons_zero, List.set_cons_succ]
          refine wb_done (by kernel_rfl) ?_ _
          skip
          go_wp2_with fail
          go_roundw
          case rel => exact ⟨0 + 1, by omega, by go_num, hbw, hst2⟩
          case measure => simp [intOf]; omega
        · obtain ⟨p, hp⟩ : ∃ p, rs[k - 1]? = some p := ⟨rs[k - 1]'(by have := hl.out; omega), List.getElem?_eq_getElem _⟩
          have hpr : prevO rs k = some p := by
            obtain ⟨j, rfl⟩ : ∃ j, k = j + 1 := ⟨k - 1, by omega⟩
            exact hp
          rw [hpr] at hst
          have hbd : badO (some p) x = decide (0 ≤ cmpRp p x) := by
            show decide (cmpRp x p ≤ 0) = _
            rw [cmpRp_anti p x]; congr 1; apply propext; omega
          rw [hbd] at hst
          have hRg : World.rangeAt _ g (off + (k - 1) * 14) (rpC p) := hS1.range hp
          have HC := Lib.hid (fun W => repOrder_d p x W (hU.out p (List.mem_of_getElem? hp)) (hU.out x (List.mem_of_getElem? hx)))
          generalize cmpRp p x = C at HC hst
          have hkz : (0 : Int) < k := by omega
          have hkN : 0 < k := by omega
          have hi1 : (1 : Int) ≤ k := by omega
          have hi2 : (k : Int) - 1 < n := by omega
          have hkD : decide (0 < k) = true := decide_eq_true hkN
          have e1 : IntKind.i64.wrap ((k : Int) - 1) = (k : Int) - 1 := IntWalk.i64_in _ (by omega)
          have hsplit : (0 ≤ C ∧ R = 7) ∨ (¬ 0 ≤ C ∧ R = risL (prevO rs (k + 1)) (rs.drop (k + 1))) := by
            by_cases hc : 0 ≤ C
            · rw [decide_eq_true hc, if_pos rfl] at hst; exact .inl ⟨hc, hst⟩
            · rw [decide_eq_false hc] at hst; exact .inr ⟨hc, hst⟩
          clear hst hbd hpr hS1 hx hp
          rcases hsplit with ⟨hc, hst⟩ | ⟨hc, hst⟩
          · subst hst
            go_upto_region 15 with fail
            refine wb_begin ([wr.heap.size, g]) [] (by kernel_rfl) (fun u0 hb0' hz0' => ?_)
            replace hX := hX.below hb0'
            replace hRg := rangeAt_kb hRg (hb0'.block _ hgl)
            replace hgl := Nat.lt_of_lt_of_le hgl hb0'.size
            replace hbw := hbw.trans (hb0'.mono hbw.size)
            clear hb0' hz0'
            refine wb_pure (i := 0) (d := some 44) (v := ?_) (by simp only [List.getElem?_toArray, List.getElem?_cons_succ, List.getElem?_cons_zero] <;> rfl) (by rfl) (by kernel_rfl) (by kernel_rfl) (by kernel_rfl) (fun _ _ _ h => h) (by rfl) ?_ ?_
            rotate_left
            · ((intro u); go_simp; try with_reducible rfl)
            try simp only [Act.put, List.setIfInBounds_toArray, List.set_cons_zero, List.set_cons_succ]
            refine wb_pure (i := 1) (d := some 45) (v := ?_) (by simp only [List.getElem?_toArray, List.getElem?_cons_succ, List.getElem?_cons_zero] <;> rfl) (by rfl) (by kernel_rfl) (by kernel_rfl) (by kernel_rfl) (fun _ _ _ h => h) (by rfl) ?_ ?_
            rotate_left
            · ((intro u); go_simp; try with_reducible rfl)
            try simp only [Act.put, List.setIfInBounds_toArray, List.set_cons_zero, List.set_cons_succ]
            refine wb_pure (i := 2) (d := some 46) (v := ?_) (by simp only [List.getElem?_toArray, List.getElem?_cons_succ, List.getElem?_cons_zero] <;> rfl) (by rfl) (by kernel_rfl) (by kernel_rfl) (by kernel_rfl) (fun _ _ _ h => h) (by rfl) ?_ ?_
            rotate_left
            · ((intro u); go_simp; try with_reducible rfl)
            try simp only [Act.put, List.setIfInBounds_toArray, List.set_cons_zero, List.set_cons_succ]
            refine wb_pure (i := 3) (d := some 47) (v := ?_) (by simp only [List.getElem?_toArray, List.getElem?_cons_succ, List.getElem?_cons_zero] <;> rfl) (by rfl) (by kernel_rfl) (by kernel_rfl) (by kernel_rfl) (fun _ _ _ h => h) (by rfl) ?_ ?_
            rotate_left
            · ((intro u); go_simp; try with_reducible rfl)
            try simp only [Act.put, List.setIfInBounds_toArray, List.set_cons_zero, List.set_cons_succ]
            refine wb_pure (i := 4) (d := some 48) (v := ?_) (by simp only [List.getElem?_toArray, List.getElem?_cons_succ, List.getElem?_cons_zero] <;> rfl) (by rfl) (by kernel_rfl) (by kernel_rfl) (by kernel_rfl) (fun _ _ _ h => h) (by rfl) ?_ ?_
            rotate_left
            · ((intro u); go_simp; try with_reducible rfl)
            try simp only [Act.put, List.setIfInBounds_toArray, List.set_cons_zero, List.set_cons_succ]
            refine wb_pure (i := 5) (d := some 49) (v := ?_) (by simp only [List.getElem?_toArray, List.getElem?_cons_succ, List.getElem?_cons_zero] <;> rfl) (by rfl) (by kernel_rfl) (by kernel_rfl) (by kernel_rfl) (fun _ _ _ h => h) (by rfl) ?_ ?_
            rotate_left
            · ((intro u); go_simp; try with_reducible rfl)
            try simp only [Act.put, List.setIfInBounds_toArray, List.set_cons_zero, List.set_cons_succ]
            refine wb_pure (i := 6) (d := some 50) (v := ?_) (by simp only [List.getElem?_toArray, List.getElem?_cons_succ, List.getElem?_cons_zero] <;> rfl) (by rfl) (by kernel_rfl) (by kernel_rfl) (by kernel_rfl) (fun _ _ _ h => h) (by rfl) ?_ ?_
            rotate_left
            · ((intro u); go_simp; try with_reducible rfl)
            try simp only [Act.put, List.setIfInBounds_toArray, List.set_cons_zero, List.set_cons_succ]
            refine wb_take (i := 7) (d := some 51) (v := ?_) (by simp only [List.getElem?_toArray, List.getElem?_cons_succ, List.getElem?_cons_zero] <;> rfl) (by rfl) (by kernel_rfl) (by kernel_rfl) (by kernel_rfl) (fun _ _ _ h => h) (by rfl) (by kernel_rfl) ?_ ?_
            rotate_left
            · ((intro u hu); have kx := hX.kb hu (by simp); have k1 := kx.ld rowRp rfl; have k2 := ldT_run rowRp (rpC_len p) (rangeAt_kb hRg (hu g (by simp))); clear kx; go_simp; try with_reducible rfl)
            try simp only [Act.put, List.setIfInBounds_toArray, List.set_cons_zero, List.set_cons_succ]
            refine wb_take (i := 8) (d := some 52) (v := ?_) (by simp only [List.getElem?_toArray, List.getElem?_cons_succ, List.getElem?_cons_zero] <;> rfl) (by rfl) (by kernel_rfl) (by kernel_rfl) (by kernel_rfl) (fun _ _ _ h => h) (by rfl) (by kernel_rfl) ?_ ?_
            rotate_left
            · ((intro u hu); have kx := hX.kb hu (by simp); have k1 := kx.ld rowRp rfl; have k2 := ldT_run rowRp (rpC_len p) (rangeAt_kb hRg (hu g (by simp))); clear kx; go_simp; try with_reducible rfl)
            try simp only [Act.put, List.setIfInBounds_toArray, List.set_cons_zero, List.set_cons_succ]
            refine wb_one (i := 9) (by simp only [List.getElem?_toArray, List.getElem?_cons_succ, List.getElem?_cons_zero] <;> rfl) (by kernel_rfl) (by rfl) (fun K hK => ?_)
            go_simp
            refine (HC.out _).mono ?_
            rintro e u9 ⟨rfl, hg1⟩
            have hv1 := hg1.below
            refine hK _ _ (Kb.below hv1 (by intro q hq; simp only [List.mem_cons, List.not_mem_nil, or_false] at hq; rcases hq with rfl | rfl <;> first | exact hX.lt | exact hgl)) ?_
            replace hX := hX.below hv1
            replace hRg := rangeAt_kb hRg (hv1.block _ hgl)
            replace hgl := Nat.lt_of_lt_of_le hgl hv1.size
            replace hbw := hbw.trans (hv1.mono hbw.size)
            clear hK K hv1 hg1
            try simp only [Act.put, List.setIfInBounds_toArray, List.set_cons_zero, List.set_cons_succ]
            refine wb_pure (i := 10) (d := some 54) (v := ?_) (by simp only [List.getElem?_toArray, List.getElem?_cons_succ, List.getElem?_cons_zero] <;> rfl) (by rfl) (by kernel_rfl) (by kernel_rfl) (by kernel_rfl) (fun _ _ _ h => h) (by rfl) ?_ ?_
            rotate_left
            · ((intro u); go_simp; try with_reducible rfl)
            try simp only [Act.put, List.setIfInBounds_toArray, List.set_cons_zero, List.set_cons_succ]
            refine wb_pure (i := 11) (d := some 55) (v := ?_) (by simp only [List.getElem?_toArray, List.getElem?_cons_succ, List.getElem?_cons_zero] <;> rfl) (by rfl) (by kernel_rfl) (by kernel_rfl) (by kernel_rfl) (fun _ _ _ h => h) (by rfl) ?_ ?_
            rotate_left
            · ((intro u); go_simp; try with_reducible rfl)
            try simp only [Act.put, List.setIfInBounds_toArray, List.set_cons_zero, List.set_cons_succ]
            refine wb_pure (i := 12) (d := some 43) (v := ?_) (by simp only [List.getElem?_toArray, List.getElem?_cons_succ, List.getElem?_cons_zero] <;> rfl) (by rfl) (by kernel_rfl) (by kernel_rfl) (by kernel_rfl) (fun _ _ _ h => h) (by rfl) ?_ ?_
            rotate_left
            · ((intro u); go_simp; try with_reducible rfl)
            try simp only [Act.put, List.setIfInBounds_toArray, List.set_cons_zero, List.set_cons_succ]
            refine wb_done (by kernel_rfl) ?_ _
            skip
            go_wp2_with fail
            go_ret
            exact ⟨rfl, hbw⟩
          · replace hst := Lib.hid hst
            go_upto_region 15 with fail
            refine wb_begin ([wr.heap.size, g]) [] (by kernel_rfl) (fun u0 hb0' hz0' => ?_)
            replace hX := hX.below hb0'
            replace hRg := rangeAt_kb hRg (hb0'.block _ hgl)
            replace hgl := Nat.lt_of_lt_of_le hgl hb0'.size
            replace hbw := hbw.trans (hb0'.mono hbw.size)
            clear hb0' hz0'
            refine wb_pure (i := 0) (d := some 44) (v := ?_) (by simp only [List.getElem?_toArray, List.getElem?_cons_succ, List.getElem?_cons_zero] <;> rfl) (by rfl) (by kernel_rfl) (by kernel_rfl) (by kernel_rfl) (fun _ _ _ h => h) (by rfl) ?_ ?_
            rotate_left
            · ((intro u); go_simp; try with_reducible rfl)
            try simp only [Act.put, List.setIfInBounds_toArray, List.set_cons_zero, List.set_cons_succ]
            refine wb_pure (i := 1) (d := some 45) (v := ?_) (by simp only [List.getElem?_toArray, List.getElem?_cons_succ, List.getElem?_cons_zero] <;> rfl) (by rfl) (by kernel_rfl) (by kernel_rfl) (by kernel_rfl) (fun _ _ _ h => h) (by rfl) ?_ ?_
            rotate_left
            · ((intro u); go_simp; try with_reducible rfl)
            try simp only [Act.put, List.setIfInBounds_toArray, List.set_cons_zero, List.set_cons_succ]
            refine wb_pure (i := 2) (d := some 46) (v := ?_) (by simp only [List.getElem?_toArray, List.getElem?_cons_succ, List.getElem?_cons_zero] <;> rfl) (by rfl) (by kernel_rfl) (by kernel_rfl) (by kernel_rfl) (fun _ _ _ h => h) (by rfl) ?_ ?_
            rotate_left
            · ((intro u); go_simp; try with_reducible rfl)
            try simp only [Act.put, List.setIfInBounds_toArray, List.set_cons_zero, List.set_cons_succ]
            refine wb_pure (i := 3) (d := some 47) (v := ?_) (by simp only [List.getElem?_toArray, List.getElem?_cons_succ, List.getElem?_cons_zero] <;> rfl) (by rfl) (by kernel_rfl) (by kernel_rfl) (by kernel_rfl) (fun _ _ _ h => h) (by rfl) ?_ ?_
            rotate_left
            · ((intro u); go_simp; try with_reducible rfl)
            try simp only [Act.put, List.setIfInBounds_toArray, List.set_cons_zero, List.set_cons_succ]
            refine wb_pure (i := 4) (d := some 48) (v := ?_) (by simp only [List.getElem?_toArray, List.getElem?_cons_succ, List.getElem?_cons_zero] <;> rfl) (by rfl) (by kernel_rfl) (by kernel_rfl) (by kernel_rfl) (fun _ _ _ h => h) (by rfl) ?_ ?_
            rotate_left
            · ((intro u); go_simp; try with_reducible rfl)
            try simp only [Act.put, List.setIfInBounds_toArray, List.set_cons_zero, List.set_cons_succ]
            refine wb_pure (i := 5) (d := some 49) (v := ?_) (by simp only [List.getElem?_toArray, List.getElem?_cons_succ, List.getElem?_cons_zero] <;> rfl) (by rfl) (by kernel_rfl) (by kernel_rfl) (by kernel_rfl) (fun _ _ _ h => h) (by rfl) ?_ ?_
            rotate_left
            · ((intro u); go_simp; try with_reducible rfl)
            try simp only [Act.put, List.setIfInBounds_toArray, List.set_cons_zero, List.set_cons_succ]
            refine wb_pure (i := 6) (d := some 50) (v := ?_) (by simp only [List.getElem?_toArray, List.getElem?_cons_succ, List.getElem?_cons_zero] <;> rfl) (by rfl) (by kernel_rfl) (by kernel_rfl) (by kernel_rfl) (fun _ _ _ h => h) (by rfl) ?_ ?_
            rotate_left
            · ((intro u); go_simp; try with_reducible rfl)
            try simp only [Act.put, List.setIfInBounds_toArray, List.set_cons_zero, List.set_cons_succ]
            refine wb_take (i := 7) (d := some 51) (v := ?_) (by simp only [List.getElem?_toArray, List.getElem?_cons_succ, List.getElem?_cons_zero] <;> rfl) (by rfl) (by kernel_rfl) (by kernel_rfl) (by kernel_rfl) (fun _ _ _ h => h) (by rfl) (by kernel_rfl) ?_ ?_
            rotate_left
            · ((intro u hu); have kx := hX.kb hu (by simp); have k1 := kx.ld rowRp rfl; have k2 := ldT_run rowRp (rpC_len p) (rangeAt_kb hRg (hu g (by simp))); clear kx; go_simp; try with_reducible rfl)
            try simp only [Act.put, List.setIfInBounds_toArray, List.set_cons_zero, List.set_cons_succ]
            refine wb_take (i := 8) (d := some 52) (v := ?_) (by simp only [List.getElem?_toArray, List.getElem?_cons_succ, List.getElem?_cons_zero] <;> rfl) (by rfl) (by kernel_rfl) (by kernel_rfl) (by kernel_rfl) (fun _ _ _ h => h) (by rfl) (by kernel_rfl) ?_ ?_
            rotate_left
            · ((intro u hu); have kx := hX.kb hu (by simp); have k1 := kx.ld rowRp rfl; have k2 := ldT_run rowRp (rpC_len p) (rangeAt_kb hRg (hu g (by simp))); clear kx; go_simp; try with_reducible rfl)
            try simp only [Act.put, List.setIfInBounds_toArray, List.set_cons_zero, List.set_cons_succ]
            refine wb_one (i := 9) (by simp only [List.getElem?_toArray, List.getElem?_cons_succ, List.getElem?_cons_zero] <;> rfl) (by kernel_rfl) (by rfl) (fun K hK => ?_)
            go_simp
            refine (HC.out _).mono ?_
            rintro e u9 ⟨rfl, hg1⟩
            have hv1 := hg1.below
            refine hK _ _ (Kb.below hv1 (by intro q hq; simp only [List.mem_cons, List.not_mem_nil, or_false] at hq; rcases hq with rfl | rfl <;> first | exact hX.lt | exact hgl)) ?_
            replace hX := hX.below hv1
            replace hRg := rangeAt_kb hRg (hv1.block _ hgl)
            replace hgl := Nat.lt_of_lt_of_le hgl hv1.size
            replace hbw := hbw.trans (hv1.mono hbw.size)
            clear hK K hv1 hg1
            try simp only [Act.put, List.setIfInBounds_toArray, List.set_cons_zero, List.set_cons_succ]
            refine wb_pure (i := 10) (d := some 54) (v := ?_) (by simp only [List.getElem?_toArray, List.getElem?_cons_succ, List.getElem?_cons_zero] <;> rfl) (by rfl) (by kernel_rfl) (by kernel_rfl) (by kernel_rfl) (fun _ _ _ h => h) (by rfl) ?_ ?_
            rotate_left
            · ((intro u); go_simp; try with_reducible rfl)
            try simp only [Act.put, List.setIfInBounds_toArray, List.set_cons_zero, List.set_cons_succ]
            refine wb_pure (i := 11) (d := some 55) (v := ?_) (by simp only [List.getElem?_toArray, List.getElem?_cons_succ, List.getElem?_cons_zero] <;> rfl) (by rfl) (by kernel_rfl) (by kernel_rfl) (by kernel_rfl) (fun _ _ _ h => h) (by rfl) ?_ ?_
            rotate_left
            · ((intro u); go_simp; try with_reducible rfl)
            try simp only [Act.put, List.setIfInBounds_toArray, List.set_cons_zero, List.set_cons_succ]
            refine wb_pure (i := 12) (d := some 43) (v := ?_) (by simp only [List.getElem?_toArray, List.getElem?_cons_succ, List.getElem?_cons_zero] <;> rfl) (by rfl) (by kernel_rfl) (by kernel_rfl) (by kernel_rfl) (fun _ _ _ h => h) (by rfl) ?_ ?_
            rotate_left
            · ((intro u); go_simp; try with_reducible rfl)
            try simp only [Act.put, List.setIfInBounds_toArray, List.set_cons_zero, List.set_cons_succ]
            refine wb_done (by kernel_rfl) ?_ _
            skip
            go_wp2_with fail
            go_roundw
            case rel => exact ⟨k + 1, by omega, by go_num, hbw, hst⟩
            case measure => simp [intOf]; omega
      · have hV := Lib.hid (show R = 0 by rw [hI.out, risL_end (by have := hl.out; omega)])
        go_wp2_with fail
        go_ret
        exact ⟨by rw [hV.out]; rfl, hbw⟩
end Go.Proofs.YtilgjgdppfnefaaGreatDoor
