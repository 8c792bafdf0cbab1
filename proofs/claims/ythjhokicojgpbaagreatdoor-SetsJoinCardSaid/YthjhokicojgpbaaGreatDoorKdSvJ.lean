/- Sets: where something holds. -/
import Derived.Test.YthjhokicojgpbaaGreatDoorKdSvI
namespace Go.Proofs.YthjhokicojgpbaaGreatDoor
open Go.RowKit
set_option linter.unusedVariables false
set_option linter.unusedSimpArgs false

/-- The function value that Where is given, called. -/
abbrev cmF (pk pa pb : Nat) : Value := .func (.func 188) #[] #[.pointer (some ⟨pk, 0, none⟩), .pointer (some ⟨pa, 0, none⟩), .pointer (some ⟨pb, 0, none⟩)]

set_option maxRecDepth 100000 in
set_option maxHeartbeats 4000000 in
theorem where_any (A : Option Addr) (n cap : Nat) (cs : List Ad) (w : World) (pk pa pb : Nat) (h : Nat → Bool) (hS : SlE eAd w A n cap cs) (hc : Cut cs) (hn : n ≤ 20010)
    (HF : ∀ (a : Ad) W, a.R → Below w.heap.size w W → Calls Tryz.prog 188 #[adA a, .pointer (some ⟨pk, 0, none⟩), .pointer (some ⟨pa, 0, none⟩), .pointer (some ⟨pb, 0, none⟩)] W (GivesV (.bool (h a.n)) W))
    (hsame : ∀ i a m, cs[i]? = some a → a.n ≤ m → m ≤ lastC cs i a → h m = h a.n) :
    Calls Tryz.prog 186 #[.slice A n cap, cmF pk pa pb] w fun e w' => ∃ zs, Tells zs (fun m => Val m ∧ h m = true) ∧ zs.length ≤ n ∧ GivesL eRg w.heap.size zs e w' ∧ Below w.heap.size w w' := by
  have hnl := Lib.hid hS.1
  replace hS := Lib.hid hS
  replace hc := Lib.hid hc
  replace HF := Lib.hid HF
  replace hsame := Lib.hid hsame
  go_enter Tryz.func186, Tryz.ntmps186
  go_wp2_with fail
  go_loopw [5, 11] (fun v5 v11 wr => ∃ (k : Nat), k ≤ n ∧ v11 = .int .i64 k ∧ OwnE eRg 49 w.heap.size wr v5 (whL cs h k) ∧ Below w.heap.size w wr) (fun _ v11 _ => n - (intOf v11).toNat)
  case atStart => exact ⟨0, by omega, rfl, OwnE.nil _ _, Below.refl _ _⟩
  case round =>
    obtain ⟨k, hk, rfl, hown, hbw⟩ := hrel
    by_cases hlt : k < n
    · obtain ⟨a, ha⟩ : ∃ x, cs[k]? = some x := ⟨cs[k]'(by have := hnl.out; omega), List.getElem?_eq_getElem _⟩
      obtain ⟨g0, off, rfl, hg0, hc0⟩ := hS.out.at' hlt
      have hld := SlE.ld rowAd (hS.out.below hbw) ha
      replace hld : (ldT 28 (.pointer (some ⟨g0, off + k * 3, none⟩))).run Tryz.prog wr = .ok (.value (adA a)) wr := hld
      have haR := hc.out.right a (List.mem_of_getElem? ha)
      have hlt' : (k : Int) < n := by omega
      have hsw := hbw.size
      have S1 := stT_new rowAd (te := 28) wr wr.heap.size rfl [.bool false, .int .u64 0, .int .u64 0] (adC a) rfl rfl (adC_one a)
      have hC := Blk.new wr (adC a) 28
      have hwl := Lib.hid (show (whL cs h k).length ≤ 20010 by have := whL_len cs h k; omega)
      replace hown := hown.alloc' (.cells (adC a).toArray 28)
      replace hbw := hbw.alloc hsw (.cells (adC a).toArray 28)
      have k1 := hC.ld rowAd rfl
      have HFa := Lib.hid (fun W hW => HF.out a W haR hW)
      have hyes := fun (e : h a.n = true) => Lib.hid (show whL cs h (k + 1) = whL cs h k ++ [(a, adOf (lastC cs k a))] by
        show (match cs[k]? with | some a => if h a.n then whL cs h k ++ [(a, adOf (lastC cs k a))] else whL cs h k | none => whL cs h k) = _
        rw [ha]
        exact if_pos e)
      have hno := fun (e : h a.n = false) => Lib.hid (show whL cs h (k + 1) = whL cs h k by
        show (match cs[k]? with | some a => if h a.n then whL cs h k ++ [(a, adOf (lastC cs k a))] else whL cs h k | none => whL cs h k) = _
        rw [ha]
        exact if_neg (by rw [e]; decide))
      have HW := fun w' => Lib.hid (whole_any a.s w')
      have hla : (∀ b, cs[k + 1]? = some b → (b.s = a.s → lastC cs k a = b.n - 1) ∧ (b.s ≠ a.s → lastC cs k a = topN a.s)) ∧ (cs[k + 1]? = none → lastC cs k a = topN a.s) := by
        unfold lastC
        refine ⟨fun b hb => ?_, fun hb => by rw [hb]⟩
        rw [hb]
        exact ⟨fun e => if_pos e, fun e => if_neg e⟩
      have hbn : ∀ b, cs[k + 1]? = some b → b.s = a.s → b.n ≠ s2n b.s := by
        intro b hb e
        have h1 := cut_lt hc.out.sorted ha hb (Nat.lt_succ_self k)
        have h2 := (ad_fam haR).1
        rw [e]
        omega
      replace hla := Lib.hid hla
      replace hbn := Lib.hid hbn
      replace hc0 := Lib.hid hc0
      replace ha := Lib.hid ha
      replace haR := Lib.hid haR
      go_wp2_with fail
      refine (HFa.out _ hbw).mono ?_
      rintro e w1 ⟨rfl, hv1⟩
      replace hC := hC.below hv1
      replace hown := hown.below hv1
      replace hbw := hbw.trans (hv1.mono hbw.size)
      clear hv1 k1 S1 HFa hld
      cases hv : h a.n with
      | false =>
        have hw1 := hno hv
        rw [← hw1.out] at hown
        clear hyes hno hv
        go_wp2_with fail
        go_roundw
        case rel => exact ⟨k + 1, by omega, by go_num, hown, hbw⟩
        case measure => simp [intOf]; omega
      | true =>
        have hw1 := hyes hv
        clear hyes hno hv
        have q1 := hC.cell (i := 0) (v := .bool a.s) rfl
        go_wp2_with fail
        refine (HW _).out.mono ?_
        rintro e w2 ⟨rfl, hv2⟩
        replace hC := hC.below hv2
        replace hown := hown.below hv2
        replace hbw := hbw.trans (hv2.mono hbw.size)
        clear hv2 q1 HW
        obtain ⟨T, hT⟩ : ∃ T, T = adOf (topN a.s) := ⟨_, rfl⟩
        rw [← hT]
        have hsw2 := hbw.size
        have S2 := stT_new rowAd (te := 28) w2 w2.heap.size rfl [.bool false, .int .u64 0, .int .u64 0] (adC T) rfl rfl (adC_one T)
        have hL := Blk.new w2 (adC T) 28
        have hneL := own_new hown
        have hneC : w2.heap.size ≠ wr.heap.size := by have := hC.lt; omega
        replace hC := Blk.below hC ((Below.refl _ _).alloc (Nat.le_refl _) (.cells (adC T).toArray 28))
        replace hown := hown.alloc' (.cells (adC T).toArray 28)
        replace hbw := hbw.alloc hsw2 (.cells (adC T).toArray 28)
        replace hT := Lib.hid hT
        by_cases hk1 : k + 1 < n
        · have hk1' : (k : Int) + 1 < n := by omega
          have q00 : (0 : Int) ≤ (k : Int) + 1 := by omega
          have q0 : IntKind.i64.wrap ((k : Int) + 1) = (k : Int) + 1 := IntWalk.i64_in _ (by omega)
          obtain ⟨b, hb⟩ : ∃ x, cs[k + 1]? = some x := ⟨cs[k + 1]'(by have := hnl.out; omega), List.getElem?_eq_getElem _⟩
          have CB : ∀ W, Below w.heap.size w W → W.cell? ⟨g0, off + (k + 1) * 3, none⟩ = some (.bool b.s) := fun W hW => by
            have := (hS.out.below hW).2.2.2
            rcases this with e | ⟨g', off', hA, _, hcc⟩
            · omega
            · cases hA; exact hcc (k + 1) b hb 0 _ rfl
          have hla1 := Lib.hid (hla.out.1 b hb)
          have hbn1 := Lib.hid (hbn.out b hb)
          have hbR := Lib.hid (hc.out.right b (List.mem_of_getElem? hb))
          have hldb : ∀ W, Below w.heap.size w W → (ldT 28 (.pointer (some ⟨g0, off + (k + 1) * 3, none⟩))).run Tryz.prog W = .ok (.value (adA b)) W := fun W hW => SlE.ld rowAd (hS.out.below hW) hb
          replace hb := Lib.hid hb
          go_upto_region 7 with fail
          refine wx_begin (none) [] (by kernel_rfl) (fun u0 hb0' hz0' => ?_)
          replace hC := hC.below hb0'
          replace hL := hL.below hb0'
          replace hown := hown.below hb0'
          replace hbw := hbw.trans (hb0'.mono hbw.size)
          clear hb0' hz0'
          refine wx_pure (i := 0) (d := some 24) (v := ?_) (by simp only [List.getElem?_toArray, List.getElem?_cons_succ, List.getElem?_cons_zero] <;> rfl) (by rfl) (by kernel_rfl) (by kernel_rfl) (by kernel_rfl) (fun _ _ _ h => h) (by rfl) ?_ ?_
          rotate_left
          · ((intro u); go_simp; try with_reducible rfl)
          try simp only [Act.put, List.setIfInBounds_toArray, List.set_cons_zero, List.set_cons_succ]
          refine wx_pure (i := 1) (d := some 25) (v := ?_) (by simp only [List.getElem?_toArray, List.getElem?_cons_succ, List.getElem?_cons_zero] <;> rfl) (by rfl) (by kernel_rfl) (by kernel_rfl) (by kernel_rfl) (fun _ _ _ h => h) (by rfl) ?_ ?_
          rotate_left
          · ((intro u); go_simp; try with_reducible rfl)
          try simp only [Act.put, List.setIfInBounds_toArray, List.set_cons_zero, List.set_cons_succ]
          refine wx_pure (i := 2) (d := some 26) (v := ?_) (by simp only [List.getElem?_toArray, List.getElem?_cons_succ, List.getElem?_cons_zero] <;> rfl) (by rfl) (by kernel_rfl) (by kernel_rfl) (by kernel_rfl) (fun _ _ _ h => h) (by rfl) ?_ ?_
          rotate_left
          · ((intro u); go_simp; try with_reducible rfl)
          try simp only [Act.put, List.setIfInBounds_toArray, List.set_cons_zero, List.set_cons_succ]
          refine wx_pure (i := 3) (d := some 27) (v := ?_) (by simp only [List.getElem?_toArray, List.getElem?_cons_succ, List.getElem?_cons_zero] <;> rfl) (by rfl) (by kernel_rfl) (by kernel_rfl) (by kernel_rfl) (fun _ _ _ h => h) (by rfl) ?_ ?_
          rotate_left
          · ((intro u); go_simp; try with_reducible rfl)
          try simp only [Act.put, List.setIfInBounds_toArray, List.set_cons_zero, List.set_cons_succ]
          refine wx_pure (i := 4) (d := some 28) (v := ?_) (by simp only [List.getElem?_toArray, List.getElem?_cons_succ, List.getElem?_cons_zero] <;> rfl) (by rfl) (by kernel_rfl) (by kernel_rfl) (by kernel_rfl) (fun _ _ _ h => h) (by rfl) ?_ ?_
          rotate_left
          · ((intro u); go_simp; try with_reducible rfl)
          try simp only [Act.put, List.setIfInBounds_toArray, List.set_cons_zero, List.set_cons_succ]
          refine wx_pure (i := 5) (d := some 29) (v := ?_) (by simp only [List.getElem?_toArray, List.getElem?_cons_succ, List.getElem?_cons_zero] <;> rfl) (by rfl) (by kernel_rfl) (by kernel_rfl) (by kernel_rfl) (fun _ _ _ h => h) (by rfl) ?_ ?_
          rotate_left
          · ((intro u); go_simp; try with_reducible rfl)
          try simp only [Act.put, List.setIfInBounds_toArray, List.set_cons_zero, List.set_cons_succ]
          refine wx_pure (i := 6) (d := some 30) (v := ?_) (by simp only [List.getElem?_toArray, List.getElem?_cons_succ, List.getElem?_cons_zero] <;> rfl) (by rfl) (by kernel_rfl) (by kernel_rfl) (by kernel_rfl) (fun _ _ _ h => h) (by rfl) ?_ ?_
          rotate_left
          · ((intro u); go_simp; try with_reducible rfl)
          try simp only [Act.put, List.setIfInBounds_toArray, List.set_cons_zero, List.set_cons_succ]
          refine wx_pure (i := 7) (d := some 31) (v := ?_) (by simp only [List.getElem?_toArray, List.getElem?_cons_succ, List.getElem?_cons_zero] <;> rfl) (by rfl) (by kernel_rfl) (by kernel_rfl) (by kernel_rfl) (fun _ _ _ h => h) (by rfl) ?_ ?_
          rotate_left
          · ((intro u); go_simp; try with_reducible rfl)
          try simp only [Act.put, List.setIfInBounds_toArray, List.set_cons_zero, List.set_cons_succ]
          refine wx_pure (i := 8) (d := some 32) (v := ?_) (by simp only [List.getElem?_toArray, List.getElem?_cons_succ, List.getElem?_cons_zero] <;> rfl) (by rfl) (by kernel_rfl) (by kernel_rfl) (by kernel_rfl) (fun _ _ _ h => h) (by rfl) ?_ ?_
          rotate_left
          · ((intro u); go_simp; try with_reducible rfl)
          try simp only [Act.put, List.setIfInBounds_toArray, List.set_cons_zero, List.set_cons_succ]
          refine wx_pure (i := 9) (d := some 33) (v := ?_) (by simp only [List.getElem?_toArray, List.getElem?_cons_succ, List.getElem?_cons_zero] <;> rfl) (by rfl) (by kernel_rfl) (by kernel_rfl) (by kernel_rfl) (fun _ _ _ h => h) (by rfl) ?_ ?_
          rotate_left
          · ((intro u); go_simp; try with_reducible rfl)
          try simp only [Act.put, List.setIfInBounds_toArray, List.set_cons_zero, List.set_cons_succ]
          refine wx_pure (i := 10) (d := some 34) (v := ?_) (by simp only [List.getElem?_toArray, List.getElem?_cons_succ, List.getElem?_cons_zero] <;> rfl) (by rfl) (by kernel_rfl) (by kernel_rfl) (by kernel_rfl) (fun _ _ _ h => h) (by rfl) ?_ ?_
          rotate_left
          · ((intro u); go_simp; try with_reducible rfl)
          try simp only [Act.put, List.setIfInBounds_toArray, List.set_cons_zero, List.set_cons_succ]
          refine wx_take (i := 11) (d := some 35) (v := ?_) (by simp only [List.getElem?_toArray, List.getElem?_cons_succ, List.getElem?_cons_zero] <;> rfl) (by rfl) (by kernel_rfl) (by kernel_rfl) (by kernel_rfl) (fun _ _ _ h => h) (by rfl) (by kernel_rfl) ?_ ?_
          rotate_left
          · ((intro u hu); have q1 := (hC.gn hu).cell (i := 0) (v := .bool a.s) rfl; have q2 := CB _ (hbw.grown hu hbw.size (fun _ h => by cases h)); go_simp; try with_reducible rfl)
          try simp only [Act.put, List.setIfInBounds_toArray, List.set_cons_zero, List.set_cons_succ]
          refine wx_pure (i := 12) (d := some 36) (v := ?_) (by simp only [List.getElem?_toArray, List.getElem?_cons_succ, List.getElem?_cons_zero] <;> rfl) (by rfl) (by kernel_rfl) (by kernel_rfl) (by kernel_rfl) (fun _ _ _ h => h) (by rfl) ?_ ?_
          rotate_left
          · ((intro u); go_simp; try with_reducible rfl)
          try simp only [Act.put, List.setIfInBounds_toArray, List.set_cons_zero, List.set_cons_succ]
          refine wx_take (i := 13) (d := some 37) (v := ?_) (by simp only [List.getElem?_toArray, List.getElem?_cons_succ, List.getElem?_cons_zero] <;> rfl) (by rfl) (by kernel_rfl) (by kernel_rfl) (by kernel_rfl) (fun _ _ _ h => h) (by rfl) (by kernel_rfl) ?_ ?_
          rotate_left
          · ((intro u hu); have q1 := (hC.gn hu).cell (i := 0) (v := .bool a.s) rfl; have q2 := CB _ (hbw.grown hu hbw.size (fun _ h => by cases h)); go_simp; try with_reducible rfl)
          try simp only [Act.put, List.setIfInBounds_toArray, List.set_cons_zero, List.set_cons_succ]
          refine wx_pure (i := 14) (d := some 38) (v := ?_) (by simp only [List.getElem?_toArray, List.getElem?_cons_succ, List.getElem?_cons_zero] <;> rfl) (by rfl) (by kernel_rfl) (by kernel_rfl) (by kernel_rfl) (fun _ _ _ h => h) (by rfl) ?_ ?_
          rotate_left
          · ((intro u); go_simp; try with_reducible rfl)
          try simp only [Act.put, List.setIfInBounds_toArray, List.set_cons_zero, List.set_cons_succ]
          refine wx_pure (i := 15) (d := some 39) (v := ?_) (by simp only [List.getElem?_toArray, List.getElem?_cons_succ, List.getElem?_cons_zero] <;> rfl) (by rfl) (by kernel_rfl) (by kernel_rfl) (by kernel_rfl) (fun _ _ _ h => h) (by rfl) ?_ ?_
          rotate_left
          · ((intro u); go_simp; try with_reducible rfl)
          try simp only [Act.put, List.setIfInBounds_toArray, List.set_cons_zero, List.set_cons_succ]
          refine wx_done (by kernel_rfl) ?_ _
          skip
          by_cases hbs : b.s = a.s
          · have HB := fun w' => Lib.hid (before_any b w' hbR.out (hbn1.out hbs))
            have e1 : (b.s == a.s) = true := by rw [hbs]; exact beq_self_eq_true _
            have e2 := Lib.hid (hla1.out.1 hbs)
            rw [e1]
            have k2 := hldb _ hbw
            clear e1 hbs hla1 hbn1
            go_wp2_with fail
            refine (HB _).out.mono ?_
            rintro e w3 ⟨rfl, hv3⟩
            replace hC := hC.below hv3
            replace hL := hL.below hv3
            replace hown := hown.below hv3
            replace hbw := hbw.trans (hv3.mono hbw.size)
            rw [← e2.out]
            have hz8 := hbw.size
            clear hv3 HB k2
            have S3 := stT_row rowAd hL rfl (adC_len (adOf (lastC cs k a))) (adC_one _)
            have hL3 := hL.row (adC (adOf (lastC cs k a)))
            have hC3 := gbo_setRow hC hL hneC (adC (adOf (lastC cs k a))).toArray
            have hown3 := own_setRow hown hL hneL (adC (adOf (lastC cs k a))).toArray
            have hbw3 := below_row hbw hsw2 (adC (adOf (lastC cs k a))).toArray
            clear hL hC hown hbw
            have hC := hC3; have hown := hown3; have hbw := hbw3
            clear hC3 hown3 hbw3
            have k3 := hC.ld rowAd rfl
            have k4 := hL3.ld rowAd rfl
            have hz9 := hbw.size
            go_wp2_with (at_builtin; refine wpList_app tyeRg rfl _ _ rfl w.heap.size _ _ [(a, adOf (lastC cs k a))] rfl (hown.alloc' _) ⟨_, 0, none⟩ 1 1 rfl rfl ?c1 ?c2 ?c3 ?_)
            case c1 => exact cell_row_at _ _ _ _ (by simp)
            case c2 => have := hwl.out; simp only [List.length_singleton]; omega
            case c3 => first | omega | (simp; done) | (simp; omega)
            intro v4 x4 hown4 hg4 _
            have hb4 : Below w.heap.size w x4 := (hbw.alloc hz9 _).grown hg4 (by first | omega | (simp; done) | (simp; omega)) (fun k h => (hown.lt k h).1)
            clear hg4 hown hbw
            rw [← hw1.out] at hown4
            go_wp2_with fail
            go_roundw
            case rel => exact ⟨k + 1, by omega, by go_num, hown4, hb4⟩
            case measure => simp [intOf]; omega

          · have e1 : (b.s == a.s) = false := by simp [hbs]
            have e2 := Lib.hid (hla1.out.2 hbs)
            rw [e1]
            have k3 := hC.ld rowAd rfl
            have k4 : (ldT 28 (.pointer (some ⟨w2.heap.size, 0, none⟩))).run Tryz.prog u0 = .ok (.value (adA (adOf (lastC cs k a)))) u0 := by rw [e2.out, ← hT.out]; exact hL.ld rowAd rfl
            clear e1 hbs hla1 hbn1
            have hz9 := hbw.size
            go_wp2_with (at_builtin; refine wpList_app tyeRg rfl _ _ rfl w.heap.size _ _ [(a, adOf (lastC cs k a))] rfl (hown.alloc' _) ⟨_, 0, none⟩ 1 1 rfl rfl ?d1 ?d2 ?d3 ?_)
            case d1 => exact cell_row_at _ _ _ _ (by simp)
            case d2 => have := hwl.out; simp only [List.length_singleton]; omega
            case d3 => first | omega | (simp; done) | (simp; omega)
            intro v4 x4 hown4 hg4 _
            have hb4 : Below w.heap.size w x4 := (hbw.alloc hz9 _).grown hg4 (by first | omega | (simp; done) | (simp; omega)) (fun k h => (hown.lt k h).1)
            clear hg4 hown hbw
            rw [← hw1.out] at hown4
            go_wp2_with fail
            go_roundw
            case rel => exact ⟨k + 1, by omega, by go_num, hown4, hb4⟩
            case measure => simp [intOf]; omega

        · have hk1' : ¬ (k : Int) + 1 < n := by omega
          have d0 : decide ((k : Int) + 1 < n) = false := decide_eq_false hk1'
          have q0 : IntKind.i64.wrap ((k : Int) + 1) = (k : Int) + 1 := IntWalk.i64_in _ (by omega)
          have e2 := Lib.hid (hla.out.2 (List.getElem?_eq_none_iff.2 (by have := hnl.out; omega)))
          have CB : ∀ W : World, Below w.heap.size w W → True := fun _ _ => trivial
          go_upto_region 7 with fail
          refine wx_begin (none) [] (by kernel_rfl) (fun u0 hb0' hz0' => ?_)
          replace hC := hC.below hb0'
          replace hL := hL.below hb0'
          replace hown := hown.below hb0'
          replace hbw := hbw.trans (hb0'.mono hbw.size)
          clear hb0' hz0'
          refine wx_pure (i := 0) (d := some 24) (v := ?_) (by simp only [List.getElem?_toArray, List.getElem?_cons_succ, List.getElem?_cons_zero] <;> rfl) (by rfl) (by kernel_rfl) (by kernel_rfl) (by kernel_rfl) (fun _ _ _ h => h) (by rfl) ?_ ?_
          rotate_left
          · ((intro u); go_simp; try with_reducible rfl)
          try simp only [Act.put, List.setIfInBounds_toArray, List.set_cons_zero, List.set_cons_succ]
          refine wx_pure (i := 1) (d := some 25) (v := ?_) (by simp only [List.getElem?_toArray, List.getElem?_cons_succ, List.getElem?_cons_zero] <;> rfl) (by rfl) (by kernel_rfl) (by kernel_rfl) (by kernel_rfl) (fun _ _ _ h => h) (by rfl) ?_ ?_
          rotate_left
          · ((intro u); go_simp; try with_reducible rfl)
          try simp only [Act.put, List.setIfInBounds_toArray, List.set_cons_zero, List.set_cons_succ]
          refine wx_pure (i := 2) (d := some 26) (v := ?_) (by simp only [List.getElem?_toArray, List.getElem?_cons_succ, List.getElem?_cons_zero] <;> rfl) (by rfl) (by kernel_rfl) (by kernel_rfl) (by kernel_rfl) (fun _ _ _ h => h) (by rfl) ?_ ?_
          rotate_left
          · ((intro u); go_simp; try with_reducible rfl)
          try simp only [Act.put, List.setIfInBounds_toArray, List.set_cons_zero, List.set_cons_succ]
          refine wx_pure (i := 3) (d := some 27) (v := ?_) (by simp only [List.getElem?_toArray, List.getElem?_cons_succ, List.getElem?_cons_zero] <;> rfl) (by rfl) (by kernel_rfl) (by kernel_rfl) (by kernel_rfl) (fun _ _ _ h => h) (by rfl) ?_ ?_
          rotate_left
          · ((intro u); go_simp; try with_reducible rfl)
          try simp only [Act.put, List.setIfInBounds_toArray, List.set_cons_zero, List.set_cons_succ]
          refine wx_pure (i := 4) (d := some 28) (v := ?_) (by simp only [List.getElem?_toArray, List.getElem?_cons_succ, List.getElem?_cons_zero] <;> rfl) (by rfl) (by kernel_rfl) (by kernel_rfl) (by kernel_rfl) (fun _ _ _ h => h) (by rfl) ?_ ?_
          rotate_left
          · ((intro u); go_simp; try with_reducible rfl)
          try simp only [Act.put, List.setIfInBounds_toArray, List.set_cons_zero, List.set_cons_succ]
          refine wx_pure (i := 5) (d := some 29) (v := ?_) (by simp only [List.getElem?_toArray, List.getElem?_cons_succ, List.getElem?_cons_zero] <;> rfl) (by rfl) (by kernel_rfl) (by kernel_rfl) (by kernel_rfl) (fun _ _ _ h => h) (by rfl) ?_ ?_
          rotate_left
          · ((intro u); go_simp; try with_reducible rfl)
          try simp only [Act.put, List.setIfInBounds_toArray, List.set_cons_zero, List.set_cons_succ]
          refine wx_skip (i := 6) (d := some 30) (by simp only [List.getElem?_toArray, List.getElem?_cons_succ, List.getElem?_cons_zero] <;> rfl) (by rfl) (by kernel_rfl) (by kernel_rfl) (by kernel_rfl) (fun _ _ _ h => h) (by rfl) ?_
          try simp only [Act.put, List.setIfInBounds_toArray, List.set_cons_zero, List.set_cons_succ]
          refine wx_skip (i := 7) (d := some 31) (by simp only [List.getElem?_toArray, List.getElem?_cons_succ, List.getElem?_cons_zero] <;> rfl) (by rfl) (by kernel_rfl) (by kernel_rfl) (by kernel_rfl) (fun _ _ _ h => h) (by rfl) ?_
          try simp only [Act.put, List.setIfInBounds_toArray, List.set_cons_zero, List.set_cons_succ]
          refine wx_skip (i := 8) (d := some 32) (by simp only [List.getElem?_toArray, List.getElem?_cons_succ, List.getElem?_cons_zero] <;> rfl) (by rfl) (by kernel_rfl) (by kernel_rfl) (by kernel_rfl) (fun _ _ _ h => h) (by rfl) ?_
          try simp only [Act.put, List.setIfInBounds_toArray, List.set_cons_zero, List.set_cons_succ]
          refine wx_skip (i := 9) (d := some 33) (by simp only [List.getElem?_toArray, List.getElem?_cons_succ, List.getElem?_cons_zero] <;> rfl) (by rfl) (by kernel_rfl) (by kernel_rfl) (by kernel_rfl) (fun _ _ _ h => h) (by rfl) ?_
          try simp only [Act.put, List.setIfInBounds_toArray, List.set_cons_zero, List.set_cons_succ]
          refine wx_skip (i := 10) (d := some 34) (by simp only [List.getElem?_toArray, List.getElem?_cons_succ, List.getElem?_cons_zero] <;> rfl) (by rfl) (by kernel_rfl) (by kernel_rfl) (by kernel_rfl) (fun _ _ _ h => h) (by rfl) ?_
          try simp only [Act.put, List.setIfInBounds_toArray, List.set_cons_zero, List.set_cons_succ]
          refine wx_skip (i := 11) (d := some 35) (by simp only [List.getElem?_toArray, List.getElem?_cons_succ, List.getElem?_cons_zero] <;> rfl) (by rfl) (by kernel_rfl) (by kernel_rfl) (by kernel_rfl) (fun _ _ _ h => h) (by rfl) ?_
          try simp only [Act.put, List.setIfInBounds_toArray, List.set_cons_zero, List.set_cons_succ]
          refine wx_skip (i := 12) (d := some 36) (by simp only [List.getElem?_toArray, List.getElem?_cons_succ, List.getElem?_cons_zero] <;> rfl) (by rfl) (by kernel_rfl) (by kernel_rfl) (by kernel_rfl) (fun _ _ _ h => h) (by rfl) ?_
          try simp only [Act.put, List.setIfInBounds_toArray, List.set_cons_zero, List.set_cons_succ]
          refine wx_skip (i := 13) (d := some 37) (by simp only [List.getElem?_toArray, List.getElem?_cons_succ, List.getElem?_cons_zero] <;> rfl) (by rfl) (by kernel_rfl) (by kernel_rfl) (by kernel_rfl) (fun _ _ _ h => h) (by rfl) ?_
          try simp only [Act.put, List.setIfInBounds_toArray, List.set_cons_zero, List.set_cons_succ]
          refine wx_skip (i := 14) (d := some 38) (by simp only [List.getElem?_toArray, List.getElem?_cons_succ, List.getElem?_cons_zero] <;> rfl) (by rfl) (by kernel_rfl) (by kernel_rfl) (by kernel_rfl) (fun _ _ _ h => h) (by rfl) ?_
          try simp only [Act.put, List.setIfInBounds_toArray, List.set_cons_zero, List.set_cons_succ]
          refine wx_pure (i := 15) (d := some 39) (v := ?_) (by simp only [List.getElem?_toArray, List.getElem?_cons_succ, List.getElem?_cons_zero] <;> rfl) (by rfl) (by kernel_rfl) (by kernel_rfl) (by kernel_rfl) (fun _ _ _ h => h) (by rfl) ?_ ?_
          rotate_left
          · ((intro u); go_simp; try with_reducible rfl)
          try simp only [Act.put, List.setIfInBounds_toArray, List.set_cons_zero, List.set_cons_succ]
          refine wx_done (by kernel_rfl) ?_ _
          skip
          have k3 := hC.ld rowAd rfl
          have k4 : (ldT 28 (.pointer (some ⟨w2.heap.size, 0, none⟩))).run Tryz.prog u0 = .ok (.value (adA (adOf (lastC cs k a)))) u0 := by rw [e2.out, ← hT.out]; exact hL.ld rowAd rfl
          have hz9 := hbw.size
          go_wp2_with (at_builtin; refine wpList_app tyeRg rfl _ _ rfl w.heap.size _ _ [(a, adOf (lastC cs k a))] rfl (hown.alloc' _) ⟨_, 0, none⟩ 1 1 rfl rfl ?e1 ?e2 ?e3 ?_)
          case e1 => exact cell_row_at _ _ _ _ (by simp)
          case e2 => have := hwl.out; simp only [List.length_singleton]; omega
          case e3 => first | omega | (simp; done) | (simp; omega)
          intro v4 x4 hown4 hg4 _
          have hb4 : Below w.heap.size w x4 := (hbw.alloc hz9 _).grown hg4 (by first | omega | (simp; done) | (simp; omega)) (fun k h => (hown.lt k h).1)
          clear hg4 hown hbw
          rw [← hw1.out] at hown4
          go_wp2_with fail
          go_roundw
          case rel => exact ⟨k + 1, by omega, by go_num, hown4, hb4⟩
          case measure => simp [intOf]; omega

    · have hkn : k = n := by omega
      have hall := Lib.hid (whL_in hc.out h hsame.out)
      have hRR := Lib.hid (whL_R hc.out h k)
      have hlen := Lib.hid (whL_len cs h k)
      obtain ⟨A2, cap2, rfl, hSl⟩ := hown.sl
      have HJ := Lib.hid (joinRg_any A2 _ cap2 (whL cs h k) wr hSl (by have := hlen.out; omega) hRR.out)
      have hin : Hid (∀ m, InA (whL cs h k) m ↔ Val m ∧ h m = true) := Lib.hid (by rw [hkn, hnl.out]; exact hall.out)
      clear hown hSl hkn hall
      generalize whL cs h k = Wl at *
      generalize hWn : Wl.length = Wn at *
      replace hWn := Lib.hid hWn
      go_wp2_with fail
      refine HJ.out.mono ?_
      rintro e w2 ⟨zs, hj, hl, ⟨A3, cap3, rfl, hS3, hA3⟩, hb3⟩
      have hfin := Lib.hid (show Tells zs (fun m => Val m ∧ h m = true) from hj.tells.iff hin.out)
      have hbs := hbw.size
      replace hbw := hbw.trans (hb3.mono hbs)
      have hln : Hid (zs.length ≤ n) := Lib.hid (by have := hlen.out; omega)
      replace hS3 := Lib.hid hS3
      replace hA3 := Lib.hid hA3
      generalize hm : zs.length = m at *
      replace hm := Lib.hid hm
      clear HJ hb3 hj
      go_wp2_with fail
      go_ret
      exact ⟨zs, hfin.out, by rw [hm.out]; exact hln.out, ⟨A3, cap3, by rw [hm.out]; rfl, by rw [hm.out]; exact hS3.out, fun g off e => ⟨Nat.le_trans hbs (hA3.out g off e).1, (hA3.out g off e).2⟩⟩, hbw⟩
end Go.Proofs.YthjhokicojgpbaaGreatDoor
