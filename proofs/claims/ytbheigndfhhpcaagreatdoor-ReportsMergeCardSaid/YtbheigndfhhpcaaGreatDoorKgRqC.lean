/- Reports: what the reference makes of two lists. -/
import Derived.Test.YtbheigndfhhpcaaGreatDoorKgRqB
namespace Go.Proofs.YtbheigndfhhpcaaGreatDoor
open Go.RowKit
set_option linter.unusedVariables false
set_option linter.unusedSimpArgs false

set_option maxHeartbeats 4000000 in
set_option maxRecDepth 100000 in
theorem reportsOf_any (A1 A2 : Option Addr) (n1 c1 n2 c2 : Nat) (ps rs : List Rp) (w : World) (s1 : SlE eRp w A1 n1 c1 ps) (s2 : SlE eRp w A2 n2 c2 rs) (hU : ∀ x ∈ ps ++ rs, x.U) (h20 : n1 + n2 ≤ 20) :
    Calls Tryz.prog 14 #[.slice A1 n1 c1, .slice A2 n2 c2] w (MgP w (ps ++ rs)) := by
  have hvA : Below w.heap.size w (w.alloc (.cells #[.slice A1 n1 c1, .slice A2 n2 c2] 26)) := (Below.refl _ _).alloc (Nat.le_refl _) _
  have hlen : (ps ++ rs).length ≤ 20 := by rw [List.length_append, ← s1.1, ← s2.1]; omega
  have HC := Lib.hid (concatRp_any w.heap.size n1 c1 n2 c2 A1 A2 ps rs _ (Blk.new w [.slice A1 n1 c1, .slice A2 n2 c2] 26) (s1.below hvA) (s2.below hvA) (by omega) (by omega))
  replace hU := Lib.hid hU
  replace hlen := Lib.hid hlen
  clear s1 s2 h20
  generalize ps ++ rs = ms at *
  go_enter Tryz.func14, Tryz.ntmps14
  go_wp2_with fail
  refine HC.out.mono ?_
  rintro e w1 ⟨⟨v, rfl, hown⟩, hb1⟩
  have hbw := hvA.trans (hb1.mono hvA.size)
  have hB1 := hb1.size
  generalize hBB : (w.alloc (.cells #[.slice A1 n1 c1, .slice A2 n2 c2] 26)).heap.size = B at *
  have hBw : w.heap.size ≤ B := by rw [← hBB]; exact hvA.size
  clear HC hb1 hvA hBB
  obtain ⟨Av, capv, hv, _⟩ := hown.sl
  have HS := Lib.hid (stableAll_any B Av ms.length capv v hv ms w1 hown hU.out hB1 rfl hlen.out)
  clear hown hv
  go_wp2_with fail
  refine HS.out.mono ?_
  intro e w2 hq
  obtain ⟨rfl, qs, hp, hs, hown, hb2⟩ := hq
  have hB2 : B ≤ w2.heap.size := Nat.le_trans hB1 hb2.size
  replace hbw := hbw.trans (hb2.mono hBw)
  have hql := Lib.hid (show qs.length ≤ 6000 by rw [hp.length_eq]; have := hlen.out; omega)
  have HK := Lib.hid (compactAll_any B v qs w2 hown (by have := hql.out; omega) hB2)
  replace hs := Lib.hid hs
  replace hp := Lib.hid hp
  clear HS hb2 hown
  go_wp2_with fail
  refine HK.out.mono ?_
  rintro e w3 ⟨A, m, cap, rfl, hS, hm, hb3⟩
  replace hbw := hbw.trans (hb3.mono hBw)
  have hm6 : m ≤ 6000 := Nat.le_trans hm hql.out
  have hUz := Lib.hid (fun z (hz : z ∈ sqz qs qs.length) => hU.out z (((left_of hp.out hs.out).2.2 z).1 hz))
  have HMG := Lib.hid (fun hn => mg_of hp.out hs.out hn)
  have HCF := Lib.hid (fun i x y hx hy h0 => conf_of (i := i) (x := x) (y := y) hp.out hs.out hx hy h0)
  clear HK hb3 hm hql hp hs hB2 hB1 hBw hU hlen
  generalize sqz qs qs.length = zs at *
  replace hS := Lib.hid hS
  go_wp2_with fail
  go_loopw [18] (fun vi wr => ∃ k : Nat, vi = .int .i64 k ∧ k ≤ m ∧ Hid (∀ i x y, i + 1 < k → zs[i]? = some x → zs[i + 1]? = some y → cmpRp x y ≠ 0) ∧ Hid (SlE eRp wr A m cap zs) ∧ Below w.heap.size w wr) (fun vi _ => m - (intOf vi).toNat)
  case atStart => exact ⟨0, rfl, Nat.zero_le _, Lib.hid (fun i x y h => absurd h (Nat.not_lt_zero _)), hS, hbw⟩
  case round =>
    clear hS hbw
    obtain ⟨k, rfl, hk, hI, hS, hbw⟩ := hrel
    by_cases hlt : k < m
    · have hbr := Below.refl wr.heap.size wr
      have hlt' : (k : Int) < m := by omega
      by_cases hk0 : k = 0
      · subst hk0
        have hI2 := Lib.hid (show ∀ i x y, i + 1 < 0 + 1 → zs[i]? = some x → zs[i + 1]? = some y → cmpRp x y ≠ 0 from fun i x y h => by omega)
        clear hI
        go_upto_region 7 with fail
        refine wb_begin ([]) [] (by kernel_rfl) (fun u0 hb0' hz0' => ?_)
        replace hbr := hbr.trans (hb0'.mono hbr.size)
        clear hb0' hz0'
        refine wb_pure (i := 0) (d := some 21) (v := ?_) (by simp only [List.getElem?_toArray, List.getElem?_cons_succ, List.getElem?_cons_zero] <;> rfl) (by rfl) (by kernel_rfl) (by kernel_rfl) (by kernel_rfl) (fun _ _ _ h => h) (by rfl) ?_ ?_
        rotate_left
        · ((intro u); go_simp; try with_reducible rfl)
        try simp only [Act.put, List.setIfInBounds_toArray, List.set_cons_zero, List.set_cons_succ]
        refine wb_pure (i := 1) (d := some 22) (v := ?_) (by simp only [List.getElem?_toArray, List.getElem?_cons_succ, List.getElem?_cons_zero] <;> rfl) (by rfl) (by kernel_rfl) (by kernel_rfl) (by kernel_rfl) (fun _ _ _ h => h) (by rfl) ?_ ?_
        rotate_left
        · ((intro u); go_simp; try with_reducible rfl)
        try simp only [Act.put, List.setIfInBounds_toArray, List.set_cons_zero, List.set_cons_succ]
        refine wb_pure (i := 2) (d := some 23) (v := ?_) (by simp only [List.getElem?_toArray, List.getElem?_cons_succ, List.getElem?_cons_zero] <;> rfl) (by rfl) (by kernel_rfl) (by kernel_rfl) (by kernel_rfl) (fun _ _ _ h => h) (by rfl) ?_ ?_
        rotate_left
        · ((intro u); go_simp; try with_reducible rfl)
        try simp only [Act.put, List.setIfInBounds_toArray, List.set_cons_zero, List.set_cons_succ]
        refine wb_skip (i := 3) (d := some 24) (by simp only [List.getElem?_toArray, List.getElem?_cons_succ, List.getElem?_cons_zero] <;> rfl) (by rfl) (by kernel_rfl) (by kernel_rfl) (by kernel_rfl) (fun _ _ _ h => h) (by rfl) ?_
        try simp only [Act.put, List.setIfInBounds_toArray, List.set_cons_zero, List.set_cons_succ]
        refine wb_skip (i := 4) (d := some 25) (by simp only [List.getElem?_toArray, List.getElem?_cons_succ, List.getElem?_cons_zero] <;> rfl) (by rfl) (by kernel_rfl) (by kernel_rfl) (by kernel_rfl) (fun _ _ _ h => h) (by rfl) ?_
        try simp only [Act.put, List.setIfInBounds_toArray, List.set_cons_zero, List.set_cons_succ]
        refine wb_skip (i := 5) (d := some 26) (by simp only [List.getElem?_toArray, List.getElem?_cons_succ, List.getElem?_cons_zero] <;> rfl) (by rfl) (by kernel_rfl) (by kernel_rfl) (by kernel_rfl) (fun _ _ _ h => h) (by rfl) ?_
        try simp only [Act.put, List.setIfInBounds_toArray, List.set_cons_zero, List.set_cons_succ]
        refine wb_skip (i := 6) (d := some 27) (by simp only [List.getElem?_toArray, List.getElem?_cons_succ, List.getElem?_cons_zero] <;> rfl) (by rfl) (by kernel_rfl) (by kernel_rfl) (by kernel_rfl) (fun _ _ _ h => h) (by rfl) ?_
        try simp only [Act.put, List.setIfInBounds_toArray, List.set_cons_zero, List.set_cons_succ]
        refine wb_skip (i := 7) (d := some 28) (by simp only [List.getElem?_toArray, List.getElem?_cons_succ, List.getElem?_cons_zero] <;> rfl) (by rfl) (by kernel_rfl) (by kernel_rfl) (by kernel_rfl) (fun _ _ _ h => h) (by rfl) ?_
        try simp only [Act.put, List.setIfInBounds_toArray, List.set_cons_zero, List.set_cons_succ]
        refine wb_skip (i := 8) (d := some 29) (by simp only [List.getElem?_toArray, List.getElem?_cons_succ, List.getElem?_cons_zero] <;> rfl) (by rfl) (by kernel_rfl) (by kernel_rfl) (by kernel_rfl) (fun _ _ _ h => h) (by rfl) ?_
        try simp only [Act.put, List.setIfInBounds_toArray, List.set_cons_zero, List.set_cons_succ]
        refine wb_skip (i := 9) (d := some 30) (by simp only [List.getElem?_toArray, List.getElem?_cons_succ, List.getElem?_cons_zero] <;> rfl) (by rfl) (by kernel_rfl) (by kernel_rfl) (by kernel_rfl) (fun _ _ _ h => h) (by rfl) ?_
        try simp only [Act.put, List.setIfInBounds_toArray, List.set_cons_zero, List.set_cons_succ]
        refine wb_skip (i := 10) (d := some 31) (by simp only [List.getElem?_toArray, List.getElem?_cons_succ, List.getElem?_cons_zero] <;> rfl) (by rfl) (by kernel_rfl) (by kernel_rfl) (by kernel_rfl) (fun _ _ _ h => h) (by rfl) ?_
        try simp only [Act.put, List.setIfInBounds_toArray, List.set_cons_zero, List.set_cons_succ]
        refine wb_skip (i := 11) (d := some 32) (by simp only [List.getElem?_toArray, List.getElem?_cons_succ, List.getElem?_cons_zero] <;> rfl) (by rfl) (by kernel_rfl) (by kernel_rfl) (by kernel_rfl) (fun _ _ _ h => h) (by rfl) ?_
        try simp only [Act.put, List.setIfInBounds_toArray, List.set_cons_zero, List.set_cons_succ]
        refine wb_skip (i := 12) (d := some 33) (by simp only [List.getElem?_toArray, List.getElem?_cons_succ, List.getElem?_cons_zero] <;> rfl) (by rfl) (by kernel_rfl) (by kernel_rfl) (by kernel_rfl) (fun _ _ _ h => h) (by rfl) ?_
        try simp only [Act.put, List.setIfInBounds_toArray, List.set_cons_zero, List.set_cons_succ]
        refine wb_skip (i := 13) (d := some 34) (by simp only [List.getElem?_toArray, List.getElem?_cons_succ, List.getElem?_cons_zero] <;> rfl) (by rfl) (by kernel_rfl) (by kernel_rfl) (by kernel_rfl) (fun _ _ _ h => h) (by rfl) ?_
        try simp only [Act.put, List.setIfInBounds_toArray, List.set_cons_zero, List.set_cons_succ]
        refine wb_pure (i := 14) (d := some 35) (v := ?_) (by simp only [List.getElem?_toArray, List.getElem?_cons_succ, List.getElem?_cons_zero] <;> rfl) (by rfl) (by kernel_rfl) (by kernel_rfl) (by kernel_rfl) (fun _ _ _ h => h) (by rfl) ?_ ?_
        rotate_left
        · ((intro u); go_simp; try with_reducible rfl)
        try simp only [Act.put, List.setIfInBounds_toArray, List.set_cons_zero, List.set_cons_succ]
        refine wb_done (by kernel_rfl) ?_ _
        skip
        go_wp2_with fail
        go_roundw
        case rel => exact ⟨0 + 1, by go_num, by omega, hI2, Lib.hid (hS.out.below hbr), hbw.trans (hbr.mono hbw.size)⟩
        case measure => simp [intOf]; omega
      · obtain ⟨x, hx⟩ : ∃ x, zs[k - 1]? = some x := ⟨zs[k - 1]'(by have := hS.out.1; omega), List.getElem?_eq_getElem _⟩
        obtain ⟨y, hy⟩ : ∃ y, zs[k]? = some y := ⟨zs[k]'(by have := hS.out.1; omega), List.getElem?_eq_getElem _⟩
        have hS1 := hS.out
        obtain ⟨g, off, rfl, hgl, _⟩ := hS1.at' hlt
        have hx1 : World.rangeAt wr g (off + (k - 1) * 14) (rpC x) := hS1.range hx
        have hx2 : World.rangeAt wr g (off + k * 14) (rpC y) := hS1.range hy
        have HC := Lib.hid (fun W => repOrder_d x y W (hUz.out x (List.mem_of_getElem? hx)) (hUz.out y (List.mem_of_getElem? hy)))
        have hkz : (0 : Int) < k := by omega
        have hkN : 0 < k := by omega
        have hi1 : (1 : Int) ≤ k := by omega
        have hi2 : (k : Int) - 1 < m := by omega
        have hkD : decide (0 < k) = true := decide_eq_true hkN
        have e1 : IntKind.i64.wrap ((k : Int) - 1) = (k : Int) - 1 := IntWalk.i64_in _ (by omega)
        have hy1 : zs[k - 1 + 1]? = some y := by rw [show k - 1 + 1 = k by omega]; exact hy
        have hcf := Lib.hid (HCF.out (k - 1) x y hx hy1)
        have hnx : Hid (cmpRp x y ≠ 0 → ∀ i a b, i + 1 < k + 1 → zs[i]? = some a → zs[i + 1]? = some b → cmpRp a b ≠ 0) := Lib.hid (fun hc i a b hi ha hb => by
          rcases Nat.lt_or_ge (i + 1) k with h | h
          · exact hI.out i a b h ha hb
          · have e : i = k - 1 := by omega
            subst e
            rw [hx] at ha; rw [hy1] at hb; cases ha; cases hb; exact hc)
        generalize cmpRp x y = C at HC hcf hnx
        clear hI hx hy hy1 hS1 hk0
        by_cases hC : C = 0
        · subst hC
          go_upto_region 7 with fail
          refine wb_begin ([g]) [] (by kernel_rfl) (fun u0 hb0' hz0' => ?_)
          replace hx1 := rangeAt_kb hx1 (hb0'.block _ hgl)
          replace hx2 := rangeAt_kb hx2 (hb0'.block _ hgl)
          replace hgl := Nat.lt_of_lt_of_le hgl hb0'.size
          replace hbr := hbr.trans (hb0'.mono hbr.size)
          clear hb0' hz0'
          refine wb_pure (i := 0) (d := some 21) (v := ?_) (by simp only [List.getElem?_toArray, List.getElem?_cons_succ, List.getElem?_cons_zero] <;> rfl) (by rfl) (by kernel_rfl) (by kernel_rfl) (by kernel_rfl) (fun _ _ _ h => h) (by rfl) ?_ ?_
          rotate_left
          · ((intro u); go_simp; try with_reducible rfl)
          try simp only [Act.put, List.setIfInBounds_toArray, List.set_cons_zero, List.set_cons_succ]
          refine wb_pure (i := 1) (d := some 22) (v := ?_) (by simp only [List.getElem?_toArray, List.getElem?_cons_succ, List.getElem?_cons_zero] <;> rfl) (by rfl) (by kernel_rfl) (by kernel_rfl) (by kernel_rfl) (fun _ _ _ h => h) (by rfl) ?_ ?_
          rotate_left
          · ((intro u); go_simp; try with_reducible rfl)
          try simp only [Act.put, List.setIfInBounds_toArray, List.set_cons_zero, List.set_cons_succ]
          refine wb_pure (i := 2) (d := some 23) (v := ?_) (by simp only [List.getElem?_toArray, List.getElem?_cons_succ, List.getElem?_cons_zero] <;> rfl) (by rfl) (by kernel_rfl) (by kernel_rfl) (by kernel_rfl) (fun _ _ _ h => h) (by rfl) ?_ ?_
          rotate_left
          · ((intro u); go_simp; try with_reducible rfl)
          try simp only [Act.put, List.setIfInBounds_toArray, List.set_cons_zero, List.set_cons_succ]
          refine wb_pure (i := 3) (d := some 24) (v := ?_) (by simp only [List.getElem?_toArray, List.getElem?_cons_succ, List.getElem?_cons_zero] <;> rfl) (by rfl) (by kernel_rfl) (by kernel_rfl) (by kernel_rfl) (fun _ _ _ h => h) (by rfl) ?_ ?_
          rotate_left
          · ((intro u); go_simp; try with_reducible rfl)
          try simp only [Act.put, List.setIfInBounds_toArray, List.set_cons_zero, List.set_cons_succ]
          refine wb_pure (i := 4) (d := some 25) (v := ?_) (by simp only [List.getElem?_toArray, List.getElem?_cons_succ, List.getElem?_cons_zero] <;> rfl) (by rfl) (by kernel_rfl) (by kernel_rfl) (by kernel_rfl) (fun _ _ _ h => h) (by rfl) ?_ ?_
          rotate_left
          · ((intro u); go_simp; try with_reducible rfl)
          try simp only [Act.put, List.setIfInBounds_toArray, List.set_cons_zero, List.set_cons_succ]
          refine wb_pure (i := 5) (d := some 26) (v := ?_) (by simp only [List.getElem?_toArray, List.getElem?_cons_succ, List.getElem?_cons_zero] <;> rfl) (by rfl) (by kernel_rfl) (by kernel_rfl) (by kernel_rfl) (fun _ _ _ h => h) (by rfl) ?_ ?_
          rotate_left
          · ((intro u); go_simp; try with_reducible rfl)
          try simp only [Act.put, List.setIfInBounds_toArray, List.set_cons_zero, List.set_cons_succ]
          refine wb_pure (i := 6) (d := some 27) (v := ?_) (by simp only [List.getElem?_toArray, List.getElem?_cons_succ, List.getElem?_cons_zero] <;> rfl) (by rfl) (by kernel_rfl) (by kernel_rfl) (by kernel_rfl) (fun _ _ _ h => h) (by rfl) ?_ ?_
          rotate_left
          · ((intro u); go_simp; try with_reducible rfl)
          try simp only [Act.put, List.setIfInBounds_toArray, List.set_cons_zero, List.set_cons_succ]
          refine wb_take (i := 7) (d := some 28) (v := ?_) (by simp only [List.getElem?_toArray, List.getElem?_cons_succ, List.getElem?_cons_zero] <;> rfl) (by rfl) (by kernel_rfl) (by kernel_rfl) (by kernel_rfl) (fun _ _ _ h => h) (by rfl) (by kernel_rfl) ?_ ?_
          rotate_left
          · ((intro u hu); have k1 := ldT_run rowRp (rpC_len x) (rangeAt_kb hx1 (hu g (by simp))); have k2 := ldT_run rowRp (rpC_len y) (rangeAt_kb hx2 (hu g (by simp))); go_simp; try with_reducible rfl)
          try simp only [Act.put, List.setIfInBounds_toArray, List.set_cons_zero, List.set_cons_succ]
          refine wb_pure (i := 8) (d := some 29) (v := ?_) (by simp only [List.getElem?_toArray, List.getElem?_cons_succ, List.getElem?_cons_zero] <;> rfl) (by rfl) (by kernel_rfl) (by kernel_rfl) (by kernel_rfl) (fun _ _ _ h => h) (by rfl) ?_ ?_
          rotate_left
          · ((intro u); go_simp; try with_reducible rfl)
          try simp only [Act.put, List.setIfInBounds_toArray, List.set_cons_zero, List.set_cons_succ]
          refine wb_pure (i := 9) (d := some 30) (v := ?_) (by simp only [List.getElem?_toArray, List.getElem?_cons_succ, List.getElem?_cons_zero] <;> rfl) (by rfl) (by kernel_rfl) (by kernel_rfl) (by kernel_rfl) (fun _ _ _ h => h) (by rfl) ?_ ?_
          rotate_left
          · ((intro u); go_simp; try with_reducible rfl)
          try simp only [Act.put, List.setIfInBounds_toArray, List.set_cons_zero, List.set_cons_succ]
          refine wb_pure (i := 10) (d := some 31) (v := ?_) (by simp only [List.getElem?_toArray, List.getElem?_cons_succ, List.getElem?_cons_zero] <;> rfl) (by rfl) (by kernel_rfl) (by kernel_rfl) (by kernel_rfl) (fun _ _ _ h => h) (by rfl) ?_ ?_
          rotate_left
          · ((intro u); go_simp; try with_reducible rfl)
          try simp only [Act.put, List.setIfInBounds_toArray, List.set_cons_zero, List.set_cons_succ]
          refine wb_take (i := 11) (d := some 32) (v := ?_) (by simp only [List.getElem?_toArray, List.getElem?_cons_succ, List.getElem?_cons_zero] <;> rfl) (by rfl) (by kernel_rfl) (by kernel_rfl) (by kernel_rfl) (fun _ _ _ h => h) (by rfl) (by kernel_rfl) ?_ ?_
          rotate_left
          · ((intro u hu); have k1 := ldT_run rowRp (rpC_len x) (rangeAt_kb hx1 (hu g (by simp))); have k2 := ldT_run rowRp (rpC_len y) (rangeAt_kb hx2 (hu g (by simp))); go_simp; try with_reducible rfl)
          try simp only [Act.put, List.setIfInBounds_toArray, List.set_cons_zero, List.set_cons_succ]
          refine wb_one (i := 12) (by simp only [List.getElem?_toArray, List.getElem?_cons_succ, List.getElem?_cons_zero] <;> rfl) (by kernel_rfl) (by rfl) (fun K hK => ?_)
          go_simp
          refine (HC.out _).mono ?_
          rintro e u12 ⟨rfl, hg1⟩
          have hv1 := hg1.below
          refine hK _ _ (Kb.below hv1 (by intro q hq; rw [List.mem_singleton.1 hq]; exact hgl)) ?_
          replace hx1 := rangeAt_kb hx1 (hv1.block _ hgl)
          replace hx2 := rangeAt_kb hx2 (hv1.block _ hgl)
          replace hgl := Nat.lt_of_lt_of_le hgl hv1.size
          replace hbr := hbr.trans (hv1.mono hbr.size)
          clear hK K hv1 hg1
          try simp only [Act.put, List.setIfInBounds_toArray, List.set_cons_zero, List.set_cons_succ]
          refine wb_pure (i := 13) (d := some 34) (v := ?_) (by simp only [List.getElem?_toArray, List.getElem?_cons_succ, List.getElem?_cons_zero] <;> rfl) (by rfl) (by kernel_rfl) (by kernel_rfl) (by kernel_rfl) (fun _ _ _ h => h) (by rfl) ?_ ?_
          rotate_left
          · ((intro u); go_simp; try with_reducible rfl)
          try simp only [Act.put, List.setIfInBounds_toArray, List.set_cons_zero, List.set_cons_succ]
          refine wb_pure (i := 14) (d := some 35) (v := ?_) (by simp only [List.getElem?_toArray, List.getElem?_cons_succ, List.getElem?_cons_zero] <;> rfl) (by rfl) (by kernel_rfl) (by kernel_rfl) (by kernel_rfl) (fun _ _ _ h => h) (by rfl) ?_ ?_
          rotate_left
          · ((intro u); go_simp; try with_reducible rfl)
          try simp only [Act.put, List.setIfInBounds_toArray, List.set_cons_zero, List.set_cons_succ]
          refine wb_done (by kernel_rfl) ?_ _
          skip
          go_wp2_with fail
          go_ret2
          exact ⟨hbw.trans (hbr.mono hbw.size), .inl ⟨by first | exact hcf.out rfl | exact hcf.out trivial, rfl⟩⟩
        · have hCb : (C == 0) = false := by simpa using hC
          go_upto_region 7 with fail
          refine wb_begin ([g]) [] (by kernel_rfl) (fun u0 hb0' hz0' => ?_)
          replace hx1 := rangeAt_kb hx1 (hb0'.block _ hgl)
          replace hx2 := rangeAt_kb hx2 (hb0'.block _ hgl)
          replace hgl := Nat.lt_of_lt_of_le hgl hb0'.size
          replace hbr := hbr.trans (hb0'.mono hbr.size)
          clear hb0' hz0'
          refine wb_pure (i := 0) (d := some 21) (v := ?_) (by simp only [List.getElem?_toArray, List.getElem?_cons_succ, List.getElem?_cons_zero] <;> rfl) (by rfl) (by kernel_rfl) (by kernel_rfl) (by kernel_rfl) (fun _ _ _ h => h) (by rfl) ?_ ?_
          rotate_left
          · ((intro u); go_simp; try with_reducible rfl)
          try simp only [Act.put, List.setIfInBounds_toArray, List.set_cons_zero, List.set_cons_succ]
          refine wb_pure (i := 1) (d := some 22) (v := ?_) (by simp only [List.getElem?_toArray, List.getElem?_cons_succ, List.getElem?_cons_zero] <;> rfl) (by rfl) (by kernel_rfl) (by kernel_rfl) (by kernel_rfl) (fun _ _ _ h => h) (by rfl) ?_ ?_
          rotate_left
          · ((intro u); go_simp; try with_reducible rfl)
          try simp only [Act.put, List.setIfInBounds_toArray, List.set_cons_zero, List.set_cons_succ]
          refine wb_pure (i := 2) (d := some 23) (v := ?_) (by simp only [List.getElem?_toArray, List.getElem?_cons_succ, List.getElem?_cons_zero] <;> rfl) (by rfl) (by kernel_rfl) (by kernel_rfl) (by kernel_rfl) (fun _ _ _ h => h) (by rfl) ?_ ?_
          rotate_left
          · ((intro u); go_simp; try with_reducible rfl)
          try simp only [Act.put, List.setIfInBounds_toArray, List.set_cons_zero, List.set_cons_succ]
          refine wb_pure (i := 3) (d := some 24) (v := ?_) (by simp only [List.getElem?_toArray, List.getElem?_cons_succ, List.getElem?_cons_zero] <;> rfl) (by rfl) (by kernel_rfl) (by kernel_rfl) (by kernel_rfl) (fun _ _ _ h => h) (by rfl) ?_ ?_
          rotate_left
          · ((intro u); go_simp; try with_reducible rfl)
          try simp only [Act.put, List.setIfInBounds_toArray, List.set_cons_zero, List.set_cons_succ]
          refine wb_pure (i := 4) (d := some 25) (v := ?_) (by simp only [List.getElem?_toArray, List.getElem?_cons_succ, List.getElem?_cons_zero] <;> rfl) (by rfl) (by kernel_rfl) (by kernel_rfl) (by kernel_rfl) (fun _ _ _ h => h) (by rfl) ?_ ?_
          rotate_left
          · ((intro u); go_simp; try with_reducible rfl)
          try simp only [Act.put, List.setIfInBounds_toArray, List.set_cons_zero, List.set_cons_succ]
          refine wb_pure (i := 5) (d := some 26) (v := ?_) (by simp only [List.getElem?_toArray, List.getElem?_cons_succ, List.getElem?_cons_zero] <;> rfl) (by rfl) (by kernel_rfl) (by kernel_rfl) (by kernel_rfl) (fun _ _ _ h => h) (by rfl) ?_ ?_
          rotate_left
          · ((intro u); go_simp; try with_reducible rfl)
          try simp only [Act.put, List.setIfInBounds_toArray, List.set_cons_zero, List.set_cons_succ]
          refine wb_pure (i := 6) (d := some 27) (v := ?_) (by simp only [List.getElem?_toArray, List.getElem?_cons_succ, List.getElem?_cons_zero] <;> rfl) (by rfl) (by kernel_rfl) (by kernel_rfl) (by kernel_rfl) (fun _ _ _ h => h) (by rfl) ?_ ?_
          rotate_left
          · ((intro u); go_simp; try with_reducible rfl)
          try simp only [Act.put, List.setIfInBounds_toArray, List.set_cons_zero, List.set_cons_succ]
          refine wb_take (i := 7) (d := some 28) (v := ?_) (by simp only [List.getElem?_toArray, List.getElem?_cons_succ, List.getElem?_cons_zero] <;> rfl) (by rfl) (by kernel_rfl) (by kernel_rfl) (by kernel_rfl) (fun _ _ _ h => h) (by rfl) (by kernel_rfl) ?_ ?_
          rotate_left
          · ((intro u hu); have k1 := ldT_run rowRp (rpC_len x) (rangeAt_kb hx1 (hu g (by simp))); have k2 := ldT_run rowRp (rpC_len y) (rangeAt_kb hx2 (hu g (by simp))); go_simp; try with_reducible rfl)
          try simp only [Act.put, List.setIfInBounds_toArray, List.set_cons_zero, List.set_cons_succ]
          refine wb_pure (i := 8) (d := some 29) (v := ?_) (by simp only [List.getElem?_toArray, List.getElem?_cons_succ, List.getElem?_cons_zero] <;> rfl) (by rfl) (by kernel_rfl) (by kernel_rfl) (by kernel_rfl) (fun _ _ _ h => h) (by rfl) ?_ ?_
          rotate_left
          · ((intro u); go_simp; try with_reducible rfl)
          try simp only [Act.put, List.setIfInBounds_toArray, List.set_cons_zero, List.set_cons_succ]
          refine wb_pure (i := 9) (d := some 30) (v := ?_) (by simp only [List.getElem?_toArray, List.getElem?_cons_succ, List.getElem?_cons_zero] <;> rfl) (by rfl) (by kernel_rfl) (by kernel_rfl) (by kernel_rfl) (fun _ _ _ h => h) (by rfl) ?_ ?_
          rotate_left
          · ((intro u); go_simp; try with_reducible rfl)
          try simp only [Act.put, List.setIfInBounds_toArray, List.set_cons_zero, List.set_cons_succ]
          refine wb_pure (i := 10) (d := some 31) (v := ?_) (by simp only [List.getElem?_toArray, List.getElem?_cons_succ, List.getElem?_cons_zero] <;> rfl) (by rfl) (by kernel_rfl) (by kernel_rfl) (by kernel_rfl) (fun _ _ _ h => h) (by rfl) ?_ ?_
          rotate_left
          · ((intro u); go_simp; try with_reducible rfl)
          try simp only [Act.put, List.setIfInBounds_toArray, List.set_cons_zero, List.set_cons_succ]
          refine wb_take (i := 11) (d := some 32) (v := ?_) (by simp only [List.getElem?_toArray, List.getElem?_cons_succ, List.getElem?_cons_zero] <;> rfl) (by rfl) (by kernel_rfl) (by kernel_rfl) (by kernel_rfl) (fun _ _ _ h => h) (by rfl) (by kernel_rfl) ?_ ?_
          rotate_left
          · ((intro u hu); have k1 := ldT_run rowRp (rpC_len x) (rangeAt_kb hx1 (hu g (by simp))); have k2 := ldT_run rowRp (rpC_len y) (rangeAt_kb hx2 (hu g (by simp))); go_simp; try with_reducible rfl)
          try simp only [Act.put, List.setIfInBounds_toArray, List.set_cons_zero, List.set_cons_succ]
          refine wb_one (i := 12) (by simp only [List.getElem?_toArray, List.getElem?_cons_succ, List.getElem?_cons_zero] <;> rfl) (by kernel_rfl) (by rfl) (fun K hK => ?_)
          go_simp
          refine (HC.out _).mono ?_
          rintro e u12 ⟨rfl, hg1⟩
          have hv1 := hg1.below
          refine hK _ _ (Kb.below hv1 (by intro q hq; rw [List.mem_singleton.1 hq]; exact hgl)) ?_
          replace hx1 := rangeAt_kb hx1 (hv1.block _ hgl)
          replace hx2 := rangeAt_kb hx2 (hv1.block _ hgl)
          replace hgl := Nat.lt_of_lt_of_le hgl hv1.size
          replace hbr := hbr.trans (hv1.mono hbr.size)
          clear hK K hv1 hg1
          try simp only [Act.put, List.setIfInBounds_toArray, List.set_cons_zero, List.set_cons_succ]
          refine wb_pure (i := 13) (d := some 34) (v := ?_) (by simp only [List.getElem?_toArray, List.getElem?_cons_succ, List.getElem?_cons_zero] <;> rfl) (by rfl) (by kernel_rfl) (by kernel_rfl) (by kernel_rfl) (fun _ _ _ h => h) (by rfl) ?_ ?_
          rotate_left
          · ((intro u); go_simp; try with_reducible rfl)
          try simp only [Act.put, List.setIfInBounds_toArray, List.set_cons_zero, List.set_cons_succ]
          refine wb_pure (i := 14) (d := some 35) (v := ?_) (by simp only [List.getElem?_toArray, List.getElem?_cons_succ, List.getElem?_cons_zero] <;> rfl) (by rfl) (by kernel_rfl) (by kernel_rfl) (by kernel_rfl) (fun _ _ _ h => h) (by rfl) ?_ ?_
          rotate_left
          · ((intro u); go_simp; try with_reducible rfl)
          try simp only [Act.put, List.setIfInBounds_toArray, List.set_cons_zero, List.set_cons_succ]
          refine wb_done (by kernel_rfl) ?_ _
          skip
          go_wp2_with fail
          go_roundw
          case rel => exact ⟨k + 1, by go_num, by omega, Lib.hid (hnx.out hC), Lib.hid (hS.out.below hbr), hbw.trans (hbr.mono hbw.size)⟩
          case measure => simp [intOf]; omega
    · have hn := HMG.out (fun i x y hx hy => hI.out i x y (by
        have h1 := (List.getElem?_eq_some_iff.1 hy).1
        have h2 := hS.out.1
        omega) hx hy)
      have hlt' : ¬ (k : Int) < m := by omega
      by_cases h3 : 3000 < m
      · have h3' : (3000 : Int) < m := by omega
        clear h3 hlt
        go_wp2_with fail
        go_ret2
        exact ⟨hbw, .inr ⟨A, m, cap, zs, hn, hS.out, by omega, .inl ⟨by omega, rfl⟩⟩⟩
      · have h3' : ¬ (3000 : Int) < m := by omega
        clear h3 hlt
        go_wp2_with fail
        go_ret2
        exact ⟨hbw, .inr ⟨A, m, cap, zs, hn, hS.out, by omega, .inr ⟨by omega, rfl⟩⟩⟩
end Go.Proofs.YtbheigndfhhpcaaGreatDoor
