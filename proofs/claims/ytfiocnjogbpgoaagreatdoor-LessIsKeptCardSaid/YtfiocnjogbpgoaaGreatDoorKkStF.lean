/- Sets: what the sorts compare by. -/
import Derived.Test.YtfiocnjogbpgoaaGreatDoorKkRuD
import Derived.Test.YtfiocnjogbpgoaaGreatDoorKkFltA
namespace Go.Proofs.YtfiocnjogbpgoaaGreatDoor
open Go.RowKit
set_option linter.unusedVariables false
set_option linter.unusedSimpArgs false

/-- A value is returned; no old memory has turned, the tape may have been read on. -/
def GivesD (v : Value) (w : World) (e : Ending) (w' : World) : Prop := e = .returned v ∧ Gd w w'
theorem GivesD.v {v : Value} {w : World} {e : Ending} {w' : World} (h : GivesD v w e w') : GivesV v w e w' := ⟨h.1, h.2.below⟩

theorem orI_blk (l : List Int) (p cap : Nat) (w : World) (t : TypeId) (h : Blk w p (l.map (Value.int .i64)) t) (hl : l.length ≤ 100) :
    Calls Tryz.prog 107 #[.slice (some ⟨p, 0, none⟩) l.length cap] w fun e w' => e = .returned (.int .i64 (firstZ l)) ∧ w = w' :=
  orI_any l p cap w (fun i hi => h.cell (by simp [List.getElem?_eq_getElem hi])) hl

set_option linter.unusedSimpArgs false in
set_option maxHeartbeats 1000000 in
theorem spanCmp_d (a b : Ad) (w : World) (ha : a.U) (hb : b.U) :
    Calls Tryz.prog 251 #[adA a, adA b] w (GivesD (.int .i64 (cmpN a.n b.n)) w) := by
  have HR0 := cmpW_cmpN ha hb
  obtain ⟨⟨h1, h2⟩, ⟨h3, h4⟩⟩ := ha
  obtain ⟨⟨k1, k2⟩, ⟨k3, k4⟩⟩ := hb
  generalize cmpN a.n b.n = c at HR0 ⊢
  obtain ⟨s, hi, lo⟩ := a
  obtain ⟨t, h, l⟩ := b
  replace HR0 : cmpW (num hi lo) s (num h l) t = c := HR0
  show Calls Tryz.prog 251 #[.agg #[.bool s, .int .u64 hi, .int .u64 lo], .agg #[.bool t, .int .u64 h, .int .u64 l]] w (GivesD (.int .i64 c) w)
  simp only at h1 h2 h3 h4 k1 k2 k3 k4
  have HF : Hid (∀ u, ((w.alloc (.cells #[.bool s, .int .u64 hi, .int .u64 lo] 28)).alloc (.cells #[.bool t, .int .u64 h, .int .u64 l] 28)).grownBy u none → _) :=
    Lib.hid fun u hu => And.intro ((blk2 w [.bool s, .int .u64 hi, .int .u64 lo] [.bool t, .int .u64 h, .int .u64 l] _ _).1.gn hu).three ((blk2 w [.bool s, .int .u64 hi, .int .u64 lo] [.bool t, .int .u64 h, .int .u64 l] _ _).2.gn hu).three
  have hG : Gd w ((w.alloc (.cells #[.bool s, .int .u64 hi, .int .u64 lo] 28)).alloc (.cells #[.bool t, .int .u64 h, .int .u64 l] 28)) := ((Gd.refl w).alloc _).alloc _
  have hB := Gd.refl ((w.alloc (.cells #[.bool s, .int .u64 hi, .int .u64 lo] 28)).alloc (.cells #[.bool t, .int .u64 h, .int .u64 l] 28))
  obtain ⟨⟨c0, c1, c2, _⟩, ⟨d0, d1, d2, _⟩⟩ := HF.out _ hB.1
  by_cases hst : s = t
  · subst hst
    have HR := Lib.hid ((cmpW_halves hi lo h l s h1 h2 h3 h4 k1 k2 k3 k4).trans HR0)
    clear HR0
    go_enter Tryz.func251, Tryz.ntmps251
    go_wp2_with fail
    refine wd_begin [] (by kernel_rfl) (fun u0 hb0' hz0' => ?_)
    replace hB := hB.trans hb0'
    clear hb0' hz0'
    refine wd_pure (i := 0) (d := some 12) (v := ?_) (by simp only [List.getElem?_toArray, List.getElem?_cons_succ, List.getElem?_cons_zero] <;> rfl) (by rfl) (by kernel_rfl) (by kernel_rfl) (by kernel_rfl) (fun _ _ _ h => h) (by rfl) ?_ ?_
    rotate_left
    · ((intro u); go_simp; try with_reducible rfl)
    try simp only [Act.put, List.setIfInBounds_toArray, List.set_cons_zero, List.set_cons_succ]
    refine wd_take (i := 1) (d := some 13) (v := ?_) (by simp only [List.getElem?_toArray, List.getElem?_cons_succ, List.getElem?_cons_zero] <;> rfl) (by rfl) (by kernel_rfl) (by kernel_rfl) (by kernel_rfl) (fun _ _ _ h => h) (by rfl) (by kernel_rfl) ?_ ?_
    rotate_left
    · ((intro u hu); obtain ⟨⟨c0, c1, c2, _⟩, ⟨d0, d1, d2, _⟩⟩ := HF.out u (hB.trans hu).1; go_simp; try with_reducible rfl)
    try simp only [Act.put, List.setIfInBounds_toArray, List.set_cons_zero, List.set_cons_succ]
    refine wd_pure (i := 2) (d := some 14) (v := ?_) (by simp only [List.getElem?_toArray, List.getElem?_cons_succ, List.getElem?_cons_zero] <;> rfl) (by rfl) (by kernel_rfl) (by kernel_rfl) (by kernel_rfl) (fun _ _ _ h => h) (by rfl) ?_ ?_
    rotate_left
    · ((intro u); go_simp; try with_reducible rfl)
    try simp only [Act.put, List.setIfInBounds_toArray, List.set_cons_zero, List.set_cons_succ]
    refine wd_take (i := 3) (d := some 15) (v := ?_) (by simp only [List.getElem?_toArray, List.getElem?_cons_succ, List.getElem?_cons_zero] <;> rfl) (by rfl) (by kernel_rfl) (by kernel_rfl) (by kernel_rfl) (fun _ _ _ h => h) (by rfl) (by kernel_rfl) ?_ ?_
    rotate_left
    · ((intro u hu); obtain ⟨⟨c0, c1, c2, _⟩, ⟨d0, d1, d2, _⟩⟩ := HF.out u (hB.trans hu).1; go_simp; try with_reducible rfl)
    try simp only [Act.put, List.setIfInBounds_toArray, List.set_cons_zero, List.set_cons_succ]
    refine wd_pure (i := 5) (d := some 17) (v := ?_) (by simp only [List.getElem?_toArray, List.getElem?_cons_succ, List.getElem?_cons_zero] <;> rfl) (by rfl) (by kernel_rfl) (by kernel_rfl) (by kernel_rfl) (fun _ _ _ h => h) (by rfl) ?_ ?_
    rotate_left
    · ((intro u); go_simp; try with_reducible rfl)
    try simp only [Act.put, List.setIfInBounds_toArray, List.set_cons_zero, List.set_cons_succ]
    refine wd_take (i := 6) (d := some 18) (v := ?_) (by simp only [List.getElem?_toArray, List.getElem?_cons_succ, List.getElem?_cons_zero] <;> rfl) (by rfl) (by kernel_rfl) (by kernel_rfl) (by kernel_rfl) (fun _ _ _ h => h) (by rfl) (by kernel_rfl) ?_ ?_
    rotate_left
    · ((intro u hu); obtain ⟨⟨c0, c1, c2, _⟩, ⟨d0, d1, d2, _⟩⟩ := HF.out u (hB.trans hu).1; go_simp; try with_reducible rfl)
    try simp only [Act.put, List.setIfInBounds_toArray, List.set_cons_zero, List.set_cons_succ]
    refine wd_pure (i := 7) (d := some 19) (v := ?_) (by simp only [List.getElem?_toArray, List.getElem?_cons_succ, List.getElem?_cons_zero] <;> rfl) (by rfl) (by kernel_rfl) (by kernel_rfl) (by kernel_rfl) (fun _ _ _ h => h) (by rfl) ?_ ?_
    rotate_left
    · ((intro u); go_simp; try with_reducible rfl)
    try simp only [Act.put, List.setIfInBounds_toArray, List.set_cons_zero, List.set_cons_succ]
    refine wd_take (i := 8) (d := some 20) (v := ?_) (by simp only [List.getElem?_toArray, List.getElem?_cons_succ, List.getElem?_cons_zero] <;> rfl) (by rfl) (by kernel_rfl) (by kernel_rfl) (by kernel_rfl) (fun _ _ _ h => h) (by rfl) (by kernel_rfl) ?_ ?_
    rotate_left
    · ((intro u hu); obtain ⟨⟨c0, c1, c2, _⟩, ⟨d0, d1, d2, _⟩⟩ := HF.out u (hB.trans hu).1; go_simp; try with_reducible rfl)
    try simp only [Act.put, List.setIfInBounds_toArray, List.set_cons_zero, List.set_cons_succ]
    refine wd_one (i := 4) (by simp only [List.getElem?_toArray, List.getElem?_cons_succ, List.getElem?_cons_zero] <;> rfl) (by kernel_rfl) (by rfl) (fun K hK => ?_)
    go_simp
    refine (cmpU_any _ _ _).mono ?_
    rintro e w' ⟨rfl, rfl⟩
    refine hK _ _ (Gd.refl _) ?_
    clear hK K
    try simp only [Act.put, List.setIfInBounds_toArray, List.set_cons_zero, List.set_cons_succ]
    refine wd_one (i := 9) (by simp only [List.getElem?_toArray, List.getElem?_cons_succ, List.getElem?_cons_zero] <;> rfl) (by kernel_rfl) (by rfl) (fun K hK => ?_)
    go_simp
    refine (cmpU_any _ _ _).mono ?_
    rintro e w' ⟨rfl, rfl⟩
    refine hK _ _ (Gd.refl _) ?_
    clear hK K
    try simp only [Act.put, List.setIfInBounds_toArray, List.set_cons_zero, List.set_cons_succ]
    refine wd_one (i := 10) (by simp only [List.getElem?_toArray, List.getElem?_cons_succ, List.getElem?_cons_zero] <;> rfl) (by kernel_rfl) (by rfl) (fun K hK => ?_)
    go_simp
    refine hK _ _ ((Gd.refl _).alloc _) ?_
    clear hK K
    refine wd_new (cs := [cmpZ hi h, cmpZ lo l].map (Value.int .i64)) (fun u1 hd1 hq1 hz1 => ?_)
    replace hB := hB.trans hd1
    try simp only [Act.put, List.setIfInBounds_toArray, List.set_cons_zero, List.set_cons_succ]
    refine wd_one (i := 11) (by simp only [List.getElem?_toArray, List.getElem?_cons_succ, List.getElem?_cons_zero] <;> rfl) (by kernel_rfl) (by rfl) (fun K hK => ?_)
    go_simp
    refine (orI_blk [cmpZ hi h, cmpZ lo l] _ _ _ _ hq1 (by simp)).mono ?_
    rintro e w' ⟨rfl, rfl⟩
    refine hK _ _ (Gd.refl _) ?_
    clear hK K
    try simp only [Act.put, List.setIfInBounds_toArray, List.set_cons_zero, List.set_cons_succ]
    refine wd_pure (i := 12) (d := some 4) (v := ?_) (by simp only [List.getElem?_toArray, List.getElem?_cons_succ, List.getElem?_cons_zero] <;> rfl) (by rfl) (by kernel_rfl) (by kernel_rfl) (by kernel_rfl) (fun _ _ _ h => h) (by rfl) ?_ ?_
    rotate_left
    · ((intro u); go_simp; try with_reducible rfl)
    try simp only [Act.put, List.setIfInBounds_toArray, List.set_cons_zero, List.set_cons_succ]
    refine wd_done (by kernel_rfl) ?_ _
    go_wp2_with fail
    go_ret
    exact ⟨ret_i64 HR.out, hG.trans hB⟩
  · have HR := Lib.hid (HR0.symm.trans (show cmpW (num hi lo) s (num h l) t = if t then -1 else 1 from if_neg hst))
    have b0 : (s == t) = false := by simp [hst]
    clear hst HR0
    cases t
    · go_enter Tryz.func251, Tryz.ntmps251
      go_wp2_with fail
      go_ret
      exact ⟨ret_i64 HR.out.symm, hG⟩
    · go_enter Tryz.func251, Tryz.ntmps251
      go_wp2_with fail
      go_ret
      exact ⟨ret_i64 HR.out.symm, hG⟩

/-- Two blocks that were just made. -/
theorem two_new (w : World) (cs ds : List Value) (t te : TypeId) : Blk ((w.alloc (.cells cs.toArray t)).alloc (.cells ds.toArray te)) w.heap.size cs t ∧ Blk ((w.alloc (.cells cs.toArray t)).alloc (.cells ds.toArray te)) (w.heap.size + 1) ds te := blk2 w cs ds t te

/-- A step of the comparison of two wide numbers. -/
theorem cmpN_step (A B j : Nat) (hq : A / 2 ^ (16 * (j + 1)) = B / 2 ^ (16 * (j + 1))) :
    (dig A j = dig B j → A / 2 ^ (16 * j) = B / 2 ^ (16 * j)) ∧ (dig A j ≠ dig B j → sgn ((dig A j : Int) - dig B j) = cmpN A B) := by
  obtain ⟨p1, p2, p3⟩ := top_step A B j hq
  refine ⟨p1, fun h => ?_⟩
  unfold cmpN sgn
  rcases Nat.lt_or_ge (dig A j) (dig B j) with g | g
  · rw [if_pos (by omega), if_pos (p2 g)]
  · have g' : dig B j < dig A j := by omega
    have := p3 g'
    rw [if_neg (by omega), if_pos (by omega), if_neg (by omega), if_neg (by omega)]
theorem digN_get (W j : Nat) (hj : j < 9) : (digN W)[j]? = some (.int .i64 (dig W j)) := by
  match j, hj with
  | 0, _ => rfl
  | 1, _ => rfl
  | 2, _ => rfl
  | 3, _ => rfl
  | 4, _ => rfl
  | 5, _ => rfl
  | 6, _ => rfl
  | 7, _ => rfl
  | 8, _ => rfl
set_option maxHeartbeats 2000000 in
/-- cmp of two wide numbers. -/
theorem wcmp_d (A B : Nat) (w : World) (hA : A < 2 ^ 144) (hB : B < 2 ^ 144) :
    Calls Tryz.prog 248 #[wA A, wA B] w (GivesD (.int .i64 (cmpN A B)) w) := by
  obtain ⟨hl1, hl2⟩ := two_new w (digN A) (digN B) 129 129
  have hG : Gd w ((w.alloc (.cells (digN A).toArray 129)).alloc (.cells (digN B).toArray 129)) := ((Gd.refl w).alloc _).alloc _
  go_enter Tryz.func248, Tryz.ntmps248
  go_wp2_with fail
  go_loopw [5] (fun c wr => ∃ m : Int, -1 ≤ m ∧ m ≤ 8 ∧ c = .int .i64 m ∧ A / 2 ^ (16 * (m + 1).toNat) = B / 2 ^ (16 * (m + 1).toNat) ∧ Blk wr w.heap.size (digN A) 129 ∧ Blk wr (w.heap.size + 1) (digN B) 129 ∧ Gd w wr) (fun c _ => (intOf c + 1).toNat)
  case atStart =>
    refine ⟨8, by omega, by omega, rfl, ?_, hl1, hl2, hG⟩
    show A / 2 ^ 144 = B / 2 ^ 144
    rw [Nat.div_eq_of_lt hA, Nat.div_eq_of_lt hB]
  case round =>
    clear hl1 hl2 hG
    obtain ⟨m, hm1, hm2, rfl, hq, hx, hy, hb⟩ := hrel
    by_cases h0 : m < 0
    · have H := Lib.hid (show cmpN A B = 0 by
        obtain rfl : m = -1 := by omega
        have hq' : A / 2 ^ 0 = B / 2 ^ 0 := hq
        simp at hq'
        unfold cmpN; rw [if_neg (by omega), if_pos hq'])
      clear hq
      go_wp2_with fail
      go_ret
      exact ⟨ret_i64 H.out.symm, hb⟩
    · obtain ⟨j, rfl⟩ := Int.eq_ofNat_of_zero_le (show 0 ≤ m by omega)
      rw [show ((j : Int) + 1).toNat = j + 1 by omega] at hq
      obtain ⟨e1, e2⟩ := cmpN_step A B j hq
      have d1 := digN_get A j (by omega)
      have d2 := digN_get B j (by omega)
      have l1 := dig_lt A j
      have l2 := dig_lt B j
      have hj0 : (0 : Int) ≤ j := by omega
      have hj9 : (j : Int) < 9 := by omega
      have hB := Gd.refl wr
      by_cases hXY : dig A j = dig B j
      · have E1 := Lib.hid (e1 hXY)
        have c0 : (((dig A j : Nat) : Int) != ((dig B j : Nat) : Int)) = false := by simp [hXY]
        clear hq e1 e2 hXY l1 l2
        generalize ((dig A j : Nat) : Int) = X at *
        generalize ((dig B j : Nat) : Int) = Y at *
        go_wp2_with fail
        refine wd_begin [] (by kernel_rfl) (fun u0 hb0' hz0' => ?_)
        replace hB := hB.trans hb0'
        clear hb0' hz0'
        refine wd_pure (i := 0) (d := some 10) (v := ?_) (by simp only [List.getElem?_toArray, List.getElem?_cons_succ, List.getElem?_cons_zero] <;> rfl) (by rfl) (by kernel_rfl) (by kernel_rfl) (by kernel_rfl) (fun _ _ _ h => h) (by rfl) ?_ ?_
        rotate_left
        · ((intro u); go_simp; try with_reducible rfl)
        try simp only [Act.put, List.setIfInBounds_toArray, List.set_cons_zero, List.set_cons_succ]
        refine wd_pure (i := 1) (d := some 11) (v := ?_) (by simp only [List.getElem?_toArray, List.getElem?_cons_succ, List.getElem?_cons_zero] <;> rfl) (by rfl) (by kernel_rfl) (by kernel_rfl) (by kernel_rfl) (fun _ _ _ h => h) (by rfl) ?_ ?_
        rotate_left
        · ((intro u); go_simp; try with_reducible rfl)
        try simp only [Act.put, List.setIfInBounds_toArray, List.set_cons_zero, List.set_cons_succ]
        refine wd_take (i := 2) (d := some 12) (v := ?_) (by simp only [List.getElem?_toArray, List.getElem?_cons_succ, List.getElem?_cons_zero] <;> rfl) (by rfl) (by kernel_rfl) (by kernel_rfl) (by kernel_rfl) (fun _ _ _ h => h) (by rfl) (by kernel_rfl) ?_ ?_
        rotate_left
        · ((intro u hu); have x0 := (hx.below (hB.trans hu).below).cell d1; have y0 := (hy.below (hB.trans hu).below).cell d2; go_simp; try with_reducible rfl)
        try simp only [Act.put, List.setIfInBounds_toArray, List.set_cons_zero, List.set_cons_succ]
        refine wd_pure (i := 3) (d := some 13) (v := ?_) (by simp only [List.getElem?_toArray, List.getElem?_cons_succ, List.getElem?_cons_zero] <;> rfl) (by rfl) (by kernel_rfl) (by kernel_rfl) (by kernel_rfl) (fun _ _ _ h => h) (by rfl) ?_ ?_
        rotate_left
        · ((intro u); go_simp; try with_reducible rfl)
        try simp only [Act.put, List.setIfInBounds_toArray, List.set_cons_zero, List.set_cons_succ]
        refine wd_pure (i := 4) (d := some 14) (v := ?_) (by simp only [List.getElem?_toArray, List.getElem?_cons_succ, List.getElem?_cons_zero] <;> rfl) (by rfl) (by kernel_rfl) (by kernel_rfl) (by kernel_rfl) (fun _ _ _ h => h) (by rfl) ?_ ?_
        rotate_left
        · ((intro u); go_simp; try with_reducible rfl)
        try simp only [Act.put, List.setIfInBounds_toArray, List.set_cons_zero, List.set_cons_succ]
        refine wd_take (i := 5) (d := some 15) (v := ?_) (by simp only [List.getElem?_toArray, List.getElem?_cons_succ, List.getElem?_cons_zero] <;> rfl) (by rfl) (by kernel_rfl) (by kernel_rfl) (by kernel_rfl) (fun _ _ _ h => h) (by rfl) (by kernel_rfl) ?_ ?_
        rotate_left
        · ((intro u hu); have x0 := (hx.below (hB.trans hu).below).cell d1; have y0 := (hy.below (hB.trans hu).below).cell d2; go_simp; try with_reducible rfl)
        try simp only [Act.put, List.setIfInBounds_toArray, List.set_cons_zero, List.set_cons_succ]
        refine wd_pure (i := 6) (d := some 16) (v := ?_) (by simp only [List.getElem?_toArray, List.getElem?_cons_succ, List.getElem?_cons_zero] <;> rfl) (by rfl) (by kernel_rfl) (by kernel_rfl) (by kernel_rfl) (fun _ _ _ h => h) (by rfl) ?_ ?_
        rotate_left
        · ((intro u); go_simp; try with_reducible rfl)
        try simp only [Act.put, List.setIfInBounds_toArray, List.set_cons_zero, List.set_cons_succ]
        refine wd_done (by kernel_rfl) ?_ _
        go_wp2_with fail
        refine ⟨⟨(j : Int) - 1, by omega, by omega, rfl, ?_, hx.below hB.below, hy.below hB.below, hb.trans hB⟩, by simp [intOf]⟩
        rw [show ((j : Int) - 1 + 1).toNat = j by omega]
        exact E1.out
      · have H := Lib.hid (e2 hXY)
        have c0 : (((dig A j : Nat) : Int) != ((dig B j : Nat) : Int)) = true := by simp; omega
        have hS : IntKind.i64.wrap (((dig A j : Nat) : Int) - ((dig B j : Nat) : Int)) = ((dig A j : Nat) : Int) - ((dig B j : Nat) : Int) := IntWalk.i64_in _ (by omega)
        clear hq e1 e2 hXY l1 l2
        generalize ((dig A j : Nat) : Int) = X at *
        generalize ((dig B j : Nat) : Int) = Y at *
        go_wp2_with fail
        refine wd_begin [] (by kernel_rfl) (fun u0 hb0' hz0' => ?_)
        replace hB := hB.trans hb0'
        clear hb0' hz0'
        refine wd_pure (i := 0) (d := some 10) (v := ?_) (by simp only [List.getElem?_toArray, List.getElem?_cons_succ, List.getElem?_cons_zero] <;> rfl) (by rfl) (by kernel_rfl) (by kernel_rfl) (by kernel_rfl) (fun _ _ _ h => h) (by rfl) ?_ ?_
        rotate_left
        · ((intro u); go_simp; try with_reducible rfl)
        try simp only [Act.put, List.setIfInBounds_toArray, List.set_cons_zero, List.set_cons_succ]
        refine wd_pure (i := 1) (d := some 11) (v := ?_) (by simp only [List.getElem?_toArray, List.getElem?_cons_succ, List.getElem?_cons_zero] <;> rfl) (by rfl) (by kernel_rfl) (by kernel_rfl) (by kernel_rfl) (fun _ _ _ h => h) (by rfl) ?_ ?_
        rotate_left
        · ((intro u); go_simp; try with_reducible rfl)
        try simp only [Act.put, List.setIfInBounds_toArray, List.set_cons_zero, List.set_cons_succ]
        refine wd_take (i := 2) (d := some 12) (v := ?_) (by simp only [List.getElem?_toArray, List.getElem?_cons_succ, List.getElem?_cons_zero] <;> rfl) (by rfl) (by kernel_rfl) (by kernel_rfl) (by kernel_rfl) (fun _ _ _ h => h) (by rfl) (by kernel_rfl) ?_ ?_
        rotate_left
        · ((intro u hu); have x0 := (hx.below (hB.trans hu).below).cell d1; have y0 := (hy.below (hB.trans hu).below).cell d2; go_simp; try with_reducible rfl)
        try simp only [Act.put, List.setIfInBounds_toArray, List.set_cons_zero, List.set_cons_succ]
        refine wd_pure (i := 3) (d := some 13) (v := ?_) (by simp only [List.getElem?_toArray, List.getElem?_cons_succ, List.getElem?_cons_zero] <;> rfl) (by rfl) (by kernel_rfl) (by kernel_rfl) (by kernel_rfl) (fun _ _ _ h => h) (by rfl) ?_ ?_
        rotate_left
        · ((intro u); go_simp; try with_reducible rfl)
        try simp only [Act.put, List.setIfInBounds_toArray, List.set_cons_zero, List.set_cons_succ]
        refine wd_pure (i := 4) (d := some 14) (v := ?_) (by simp only [List.getElem?_toArray, List.getElem?_cons_succ, List.getElem?_cons_zero] <;> rfl) (by rfl) (by kernel_rfl) (by kernel_rfl) (by kernel_rfl) (fun _ _ _ h => h) (by rfl) ?_ ?_
        rotate_left
        · ((intro u); go_simp; try with_reducible rfl)
        try simp only [Act.put, List.setIfInBounds_toArray, List.set_cons_zero, List.set_cons_succ]
        refine wd_take (i := 5) (d := some 15) (v := ?_) (by simp only [List.getElem?_toArray, List.getElem?_cons_succ, List.getElem?_cons_zero] <;> rfl) (by rfl) (by kernel_rfl) (by kernel_rfl) (by kernel_rfl) (fun _ _ _ h => h) (by rfl) (by kernel_rfl) ?_ ?_
        rotate_left
        · ((intro u hu); have x0 := (hx.below (hB.trans hu).below).cell d1; have y0 := (hy.below (hB.trans hu).below).cell d2; go_simp; try with_reducible rfl)
        try simp only [Act.put, List.setIfInBounds_toArray, List.set_cons_zero, List.set_cons_succ]
        refine wd_pure (i := 6) (d := some 16) (v := ?_) (by simp only [List.getElem?_toArray, List.getElem?_cons_succ, List.getElem?_cons_zero] <;> rfl) (by rfl) (by kernel_rfl) (by kernel_rfl) (by kernel_rfl) (fun _ _ _ h => h) (by rfl) ?_ ?_
        rotate_left
        · ((intro u); go_simp; try with_reducible rfl)
        try simp only [Act.put, List.setIfInBounds_toArray, List.set_cons_zero, List.set_cons_succ]
        refine wd_done (by kernel_rfl) ?_ _
        go_wp2_with fail
        refine wd_begin [] (by kernel_rfl) (fun u0 hb0' hz0' => ?_)
        replace hB := hB.trans hb0'
        clear hb0' hz0'
        refine wd_pure (i := 0) (d := some 17) (v := ?_) (by simp only [List.getElem?_toArray, List.getElem?_cons_succ, List.getElem?_cons_zero] <;> rfl) (by rfl) (by kernel_rfl) (by kernel_rfl) (by kernel_rfl) (fun _ _ _ h => h) (by rfl) ?_ ?_
        rotate_left
        · ((intro u); go_simp; try with_reducible rfl)
        try simp only [Act.put, List.setIfInBounds_toArray, List.set_cons_zero, List.set_cons_succ]
        refine wd_pure (i := 1) (d := some 18) (v := ?_) (by simp only [List.getElem?_toArray, List.getElem?_cons_succ, List.getElem?_cons_zero] <;> rfl) (by rfl) (by kernel_rfl) (by kernel_rfl) (by kernel_rfl) (fun _ _ _ h => h) (by rfl) ?_ ?_
        rotate_left
        · ((intro u); go_simp; try with_reducible rfl)
        try simp only [Act.put, List.setIfInBounds_toArray, List.set_cons_zero, List.set_cons_succ]
        refine wd_take (i := 2) (d := some 19) (v := ?_) (by simp only [List.getElem?_toArray, List.getElem?_cons_succ, List.getElem?_cons_zero] <;> rfl) (by rfl) (by kernel_rfl) (by kernel_rfl) (by kernel_rfl) (fun _ _ _ h => h) (by rfl) (by kernel_rfl) ?_ ?_
        rotate_left
        · ((intro u hu); have x0 := (hx.below (hB.trans hu).below).cell d1; have y0 := (hy.below (hB.trans hu).below).cell d2; go_simp; try with_reducible rfl)
        try simp only [Act.put, List.setIfInBounds_toArray, List.set_cons_zero, List.set_cons_succ]
        refine wd_pure (i := 3) (d := some 20) (v := ?_) (by simp only [List.getElem?_toArray, List.getElem?_cons_succ, List.getElem?_cons_zero] <;> rfl) (by rfl) (by kernel_rfl) (by kernel_rfl) (by kernel_rfl) (fun _ _ _ h => h) (by rfl) ?_ ?_
        rotate_left
        · ((intro u); go_simp; try with_reducible rfl)
        try simp only [Act.put, List.setIfInBounds_toArray, List.set_cons_zero, List.set_cons_succ]
        refine wd_pure (i := 4) (d := some 21) (v := ?_) (by simp only [List.getElem?_toArray, List.getElem?_cons_succ, List.getElem?_cons_zero] <;> rfl) (by rfl) (by kernel_rfl) (by kernel_rfl) (by kernel_rfl) (fun _ _ _ h => h) (by rfl) ?_ ?_
        rotate_left
        · ((intro u); go_simp; try with_reducible rfl)
        try simp only [Act.put, List.setIfInBounds_toArray, List.set_cons_zero, List.set_cons_succ]
        refine wd_take (i := 5) (d := some 22) (v := ?_) (by simp only [List.getElem?_toArray, List.getElem?_cons_succ, List.getElem?_cons_zero] <;> rfl) (by rfl) (by kernel_rfl) (by kernel_rfl) (by kernel_rfl) (fun _ _ _ h => h) (by rfl) (by kernel_rfl) ?_ ?_
        rotate_left
        · ((intro u hu); have x0 := (hx.below (hB.trans hu).below).cell d1; have y0 := (hy.below (hB.trans hu).below).cell d2; go_simp; try with_reducible rfl)
        try simp only [Act.put, List.setIfInBounds_toArray, List.set_cons_zero, List.set_cons_succ]
        refine wd_pure (i := 6) (d := some 23) (v := ?_) (by simp only [List.getElem?_toArray, List.getElem?_cons_succ, List.getElem?_cons_zero] <;> rfl) (by rfl) (by kernel_rfl) (by kernel_rfl) (by kernel_rfl) (fun _ _ _ h => h) (by rfl) ?_ ?_
        rotate_left
        · ((intro u); go_simp; try with_reducible rfl)
        try simp only [Act.put, List.setIfInBounds_toArray, List.set_cons_zero, List.set_cons_succ]
        refine wd_one (i := 7) (by simp only [List.getElem?_toArray, List.getElem?_cons_succ, List.getElem?_cons_zero] <;> rfl) (by kernel_rfl) (by rfl) (fun K hK => ?_)
        go_simp
        refine (sign_any _ _).mono ?_
        rintro e w' ⟨rfl, rfl⟩
        refine hK _ _ (Gd.refl _) ?_
        clear hK K
        try simp only [Act.put, List.setIfInBounds_toArray, List.set_cons_zero, List.set_cons_succ]
        refine wd_pure (i := 8) (d := some 4) (v := ?_) (by simp only [List.getElem?_toArray, List.getElem?_cons_succ, List.getElem?_cons_zero] <;> rfl) (by rfl) (by kernel_rfl) (by kernel_rfl) (by kernel_rfl) (fun _ _ _ h => h) (by rfl) ?_ ?_
        rotate_left
        · ((intro u); go_simp; try with_reducible rfl)
        try simp only [Act.put, List.setIfInBounds_toArray, List.set_cons_zero, List.set_cons_succ]
        refine wd_done (by kernel_rfl) ?_ _
        go_wp2_with fail
        go_ret
        exact ⟨ret_i64 H.out, hb.trans hB⟩

end Go.Proofs.YtfiocnjogbpgoaaGreatDoor
