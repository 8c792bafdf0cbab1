/- Sets: Span. -/
import Derived.Test.YtedmlbefkpbldaaGreatDoorKaSuB
namespace Go.Proofs.YtedmlbefkpbldaaGreatDoor
open Go.RowKit
set_option linter.unusedVariables false
set_option linter.unusedSimpArgs false

theorem orE_blk (l : List Int) (p cap : Nat) (w : World) (t : TypeId) (h : Blk w p (l.map (Value.int .i64)) t) (hl : l.length ≤ 100) :
    Calls Tryz.prog 70 #[.slice (some ⟨p, 0, none⟩) l.length cap] w fun e w' => e = .returned (.int .i64 (firstZ l)) ∧ w = w' :=
  or_any l p cap w (fun i hi => h.cell (by simp [List.getElem?_eq_getElem hi])) hl
theorem errs_blk (l : List Int) (p cap : Nat) (w : World) (t : TypeId) (h : Blk w p (l.map (Value.int .i64)) t) (hl : l.length ≤ 100) :
    Calls Tryz.prog 26 #[.slice (some ⟨p, 0, none⟩) l.length cap] w fun e w' => e = .returned (.int .i64 (firstZ l)) ∧ w = w' :=
  errs_any l p cap w (fun i hi => h.cell (by simp [List.getElem?_eq_getElem hi])) hl

/-- CheckAddr's error. -/
def adEr (a : Ad) : Int := adF a.s a.hi a.lo
theorem adEr_iff {a : Ad} (h : a.U) : adEr a = 0 ↔ a.R := by
  unfold adEr
  rw [adF_iff h]
  exact ⟨fun e => ⟨h, e⟩, fun e => e.2⟩
theorem checkAddr_n (a : Ad) (w : World) : Calls Tryz.prog 52 #[adA a] w (GivesV (.int .i64 (adEr a)) w) := checkAddr_any a.s a.hi a.lo w
theorem addrFault_n (a : Ad) (w : World) (h : a.U) : Calls Tryz.prog 9 #[adA a] w (GivesV (.int .i64 (adEr a)) w) := addrFault_any a.s a.hi a.lo w h.1.1
/-- Span's error. -/
def spanE (x : Ad × Ad) : Int := if firstZ [adEr x.1, adEr x.2] ≠ 0 then firstZ [adEr x.1, adEr x.2] else if x.1.s ≠ x.2.s then 10 else if x.2.n < x.1.n then 7 else 0
theorem firstZ_both (a b : Int) : firstZ [a, b] = 0 ↔ a = 0 ∧ b = 0 := by
  unfold firstZ firstZ firstZ
  by_cases h : a = 0
  · rw [if_pos h]
    by_cases h2 : b = 0
    · rw [if_pos h2]; exact ⟨fun _ => ⟨h, h2⟩, fun _ => rfl⟩
    · rw [if_neg h2]; exact ⟨fun e => absurd e h2, fun e => e.2⟩
  · rw [if_neg h]; exact ⟨fun e => absurd e h, fun e => e.1⟩
theorem spanE_ok {x : Ad × Ad} (h1 : x.1.U) (h2 : x.2.U) (h : spanE x = 0) : RgR x := by
  unfold spanE at h
  by_cases a : firstZ [adEr x.1, adEr x.2] = 0
  · rw [if_neg (fun f => f a)] at h
    by_cases b : x.1.s = x.2.s
    · rw [if_neg (fun f => f b)] at h
      by_cases c : x.2.n < x.1.n
      · rw [if_pos c] at h; cases h
      · obtain ⟨e1, e2⟩ := (firstZ_both _ _).1 a
        exact ⟨(adEr_iff h1).1 e1, (adEr_iff h2).1 e2, b, by omega⟩
    · rw [if_pos b] at h; cases h
  · rw [if_pos a] at h; exact absurd h a

/-- What Span and Least hand back. -/
def GivesS (E : Int) (P : List Pf → Prop) (w : World) (e : Ending) (w' : World) : Prop :=
  ∃ v ps, e = .returned (.tuple #[v, .int .i64 E]) ∧ OwnE ePf 52 w.heap.size w' v ps ∧ (E = 0 → P ps) ∧ (E ≠ 0 → ps = []) ∧ Below w.heap.size w w'

set_option maxRecDepth 100000 in
set_option maxHeartbeats 2000000 in
theorem span_any (x : Ad × Ad) (w : World) (hx : x.1.U) (hy : x.2.U) (hT : Tz w) :
    Calls Tryz.prog 24 #[rgA x] w (GivesS (spanE x) (fun ps => RgR x ∧ ps = pfsOf [rowA x]) w) := by
  have HA1 := fun w' => Lib.hid (checkAddr_n x.1 w')
  have HA2 := fun w' => Lib.hid (checkAddr_n x.2 w')
  have HC := fun w' => Lib.hid (compare_n x.2 x.1 w' hy hx)
  have hcl := Lib.hid (cmpN_lt x.2.n x.1.n)
  have HOK := Lib.hid (fun h => spanE_ok hx hy h)
  have h1 := Blk.new w (rgC x) 49
  have hbw : Below w.heap.size w (w.alloc (.cells (rgC x).toArray 49)) := (Below.refl _ _).alloc (Nat.le_refl _) _
  have hT1 : Hid (∀ W, Below w.heap.size w W → Tz W) := Lib.hid fun W h => hT.below h
  obtain ⟨SE, hSE⟩ : ∃ E, E = spanE x := ⟨_, rfl⟩
  rw [← hSE] at HOK ⊢
  unfold spanE at hSE
  obtain ⟨E1, hE1⟩ : ∃ E, E = adEr x.1 := ⟨_, rfl⟩
  obtain ⟨E2, hE2⟩ : ∃ E, E = adEr x.2 := ⟨_, rfl⟩
  rw [← hE1] at HA1 hSE
  rw [← hE2] at HA2 hSE
  replace hSE := Lib.hid hSE
  clear hx hy hT hE1 hE2
  obtain ⟨c, hc⟩ : ∃ c, c = cmpN x.2.n x.1.n := ⟨_, rfl⟩
  rw [← hc] at HC hcl
  clear hc
  go_enter Tryz.func24, Tryz.ntmps24
  go_wp2_with fail
  refine wx_begin (none) [] (by kernel_rfl) (fun u0 hb0' hz0' => ?_)
  replace h1 := h1.below hb0'
  replace hbw := hbw.trans (hb0'.mono hbw.size)
  clear hb0' hz0'
  refine wx_pure (i := 0) (d := some 5) (v := ?_) (by simp only [List.getElem?_toArray, List.getElem?_cons_succ, List.getElem?_cons_zero] <;> rfl) (by rfl) (by kernel_rfl) (by kernel_rfl) (by kernel_rfl) (fun _ _ _ h => h) (by rfl) ?_ ?_
  rotate_left
  · ((intro u); go_simp; try with_reducible rfl)
  try simp only [Act.put, List.setIfInBounds_toArray, List.set_cons_zero, List.set_cons_succ]
  refine wx_take (i := 1) (d := some 6) (v := ?_) (by simp only [List.getElem?_toArray, List.getElem?_cons_succ, List.getElem?_cons_zero] <;> rfl) (by rfl) (by kernel_rfl) (by kernel_rfl) (by kernel_rfl) (fun _ _ _ h => h) (by rfl) (by kernel_rfl) ?_ ?_
  rotate_left
  · ((intro u hu); have k1 := (h1.gn hu).ldAt rowAd 0 (adC x.1) (adC x.2) rfl rfl; have k2 := (h1.gn hu).ldAt rowAd 3 (adC x.2) [] rfl rfl; go_simp; try with_reducible rfl)
  try simp only [Act.put, List.setIfInBounds_toArray, List.set_cons_zero, List.set_cons_succ]
  refine wx_pure (i := 3) (d := some 8) (v := ?_) (by simp only [List.getElem?_toArray, List.getElem?_cons_succ, List.getElem?_cons_zero] <;> rfl) (by rfl) (by kernel_rfl) (by kernel_rfl) (by kernel_rfl) (fun _ _ _ h => h) (by rfl) ?_ ?_
  rotate_left
  · ((intro u); go_simp; try with_reducible rfl)
  try simp only [Act.put, List.setIfInBounds_toArray, List.set_cons_zero, List.set_cons_succ]
  refine wx_take (i := 4) (d := some 9) (v := ?_) (by simp only [List.getElem?_toArray, List.getElem?_cons_succ, List.getElem?_cons_zero] <;> rfl) (by rfl) (by kernel_rfl) (by kernel_rfl) (by kernel_rfl) (fun _ _ _ h => h) (by rfl) (by kernel_rfl) ?_ ?_
  rotate_left
  · ((intro u hu); have k1 := (h1.gn hu).ldAt rowAd 0 (adC x.1) (adC x.2) rfl rfl; have k2 := (h1.gn hu).ldAt rowAd 3 (adC x.2) [] rfl rfl; go_simp; try with_reducible rfl)
  try simp only [Act.put, List.setIfInBounds_toArray, List.set_cons_zero, List.set_cons_succ]
  refine wx_one (i := 2) (by simp only [List.getElem?_toArray, List.getElem?_cons_succ, List.getElem?_cons_zero] <;> rfl) (by kernel_rfl) (by rfl) (fun K hK => ?_)
  go_simp
  refine (HA1 _).out.mono ?_
  rintro e u1 ⟨rfl, hv1⟩
  refine hK _ _ (gbB hv1) ?_
  replace h1 := h1.below hv1
  replace hbw := hbw.trans (hv1.mono hbw.size)
  clear hK K hv1
  try simp only [Act.put, List.setIfInBounds_toArray, List.set_cons_zero, List.set_cons_succ]
  refine wx_one (i := 5) (by simp only [List.getElem?_toArray, List.getElem?_cons_succ, List.getElem?_cons_zero] <;> rfl) (by kernel_rfl) (by rfl) (fun K hK => ?_)
  go_simp
  refine (HA2 _).out.mono ?_
  rintro e u2 ⟨rfl, hv1⟩
  refine hK _ _ (gbB hv1) ?_
  replace h1 := h1.below hv1
  replace hbw := hbw.trans (hv1.mono hbw.size)
  clear hK K hv1
  try simp only [Act.put, List.setIfInBounds_toArray, List.set_cons_zero, List.set_cons_succ]
  refine wx_one (i := 6) (by simp only [List.getElem?_toArray, List.getElem?_cons_succ, List.getElem?_cons_zero] <;> rfl) (by kernel_rfl) (by rfl) (fun K hK => ?_)
  go_simp
  refine hK _ _ (World.grownBy_alloc _ _ none) ?_
  refine wx_new (cs := [E1, E2].map (Value.int .i64)) (t := 30) (fun u3 hv1 hL3 hz3 => ?_)
  replace h1 := h1.below hv1
  replace hbw := hbw.trans (hv1.mono hbw.size)
  clear hK K hv1 hz3
  try simp only [Act.put, List.setIfInBounds_toArray, List.set_cons_zero, List.set_cons_succ]
  refine wx_one (i := 7) (by simp only [List.getElem?_toArray, List.getElem?_cons_succ, List.getElem?_cons_zero] <;> rfl) (by kernel_rfl) (by rfl) (fun K hK => ?_)
  go_simp
  refine (orE_blk [E1, E2] _ _ _ _ hL3 (by simp)).mono ?_
  rintro e u4 ⟨rfl, rfl⟩
  refine hK _ _ (gb_refl _ _) ?_
  clear hK K hL3
  try simp only [Act.put, List.setIfInBounds_toArray, List.set_cons_zero, List.set_cons_succ]
  refine wx_pure (i := 8) (d := some 4) (v := ?_) (by simp only [List.getElem?_toArray, List.getElem?_cons_succ, List.getElem?_cons_zero] <;> rfl) (by rfl) (by kernel_rfl) (by kernel_rfl) (by kernel_rfl) (fun _ _ _ h => h) (by rfl) ?_ ?_
  rotate_left
  · ((intro u); go_simp; try with_reducible rfl)
  try simp only [Act.put, List.setIfInBounds_toArray, List.set_cons_zero, List.set_cons_succ]
  refine wx_done (by kernel_rfl) ?_ _
  skip
  generalize firstZ [E1, E2] = E at *
  have nilO : ∀ W : World, OwnE ePf 52 w.heap.size W (.slice none 0 0) [] := fun W => OwnE.nil _ _
  by_cases hE0 : E = 0
  · subst hE0
    have hs1 : SE = if x.1.s ≠ x.2.s then 10 else if x.2.n < x.1.n then 7 else 0 := by have h := hSE.out; simpa using h
    replace hs1 := Lib.hid hs1
    have q0 := h1.cell (i := 0) (v := .bool x.1.s) rfl
    have q3 := h1.cell (i := 3) (v := .bool x.2.s) rfl
    have k1 := h1.ldAt rowAd 0 (adC x.1) (adC x.2) rfl rfl
    have k2 := h1.ldAt rowAd 3 (adC x.2) [] rfl rfl
    have k3 := h1.ld rowRg rfl
    clear hSE
    by_cases hss : x.1.s = x.2.s
    · have b0 : (x.1.s == x.2.s) = true := by simp [hss]
      have hs2 : SE = if x.2.n < x.1.n then 7 else 0 := by have h := hs1.out; rw [if_neg (fun f => f hss)] at h; exact h
      replace hs2 := Lib.hid hs2
      clear hs1 hss
      go_wp2_with fail
      refine (HC _).out.mono ?_
      rintro e w5 ⟨rfl, hv1⟩
      replace h1 := h1.below hv1
      replace hbw := hbw.trans (hv1.mono hbw.size)
      clear hv1 k1 k2 k3 q0 q3
      by_cases hlt : x.2.n < x.1.n
      · have HV : c < 0 := by have h := hcl.out; rw [decide_eq_true hlt] at h; exact of_decide_eq_true h
        have hfin := Lib.hid (show SE = 7 by have h := hs2.out; rw [if_pos hlt] at h; exact h)
        clear hcl hlt hs2
        go_wp2_with fail
        go_ret2
        exact ⟨_, [], by rw [hfin.out]; rfl, nilO _, fun h => absurd (hfin.out.symm.trans h) (by decide), fun _ => rfl, hbw⟩
      · have HV : ¬ c < 0 := by have h := hcl.out; rw [decide_eq_false hlt] at h; exact of_decide_eq_false h
        have hfin := Lib.hid (show SE = 0 by have h := hs2.out; rw [if_neg hlt] at h; exact h)
        have hR := Lib.hid (HOK.out hfin.out)
        have k3 := h1.ld rowRg rfl
        have hal : Below w5.heap.size w5 (w5.alloc (.cells (rgC x).toArray 49)) := (Below.refl _ _).alloc (Nat.le_refl _) _
        have hSl := sl_of_blk (E := eRg) (Blk.new w5 (rgC x) 49)
        have hbw5 := hbw.trans (hal.mono hbw.size)
        have HO := Lib.hid (setOf_any _ 1 1 [x] _ hSl (by decide) (by intro y hy; rw [List.mem_singleton.1 hy]; exact hR.out) (hT1.out _ hbw5) (by
          have h := pfsOf_len (l := [rowA x]) (n := 1) (by intro y hy; rw [List.mem_singleton.1 hy]; exact rowA_row hR.out) (by simp)
          exact Nat.le_trans h (by decide)))
        clear hcl hlt hs2 hal hSl
        go_wp2_with fail
        refine HO.out.mono ?_
        rintro e w6 ⟨⟨v, rfl, ho⟩, hv1⟩
        have hz5 := hbw5.size
        replace hbw := hbw5.trans (hv1.mono hz5)
        clear HO hv1
        go_wp2_with fail
        go_ret2
        exact ⟨v, pfsOf [rowA x], by rw [hfin.out]; rfl, OwnE.mono ho hz5, fun _ => ⟨hR.out, rfl⟩, fun h => absurd hfin.out h, hbw⟩
    · have b0 : (x.1.s == x.2.s) = false := by simp [hss]
      have hfin := Lib.hid (show SE = 10 by have h := hs1.out; rw [if_pos hss] at h; exact h)
      clear hs1 hss
      go_wp2_with fail
      go_ret2
      exact ⟨_, [], by rw [hfin.out]; rfl, nilO _, fun h => absurd (hfin.out.symm.trans h) (by decide), fun _ => rfl, hbw⟩
  · have b0 : (E == 0) = false := by simp [hE0]
    have hfin := Lib.hid (show SE = E by have h := hSE.out; rw [if_pos hE0] at h; exact h)
    have hE1' := Lib.hid hE0
    clear hE0
    go_wp2_with fail
    go_ret2
    exact ⟨_, [], by rw [hfin.out]; rfl, nilO _, fun h => absurd (hfin.out.symm.trans h) hE1'.out, fun _ => rfl, hbw⟩
end Go.Proofs.YtedmlbefkpbldaaGreatDoor
