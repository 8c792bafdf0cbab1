/- Sets: what SetsMake compares. -/
import Derived.Test.YtedmlbefkpbldaaGreatDoorKbSuB
import Derived.Test.YtedmlbefkpbldaaGreatDoorKbAddressed
import Derived.Deep.CutBlock
import Derived.Deep.DeepCutAuto
namespace Go.Proofs.YtedmlbefkpbldaaGreatDoor
open Go.RowKit
set_option linter.unusedVariables false
set_option linter.unusedSimpArgs false

theorem orE_blk (l : List Int) (p cap : Nat) (w : World) (t : TypeId) (h : Blk w p (l.map (Value.int .i64)) t) (hl : l.length ≤ 100) :
    Calls Tryz.prog 70 #[.slice (some ⟨p, 0, none⟩) l.length cap] w fun e w' => e = .returned (.int .i64 (firstZ l)) ∧ w = w' :=
  or_any l p cap w (fun i hi => h.cell (by simp [List.getElem?_eq_getElem hi])) hl
theorem errs_blk (l : List Int) (p cap : Nat) (w : World) (t : TypeId) (h : Blk w p (l.map (Value.int .i64)) t) (hl : l.length ≤ 100) :
    Calls Tryz.prog 26 #[.slice (some ⟨p, 0, none⟩) l.length cap] w fun e w' => e = .returned (.int .i64 (firstZ l)) ∧ w = w' :=
  errs_any l p cap w (fun i hi => h.cell (by simp [List.getElem?_eq_getElem hi])) hl

/-- CheckAddr's error. -/
def adEr (a : Ad) : Int := adF a.s a.hi a.lo
theorem adEr_iff {a : Ad} (h : a.U) : adEr a = 0 ↔ a.R := by
  unfold adEr
  rw [adF_iff h]
  exact ⟨fun e => ⟨h, e⟩, fun e => e.2⟩
theorem checkAddr_n (a : Ad) (w : World) : Calls Tryz.prog 52 #[adA a] w (GivesV (.int .i64 (adEr a)) w) := checkAddr_any a.s a.hi a.lo w
theorem addrFault_n (a : Ad) (w : World) (h : a.U) : Calls Tryz.prog 9 #[adA a] w (GivesV (.int .i64 (adEr a)) w) := addrFault_any a.s a.hi a.lo w h.1.1
/-- Span's error. -/
def spanE (x : Ad × Ad) : Int := if firstZ [adEr x.1, adEr x.2] ≠ 0 then firstZ [adEr x.1, adEr x.2] else if x.1.s ≠ x.2.s then 10 else if x.2.n < x.1.n then 7 else 0
theorem firstZ_both (a b : Int) : firstZ [a, b] = 0 ↔ a = 0 ∧ b = 0 := by
  unfold firstZ firstZ firstZ
  by_cases h : a = 0
  · rw [if_pos h]
    by_cases h2 : b = 0
    · rw [if_pos h2]; exact ⟨fun _ => ⟨h, h2⟩, fun _ => rfl⟩
    · rw [if_neg h2]; exact ⟨fun e => absurd e h2, fun e => e.2⟩
  · rw [if_neg h]; exact ⟨fun e => absurd e h, fun e => e.1⟩
theorem spanE_ok {x : Ad × Ad} (h1 : x.1.U) (h2 : x.2.U) (h : spanE x = 0) : RgR x := by
  unfold spanE at h
  by_cases a : firstZ [adEr x.1, adEr x.2] = 0
  · rw [if_neg (fun f => f a)] at h
    by_cases b : x.1.s = x.2.s
    · rw [if_neg (fun f => f b)] at h
      by_cases c : x.2.n < x.1.n
      · rw [if_pos c] at h; cases h
      · obtain ⟨e1, e2⟩ := (firstZ_both _ _).1 a
        exact ⟨(adEr_iff h1).1 e1, (adEr_iff h2).1 e2, b, by omega⟩
    · rw [if_pos b] at h; cases h
  · rw [if_pos a] at h; exact absurd h a

/-- What Span and Least hand back. -/
def GivesS (E : Int) (P : List Pf → Prop) (w : World) (e : Ending) (w' : World) : Prop :=
  ∃ v ps, e = .returned (.tuple #[v, .int .i64 E]) ∧ OwnE ePf 52 w.heap.size w' v ps ∧ (E = 0 → P ps) ∧ (E ≠ 0 → ps = []) ∧ Below w.heap.size w w'

set_option maxRecDepth 100000 in
set_option maxHeartbeats 2000000 in
theorem span_any (x : Ad × Ad) (w : World) (hx : x.1.U) (hy : x.2.U) (hT : Tz w) :
    Calls Tryz.prog 24 #[rgA x] w (GivesS (spanE x) (fun ps => RgR x ∧ ps = pfsOf [rowA x]) w) := by
  have HA1 := fun w' => Lib.hid (checkAddr_n x.1 w')
  have HA2 := fun w' => Lib.hid (checkAddr_n x.2 w')
  have HC := fun w' => Lib.hid (compare_n x.2 x.1 w' hy hx)
  have hcl := Lib.hid (cmpN_lt x.2.n x.1.n)
  have HOK := Lib.hid (fun h => spanE_ok hx hy h)
  have h1 := Blk.new w (rgC x) 49
  have hbw : Below w.heap.size w (w.alloc (.cells (rgC x).toArray 49)) := (Below.refl _ _).alloc (Nat.le_refl _) _
  have hT1 : Hid (∀ W, Below w.heap.size w W → Tz W) := Lib.hid fun W h => hT.below h
  obtain ⟨SE, hSE⟩ : ∃ E, E = spanE x := ⟨_, rfl⟩
  rw [← hSE] at HOK ⊢
  unfold spanE at hSE
  obtain ⟨E1, hE1⟩ : ∃ E, E = adEr x.1 := ⟨_, rfl⟩
  obtain ⟨E2, hE2⟩ : ∃ E, E = adEr x.2 := ⟨_, rfl⟩
  rw [← hE1] at HA1 hSE
  rw [← hE2] at HA2 hSE
  replace hSE := Lib.hid hSE
  clear hx hy hT hE1 hE2
  obtain ⟨c, hc⟩ : ∃ c, c = cmpN x.2.n x.1.n := ⟨_, rfl⟩
  rw [← hc] at HC hcl
  clear hc
  go_enter Tryz.func24, Tryz.ntmps24
  go_wp2_with fail
  refine wx_begin (none) [] (by kernel_rfl) (fun u0 hb0' hz0' => ?_)
  replace h1 := h1.below hb0'
  replace hbw := hbw.trans (hb0'.mono hbw.size)
  clear hb0' hz0'
  refine wx_pure (i := 0) (d := some 5) (v := ?_) (by simp only [List.getElem?_toArray, List.getElem?_cons_succ, List.getElem?_cons_zero] <;> rfl) (by rfl) (by kernel_rfl) (by kernel_rfl) (by kernel_rfl) (fun _ _ _ h => h) (by rfl) ?_ ?_
  rotate_left
  · ((intro u); go_simp; try with_reducible rfl)
  try simp only [Act.put, List.setIfInBounds_toArray, List.set_cons_zero, List.set_cons_succ]
  refine wx_take (i := 1) (d := some 6) (v := ?_) (by simp only [List.getElem?_toArray, List.getElem?_cons_succ, List.getElem?_cons_zero] <;> rfl) (by rfl) (by kernel_rfl) (by kernel_rfl) (by kernel_rfl) (fun _ _ _ h => h) (by rfl) (by kernel_rfl) ?_ ?_
  rotate_left
  · ((intro u hu); have k1 := (h1.gn hu).ldAt rowAd 0 (adC x.1) (adC x.2) rfl rfl; have k2 := (h1.gn hu).ldAt rowAd 3 (adC x.2) [] rfl rfl; go_simp; try with_reducible rfl)
  try simp only [Act.put, List.setIfInBounds_toArray, List.set_cons_zero, List.set_cons_succ]
  refine wx_pure (i := 3) (d := some 8) (v := ?_) (by simp only [List.getElem?_toArray, List.getElem?_cons_succ, List.getElem?_cons_zero] <;> rfl) (by rfl) (by kernel_rfl) (by kernel_rfl) (by kernel_rfl) (fun _ _ _ h => h) (by rfl) ?_ ?_
  rotate_left
  · ((intro u); go_simp; try with_reducible rfl)
  try simp only [Act.put, List.setIfInBounds_toArray, List.set_cons_zero, List.set_cons_succ]
  refine wx_take (i := 4) (d := some 9) (v := ?_) (by simp only [List.getElem?_toArray, List.getElem?_cons_succ, List.getElem?_cons_zero] <;> rfl) (by rfl) (by kernel_rfl) (by kernel_rfl) (by kernel_rfl) (fun _ _ _ h => h) (by rfl) (by kernel_rfl) ?_ ?_
  rotate_left
  · ((intro u hu); have k1 := (h1.gn hu).ldAt rowAd 0 (adC x.1) (adC x.2) rfl rfl; have k2 := (h1.gn hu).ldAt rowAd 3 (adC x.2) [] rfl rfl; go_simp; try with_reducible rfl)
  try simp only [Act.put, List.setIfInBounds_toArray, List.set_cons_zero, List.set_cons_succ]
  refine wx_one (i := 2) (by simp only [List.getElem?_toArray, List.getElem?_cons_succ, List.getElem?_cons_zero] <;> rfl) (by kernel_rfl) (by rfl) (fun K hK => ?_)
  go_simp
  refine (HA1 _).out.mono ?_
  rintro e u1 ⟨rfl, hv1⟩
  refine hK _ _ (gbB hv1) ?_
  replace h1 := h1.below hv1
  replace hbw := hbw.trans (hv1.mono hbw.size)
  clear hK K hv1
  try simp only [Act.put, List.setIfInBounds_toArray, List.set_cons_zero, List.set_cons_succ]
  refine wx_one (i := 5) (by simp only [List.getElem?_toArray, List.getElem?_cons_succ, List.getElem?_cons_zero] <;> rfl) (by kernel_rfl) (by rfl) (fun K hK => ?_)
  go_simp
  refine (HA2 _).out.mono ?_
  rintro e u2 ⟨rfl, hv1⟩
  refine hK _ _ (gbB hv1) ?_
  replace h1 := h1.below hv1
  replace hbw := hbw.trans (hv1.mono hbw.size)
  clear hK K hv1
  try simp only [Act.put, List.setIfInBounds_toArray, List.set_cons_zero, List.set_cons_succ]
  refine wx_one (i := 6) (by simp only [List.getElem?_toArray, List.getElem?_cons_succ, List.getElem?_cons_zero] <;> rfl) (by kernel_rfl) (by rfl) (fun K hK => ?_)
  go_simp
  refine hK _ _ (World.grownBy_alloc _ _ none) ?_
  refine wx_new (cs := [E1, E2].map (Value.int .i64)) (t := 30) (fun u3 hv1 hL3 hz3 => ?_)
  replace h1 := h1.below hv1
  replace hbw := hbw.trans (hv1.mono hbw.size)
  clear hK K hv1 hz3
  try simp only [Act.put, List.setIfInBounds_toArray, List.set_cons_zero, List.set_cons_succ]
  refine wx_one (i := 7) (by simp only [List.getElem?_toArray, List.getElem?_cons_succ, List.getElem?_cons_zero] <;> rfl) (by kernel_rfl) (by rfl) (fun K hK => ?_)
  go_simp
  refine (orE_blk [E1, E2] _ _ _ _ hL3 (by simp)).mono ?_
  rintro e u4 ⟨rfl, rfl⟩
  refine hK _ _ (gb_refl _ _) ?_
  clear hK K hL3
  try simp only [Act.put, List.setIfInBounds_toArray, List.set_cons_zero, List.set_cons_succ]
  refine wx_pure (i := 8) (d := some 4) (v := ?_) (by simp only [List.getElem?_toArray, List.getElem?_cons_succ, List.getElem?_cons_zero] <;> rfl) (by rfl) (by kernel_rfl) (by kernel_rfl) (by kernel_rfl) (fun _ _ _ h => h) (by rfl) ?_ ?_
  rotate_left
  · ((intro u); go_simp; try with_reducible rfl)
  try simp only [Act.put, List.setIfInBounds_toArray, List.set_cons_zero, List.set_cons_succ]
  refine wx_done (by kernel_rfl) ?_ _
  skip
  generalize firstZ [E1, E2] = E at *
  have nilO : ∀ W : World, OwnE ePf 52 w.heap.size W (.slice none 0 0) [] := fun W => OwnE.nil _ _
  by_cases hE0 : E = 0
  · subst hE0
    have hs1 : SE = if x.1.s ≠ x.2.s then 10 else if x.2.n < x.1.n then 7 else 0 := by have h := hSE.out; simpa using h
    replace hs1 := Lib.hid hs1
    have q0 := h1.cell (i := 0) (v := .bool x.1.s) rfl
    have q3 := h1.cell (i := 3) (v := .bool x.2.s) rfl
    have k1 := h1.ldAt rowAd 0 (adC x.1) (adC x.2) rfl rfl
    have k2 := h1.ldAt rowAd 3 (adC x.2) [] rfl rfl
    have k3 := h1.ld rowRg rfl
    clear hSE
    by_cases hss : x.1.s = x.2.s
    · have b0 : (x.1.s == x.2.s) = true := by simp [hss]
      have hs2 : SE = if x.2.n < x.1.n then 7 else 0 := by have h := hs1.out; rw [if_neg (fun f => f hss)] at h; exact h
      replace hs2 := Lib.hid hs2
      clear hs1 hss
      go_wp2_with fail
      refine (HC _).out.mono ?_
      rintro e w5 ⟨rfl, hv1⟩
      replace h1 := h1.below hv1
      replace hbw := hbw.trans (hv1.mono hbw.size)
      clear hv1 k1 k2 k3 q0 q3
      by_cases hlt : x.2.n < x.1.n
      · have HV : c < 0 := by have h := hcl.out; rw [decide_eq_true hlt] at h; exact of_decide_eq_true h
        have hfin := Lib.hid (show SE = 7 by have h := hs2.out; rw [if_pos hlt] at h; exact h)
        clear hcl hlt hs2
        go_wp2_with fail
        go_ret2
        exact ⟨_, [], by rw [hfin.out]; rfl, nilO _, fun h => absurd (hfin.out.symm.trans h) (by decide), fun _ => rfl, hbw⟩
      · have HV : ¬ c < 0 := by have h := hcl.out; rw [decide_eq_false hlt] at h; exact of_decide_eq_false h
        have hfin := Lib.hid (show SE = 0 by have h := hs2.out; rw [if_neg hlt] at h; exact h)
        have hR := Lib.hid (HOK.out hfin.out)
        have k3 := h1.ld rowRg rfl
        have hal : Below w5.heap.size w5 (w5.alloc (.cells (rgC x).toArray 49)) := (Below.refl _ _).alloc (Nat.le_refl _) _
        have hSl := sl_of_blk (E := eRg) (Blk.new w5 (rgC x) 49)
        have hbw5 := hbw.trans (hal.mono hbw.size)
        have HO := Lib.hid (setOf_any _ 1 1 [x] _ hSl (by decide) (by intro y hy; rw [List.mem_singleton.1 hy]; exact hR.out) (hT1.out _ hbw5) (by
          have h := pfsOf_len (l := [rowA x]) (n := 1) (by intro y hy; rw [List.mem_singleton.1 hy]; exact rowA_row hR.out) (by simp)
          exact Nat.le_trans h (by decide)))
        clear hcl hlt hs2 hal hSl
        go_wp2_with fail
        refine HO.out.mono ?_
        rintro e w6 ⟨⟨v, rfl, ho⟩, hv1⟩
        have hz5 := hbw5.size
        replace hbw := hbw5.trans (hv1.mono hz5)
        clear HO hv1
        go_wp2_with fail
        go_ret2
        exact ⟨v, pfsOf [rowA x], by rw [hfin.out]; rfl, OwnE.mono ho hz5, fun _ => ⟨hR.out, rfl⟩, fun h => absurd hfin.out h, hbw⟩
    · have b0 : (x.1.s == x.2.s) = false := by simp [hss]
      have hfin := Lib.hid (show SE = 10 by have h := hs1.out; rw [if_pos hss] at h; exact h)
      clear hs1 hss
      go_wp2_with fail
      go_ret2
      exact ⟨_, [], by rw [hfin.out]; rfl, nilO _, fun h => absurd (hfin.out.symm.trans h) (by decide), fun _ => rfl, hbw⟩
  · have b0 : (E == 0) = false := by simp [hE0]
    have hfin := Lib.hid (show SE = E by have h := hSE.out; rw [if_pos hE0] at h; exact h)
    have hE1' := Lib.hid hE0
    clear hE0
    go_wp2_with fail
    go_ret2
    exact ⟨_, [], by rw [hfin.out]; rfl, nilO _, fun h => absurd (hfin.out.symm.trans h) hE1'.out, fun _ => rfl, hbw⟩
end Go.Proofs.YtedmlbefkpbldaaGreatDoor
namespace Go.Proofs.YtedmlbefkpbldaaGreatDoor
open Go.RowKit
set_option linter.unusedVariables false
set_option linter.unusedSimpArgs false

/-- The first thing that is wrong with one of some prefixes. -/
def firstE (ps : List Pf) : Int := firstZ (ps.map pfE)
theorem firstE_step {ps : List Pf} {k : Nat} {p : Pf} (hp : ps[k]? = some p) : firstE (ps.drop k) = if pfE p = 0 then firstE (ps.drop (k + 1)) else pfE p := by
  obtain ⟨hk, hpe⟩ := List.getElem?_eq_some_iff.1 hp
  rw [List.drop_eq_getElem_cons hk, hpe]
  rfl
theorem firstE_zero : ∀ (ps : List Pf), firstE ps = 0 → ∀ p ∈ ps, pfE p = 0
  | [], _, p, hp => by cases hp
  | q :: r, h, p, hp => by
    have h' : (if pfE q = 0 then firstE r else pfE q) = 0 := h
    by_cases e : pfE q = 0
    · rw [if_pos e] at h'
      rcases List.mem_cons.1 hp with rfl | hp
      · exact e
      · exact firstE_zero r h' p hp
    · rw [if_neg e] at h'; exact absurd h' e

set_option maxRecDepth 100000 in
set_option maxHeartbeats 2000000 in
theorem least_any (A : Option Addr) (n cap : Nat) (ps : List Pf) (w : World) (hS : SlE ePf w A n cap ps) (hn : n ≤ 1000) (hU : ∀ p ∈ ps, p.U) (hT : Tz w) :
    Calls Tryz.prog 23 #[.slice A n cap] w (GivesS (firstE ps) (fun qs => (∀ p ∈ ps, p.R) ∧ ∃ ys, Joined ys (ps.map rgP) ∧ qs = pfsOf (ys.map rowA)) w) := by
  have hpl := Lib.hid hS.1
  replace hS := Lib.hid hS
  replace hU := Lib.hid hU
  have hT1 : Hid (∀ W, Below w.heap.size w W → Tz W) := Lib.hid fun W h => hT.below h
  have hn' : ¬ (1000 : Int) < n := by omega
  have nilO : ∀ W : World, OwnE ePf 52 w.heap.size W (.slice none 0 0) [] := fun W => OwnE.nil _ _
  clear hT
  go_enter Tryz.func23, Tryz.ntmps23
  go_wp2_with fail
  go_loopw [12] (fun i wr => ∃ k : Nat, k ≤ n ∧ i = .int .i64 k ∧ Hid ((∀ p ∈ ps.take k, p.R) ∧ firstE ps = firstE (ps.drop k)) ∧ Below w.heap.size w wr) (fun i _ => n - (intOf i).toNat)
  case atStart => exact ⟨0, by omega, rfl, Lib.hid ⟨by simp, rfl⟩, Below.refl _ _⟩
  case round =>
    obtain ⟨k, hk, rfl, hI, hbw⟩ := hrel
    by_cases hlt : k < n
    · skip
      obtain ⟨p, hp⟩ : ∃ p, ps[k]? = some p := ⟨ps[k]'(by have := hpl.out; omega), List.getElem?_eq_getElem _⟩
      obtain ⟨g0, off, rfl, _, _⟩ := hS.out.at' hlt
      have hld := SlE.ld rowPf (hS.out.below hbw) hp
      replace hld : (ldT 52 (.pointer (some ⟨g0, off + k * 4, none⟩))).run Tryz.prog wr = .ok (.value (pfA p)) wr := hld
      have hpU := hU.out p (List.mem_of_getElem? hp)
      have hlt' : (k : Int) < n := by omega
      have hsw := hbw.size
      have S1 := stT_new rowPf (te := 52) wr wr.heap.size rfl [.bool false, .int .u64 0, .int .u64 0, .int .i64 0] (pfC p) rfl rfl (pfC_one p)
      have hC := Blk.new wr (pfC p) 52
      replace hbw := hbw.alloc hsw (.cells (pfC p).toArray 52)
      have HF0 := fun w' => Lib.hid (checkPrefix_any p.1.s p.1.hi p.1.lo p.2 w' hpU.1.1.1 hpU.1.1.2 hpU.1.2.1 hpU.1.2.2)
      have k1 := hC.ld rowPf rfl
      obtain ⟨E, hE⟩ : ∃ E, E = pfE p := ⟨_, rfl⟩
      have HF : ∀ w', Hid (Calls Tryz.prog 67 #[pfA p] w' (GivesV (.int .i64 E) w')) := fun w' => by rw [hE]; exact HF0 w'
      have hst := firstE_step hp
      rw [← hE] at hst

      replace hp := Lib.hid hp
      replace hE := Lib.hid hE
      replace hst := Lib.hid hst
      clear HF0
      go_wp2_with fail
      refine (HF _).out.mono ?_
      rintro e w2 ⟨rfl, hb2⟩
      replace hC := hC.below hb2
      replace hbw := hbw.trans (hb2.mono hbw.size)
      clear hb2 k1 S1 HF hld
      by_cases hE0 : E = 0
      · have hpR : p.R := (pfE_iff hpU.1).1 (by rw [← hE.out]; exact hE0)
        have hI2 : Hid ((∀ p ∈ ps.take (k + 1), p.R) ∧ firstE ps = firstE (ps.drop (k + 1))) := Lib.hid ⟨take_R hI.out.1 hp.out hpR, by have h := hst.out; rw [if_pos hE0] at h; rw [hI.out.2, h]⟩
        subst hE0
        clear hst hpR hE
        go_wp2_with fail
        go_roundw
        case rel => exact ⟨k + 1, by omega, by go_num, hI2, hbw⟩
        case measure => simp [intOf]; omega
      · have b0 : (E == 0) = false := by simp [hE0]
        have hfin := Lib.hid (show firstE ps = E by have h := hst.out; rw [if_neg hE0] at h; rw [hI.out.2, h])
        have hE1' := Lib.hid hE0
        clear hE0 hst
        go_wp2_with fail
        go_ret2
        exact ⟨_, [], by rw [hfin.out]; rfl, nilO _, fun h => absurd (hfin.out.symm.trans h) hE1'.out, fun _ => rfl, hbw⟩
    · have hR := Lib.hid (show ∀ p ∈ ps, p.R by
        have h := hI.out.1
        rwa [List.take_of_length_le (by have := hpl.out; omega)] at h)
      have hfin := Lib.hid (show firstE ps = 0 by
        have h := hI.out.2
        rw [List.drop_of_length_le (by have := hpl.out; omega)] at h
        exact h)
      have HO := Lib.hid (ofP_any A n cap ps wr (hS.out.below hbw) (by omega) hR.out)
      clear hI
      go_wp2_with fail
      refine HO.out.mono ?_
      rintro e w2 ⟨ys, hy1, hy2, ⟨A2, c2, rfl, hSl, hA⟩, hv1⟩
      replace hbw := hbw.trans (hv1.mono hbw.size)
      have hle := (leastP_same hR.out hy1).2
      have HS := Lib.hid (setOf_any A2 _ c2 ys w2 hSl (by omega) hy1.2.2 (hT1.out _ hbw) (by have := hpl.out; omega))
      replace hy1 := Lib.hid hy1
      clear HO hv1 hSl hA hle
      generalize ys.length = L2 at *
      go_wp2_with fail
      refine HS.out.mono ?_
      rintro e w3 ⟨⟨v, rfl, ho⟩, hv1⟩
      have hz := hbw.size
      replace hbw := hbw.trans (hv1.mono hz)
      clear HS hv1
      go_wp2_with fail
      go_ret2
      exact ⟨v, _, by rw [hfin.out]; rfl, OwnE.mono ho hz, fun _ => ⟨hR.out, ys, hy1.out, rfl⟩, fun h => absurd hfin.out h, hbw⟩

theorem setF_ok {ps : List Pf} (hU : ∀ p ∈ ps, p.U) (h : setF ps = 0) : ∀ p ∈ ps, p.R := by
  have key : ∀ (l : List Pf) (o : Option Pf), scanF o l = 0 → ∀ p ∈ l, pfE p = 0 := by
    intro l
    induction l with
    | nil => intro o _ p hp; cases hp
    | cons q r ih =>
      intro o h p hp
      unfold scanF at h
      by_cases e : pfE q = 0
      · rw [if_neg (fun f => f e)] at h
        rcases List.mem_cons.1 hp with rfl | hp
        · exact e
        · cases o with
          | none => simp only [Bool.false_eq_true, if_false] at h; exact ih _ h p hp
          | some z =>
            by_cases c : q.1.n ≤ z.1.n
            · simp [c] at h
            · simp only [c, decide_false, Bool.false_eq_true, if_false] at h; exact ih _ h p hp
      · rw [if_pos e] at h; exact absurd h e
  unfold setF at h
  by_cases e : scanF none ps = 0
  · exact fun p hp => (pfE_iff (hU p hp).1).1 (key ps none e p hp)
  · rw [if_pos e] at h; exact absurd h e

set_option maxRecDepth 100000 in
set_option maxHeartbeats 2000000 in
theorem ranges_any (A : Option Addr) (n cap : Nat) (ps : List Pf) (w : World) (hS : SlE ePf w A n cap ps) (hn : n ≤ 1000) (hU : ∀ p ∈ ps, p.U) :
    Calls Tryz.prog 25 #[.slice A n cap] w fun e w' => ∃ A' cap' ys, e = .returned (.tuple #[.slice A' ys.length cap', .int .i64 (setF ps)]) ∧ SlE eRg w' A' ys.length cap' ys ∧ (setF ps = 0 → (∀ p ∈ ps, p.R) ∧ Joined ys (ps.map rgP)) ∧ (setF ps ≠ 0 → ys = []) ∧ ys.length ≤ n ∧ Below w.heap.size w w' := by
  have HC := Lib.hid (checkSet_any A n cap ps w hS hn hU)
  have HR := Lib.hid (fun h => setF_ok hU h)
  replace hS := Lib.hid hS
  clear hU
  generalize setF ps = E at *
  go_enter Tryz.func25, Tryz.ntmps25
  go_wp2_with fail
  refine HC.out.mono ?_
  rintro e w1 ⟨rfl, hb1⟩
  clear HC
  by_cases hE0 : E = 0
  · have b0 : (E == 0) = true := by simp [hE0]
    have hE1 := Lib.hid hE0
    have hR := Lib.hid (HR.out hE0)
    clear hE0
    have HO := Lib.hid (ofP_any A n cap ps w1 (hS.out.below hb1) (by omega) hR.out)
    clear HR
    go_wp2_with fail
    refine HO.out.mono ?_
    rintro e w2 ⟨ys, hy1, hy2, ⟨A2, c2, rfl, hSl, hA⟩, hv1⟩
    replace hb1 := hb1.trans (hv1.mono hb1.size)
    replace hSl := Lib.hid hSl
    replace hy1 := Lib.hid hy1
    clear HO hv1 hA
    obtain ⟨L, hL⟩ : ∃ k, k = ys.length := ⟨_, rfl⟩
    rw [← hL] at hy2 hSl ⊢
    replace hL := Lib.hid hL
    go_wp2_with fail
    go_ret2
    exact ⟨A2, c2, ys, by rw [← hL.out, hE1.out]; rfl, by rw [← hL.out]; exact hSl.out, fun _ => ⟨hR.out, hy1.out⟩, fun h => absurd hE1.out h, by rw [← hL.out]; exact hy2, hb1⟩
  · have b0 : (E == 0) = false := by simp [hE0]
    have hE1 := Lib.hid hE0
    clear hE0
    go_wp2_with fail
    go_ret2
    exact ⟨none, 0, [], rfl, SlE.nil _, fun h => absurd h hE1.out, fun _ => rfl, Nat.zero_le _, hb1⟩
end Go.Proofs.YtedmlbefkpbldaaGreatDoor
namespace Go.Proofs.YtedmlbefkpbldaaGreatDoor
open Go.RowKit
set_option linter.unusedVariables false
set_option linter.unusedSimpArgs false

theorem gb_cell1 (w : World) (g o : Nat) (v : Value) : w.grownBy (w.setCell ⟨g, o, none⟩ v) (some g) :=
  ⟨rfl, rfl, rfl, by simp [World.setCell], fun i hi hne => Below.heap_setCell _ _ _ _ (by intro e; simp at e; exact hne (by rw [e]))⟩
theorem gb_cells {g : Nat} : ∀ (vs : List Value) (o : Nat) (w : World), w.grownBy (w.setCells g o vs) (some g)
  | [], _, w => gb_refl w (some g)
  | v :: r, o, w => by
    unfold World.setCells
    exact gb_trans (gb_cell1 w g o v) (gb_cells r (o + 1) _)
theorem blk_cells {p : Nat} {t : TypeId} : ∀ (vs : List Value) (o : Nat) (w : World) (xs : List Value), Blk w p xs t → Blk (w.setCells p o vs) p (setL xs o vs) t
  | [], _, _, _, h => h
  | v :: r, o, w, xs, h => by
    unfold World.setCells setL
    exact blk_cells r (o + 1) _ _ (h.set o v)
theorem rg_swap (p q : Ad) : setL (setL (rgC (p, q)) 0 (adC q)) 3 (adC p) = rgC (q, p) := rfl
theorem rowsA_row {zs : List (Ad × Ad)} (h : ∀ z ∈ zs, RgR z) : ∀ x ∈ zs.map rowA, Row x := by
  intro x hx
  obtain ⟨z, hz, rfl⟩ := List.mem_map.1 hx
  exact rowA_row (h z hz)

/-- LeastOf and what Least gave are equal. -/
theorem stepA (Aa Ay : Option Addr) (La ca n cap : Nat) (qs ys : List Pf) (W0 W : World) (hy : SlE ePf W0 Ay n cap ys) (ha : SlE ePf W0 Aa La ca qs) (hb : Below W0.heap.size W0 W) (hn : n ≤ 1000) (hP : (∀ p ∈ ys, p.R) ∧ ∃ zs, Joined zs (ys.map rgP) ∧ qs = pfsOf (zs.map rowA)) :
    Calls Tryz.prog 32 #[.slice Ay n cap] W fun e w' => ∃ A m c, e = .returned (.slice A m c) ∧ Below W.heap.size W w' ∧ Calls Tryz.prog 31 #[.slice Aa La ca, .slice A m c] w' (GivesV (.bool true) w') := by
  obtain ⟨hR, zs, hz, rfl⟩ := hP
  refine (leastOf_any Ay n cap ys W (hy.below hb) hn hR).mono ?_
  rintro e w' ⟨xs, h1, h2, ⟨v, rfl, ho⟩, hb1⟩
  obtain ⟨A, c, rfl, hS⟩ := ho.sl
  have he : zs = xs := Joined.unique hz h1 (fun _ => Iff.rfl)
  subst he
  refine ⟨A, _, c, rfl, hb1, ?_⟩
  have hl : (pfsOf (zs.map rowA)).length ≤ 1000000 := by
    have := pfsOf_len (l := zs.map rowA) (n := n) (rowsA_row h1.2.2) (by rw [List.length_map]; exact h2)
    omega
  refine (equalPf_any Aa A La _ ca c _ _ w' (ha.below (hb.trans (hb1.mono hb.size))) hS (by rw [ha.len]; exact hl) hl).mono ?_
  rintro e w2 ⟨b, rfl, hbe, hb2⟩
  exact ⟨by rw [hbe.2 rfl], hb2⟩
theorem stepB (Aa : Option Addr) (La ca : Nat) (qs : List Pf) (x : Ad × Ad) (W0 W : World) (ha : SlE ePf W0 Aa La ca qs) (hb : Below W0.heap.size W0 W) (hP : RgR x ∧ qs = pfsOf [rowA x]) :
    Calls Tryz.prog 33 #[rgA x] W fun e w' => ∃ A m c, e = .returned (.slice A m c) ∧ Below W.heap.size W w' ∧ Calls Tryz.prog 31 #[.slice Aa La ca, .slice A m c] w' (GivesV (.bool true) w') := by
  obtain ⟨hR, rfl⟩ := hP
  refine (spanOf_any x W hR).mono ?_
  rintro e w' ⟨⟨v, rfl, ho⟩, hb1⟩
  obtain ⟨A, c, rfl, hS⟩ := ho.sl
  refine ⟨A, _, c, rfl, hb1, ?_⟩
  have hl : (pfsOf [rowA x]).length ≤ 1000000 := by
    have := pfsOf_len (l := [rowA x]) (n := 1) (by intro y hy; rw [List.mem_singleton.1 hy]; exact rowA_row hR) (by simp)
    omega
  refine (equalPf_any Aa A La _ ca c _ _ w' (ha.below (hb.trans (hb1.mono hb.size))) hS (by rw [ha.len]; exact hl) hl).mono ?_
  rintro e w2 ⟨b, rfl, hbe, hb2⟩
  exact ⟨by rw [hbe.2 rfl], hb2⟩
theorem stepC (Aa Ay : Option Addr) (La ca n cap : Nat) (qs : List (Ad × Ad)) (ys : List Pf) (W0 W : World) (hy : SlE ePf W0 Ay n cap ys) (ha : SlE eRg W0 Aa La ca qs) (hb : Below W0.heap.size W0 W) (hn : n ≤ 1000) (hP : (∀ p ∈ ys, p.R) ∧ Joined qs (ys.map rgP)) :
    Calls Tryz.prog 35 #[.slice Ay n cap] W fun e w' => ∃ A m c, e = .returned (.slice A m c) ∧ Below W.heap.size W w' ∧ Calls Tryz.prog 34 #[.slice Aa La ca, .slice A m c] w' (GivesV (.bool true) w') := by
  obtain ⟨hR, hz⟩ := hP
  refine (rangesOf_any Ay n cap ys W (hy.below hb) (by omega) hR).mono ?_
  rintro e w' ⟨xs, h1, h2, ⟨A, c, rfl, hS, _⟩, hb1⟩
  have he : qs = xs := Joined.unique hz h1 (fun _ => Iff.rfl)
  subst he
  refine ⟨A, _, c, rfl, hb1, ?_⟩
  refine (equalRg_any Aa A La _ ca c _ _ w' (ha.below (hb.trans (hb1.mono hb.size))) hS (by rw [ha.len]; omega) (by omega)).mono ?_
  rintro e w2 ⟨b, rfl, hbe, hb2⟩
  exact ⟨by rw [hbe.2 rfl], hb2⟩

/-- Of no errors but the first four. -/
theorem firstZ_cons (a : Int) (l : List Int) : firstZ (a :: l) = if a = 0 then firstZ l else a := rfl
theorem spanE_four (x : Ad × Ad) (b c : Bool) (hb : b = true ↔ x.1.s ≠ x.2.s) (hc : c = true ↔ x.2.n < x.1.n) : firstZ [adEr x.1, adEr x.2, whenZ b 10, whenZ c 7] = spanE x := by
  unfold spanE
  simp only [firstZ_cons]
  by_cases h1 : adEr x.1 = 0
  · by_cases h2 : adEr x.2 = 0
    · simp only [if_pos h1, if_pos h2]
      by_cases h3 : x.1.s ≠ x.2.s
      · rw [hb.2 h3]; simp [whenZ, firstZ, h3]
      · have : b = false := by cases b with | false => rfl | true => exact absurd (hb.1 rfl) h3
        subst this
        by_cases h4 : x.2.n < x.1.n
        · rw [hc.2 h4]; simp [whenZ, firstZ, h3, h4]
        · have : c = false := by cases c with | false => rfl | true => exact absurd (hc.1 rfl) h4
          subst this
          simp [whenZ, firstZ, h3, h4]
    · simp only [if_pos h1, if_neg h2]
      rw [if_pos h2]
  · simp only [if_neg h1]
    rw [if_pos h1]
/-- A further error is joined to the first. -/
theorem firstE_snoc (ps : List Pf) (p : Pf) : firstZ (ps.map pfE ++ [pfE p]) = firstZ [firstZ (ps.map pfE), pfE p] := by
  induction ps with
  | nil => simp [firstZ]
  | cons q r ih =>
    rw [List.map_cons, List.cons_append, firstZ_cons, ih, firstZ_cons (pfE q) (r.map pfE)]
    by_cases h : pfE q = 0
    · rw [if_pos h, if_pos h]
    · rw [if_neg h, if_neg h, firstZ_cons, if_neg h]
theorem firstE_take {ps : List Pf} {k : Nat} {p : Pf} (hp : ps[k]? = some p) : firstE (ps.take (k + 1)) = firstZ [firstE (ps.take k), pfE p] := by
  have e : ps.take (k + 1) = ps.take k ++ [p] := by
    obtain ⟨hk, hpe⟩ := List.getElem?_eq_some_iff.1 hp
    rw [← hpe, List.take_append_getElem]
  unfold firstE
  rw [e, List.map_append]
  exact firstE_snoc _ p
end Go.Proofs.YtedmlbefkpbldaaGreatDoor
