/- Sets: the reference: LeastOf, SpanOf. -/
import Derived.Test.YtedmlbefkpbldaaGreatDoorKaStT
namespace Go.Proofs.YtedmlbefkpbldaaGreatDoor
open Go.RowKit
set_option linter.unusedVariables false
set_option linter.unusedSimpArgs false

theorem sl_of_blk {α : Type} {E : Enc α} {w : World} {g : Nat} {x : α} {t : TypeId} (h : Blk w g (E.enc x) t) : SlE E w (some ⟨g, 0, none⟩) 1 1 [x] := by
  refine ⟨rfl, Nat.le_refl _, (fun e => by cases e), .inr ⟨g, 0, rfl, h.lt, fun j y hy i v hv => ?_⟩⟩
  cases j with
  | zero =>
    simp at hy; subst hy
    have := h.cell hv
    simpa using this
  | succ j => simp at hy
theorem pfsOf_len {l : List (Nat × Nat)} {n : Nat} (h : ∀ x ∈ l, Row x) (hl : l.length ≤ n) : (pfsOf l).length ≤ n * 258 := by
  have h1 := cuts_len l h
  have h2 := Nat.mul_le_mul_right 258 hl
  unfold pfsOf
  rw [List.length_map]; exact Nat.le_trans h1 h2

set_option maxHeartbeats 2000000 in
set_option maxRecDepth 100000 in
/-- The reference's Least, without the bound. -/
theorem leastOf_any (A : Option Addr) (n cap : Nat) (ps : List Pf) (w : World) (hS : SlE ePf w A n cap ps) (hn : n ≤ 1000) (hR : ∀ p ∈ ps, p.R) :
    Calls Tryz.prog 32 #[.slice A n cap] w fun e w' => ∃ ys, Joined ys (ps.map rgP) ∧ ys.length ≤ n ∧ GivesO ePf 52 w.heap.size (pfsOf (ys.map rowA)) e w' ∧ Below w.heap.size w w' := by
  have HS := Lib.hid (ofS_any A n cap ps w hS (by omega) hR)
  clear hS hR
  go_enter Tryz.func32, Tryz.ntmps32
  go_wp2_with fail
  refine HS.out.mono ?_
  rintro e w1 ⟨ys, hy1, hy2, ⟨A2, cap2, rfl, hSl, hA⟩, hb1⟩
  have HP := Lib.hid (prefixesR_any A2 ys.length cap2 ys w1 hSl (by omega) hy1.2.2)
  replace hy1 := Lib.hid hy1
  clear HS hSl hA
  obtain ⟨L, hL⟩ : ∃ m, m = ys.length := ⟨_, rfl⟩
  rw [← hL] at HP hy2 ⊢
  replace hL := Lib.hid hL
  go_wp2_with fail
  refine HP.out.mono ?_
  rintro e w2 ⟨⟨v4, rfl, ho4⟩, hb2⟩
  clear HP
  go_wp2_with fail
  go_ret
  exact ⟨ys, hy1.out, by rw [← hL.out]; exact hy2, ⟨v4, rfl, ho4.mono hb1.size⟩, hb1.trans (hb2.mono hb1.size)⟩

set_option maxHeartbeats 2000000 in
set_option maxRecDepth 100000 in
/-- The reference's Span. -/
theorem spanOf_any (x : Ad × Ad) (w : World) (hR : RgR x) :
    Calls Tryz.prog 33 #[rgA x] w fun e w' => GivesO ePf 52 w.heap.size (pfsOf [rowA x]) e w' ∧ Below w.heap.size w w' := by
  have HO1 := fun w' => Lib.hid (of_w x.1 w' hR.1.1)
  have HO2 := fun w' => Lib.hid (of_w x.2 w' hR.2.1.1)
  have h1 := Blk.new w (rgC x) 49
  have hbw : Below w.heap.size w (w.alloc (.cells (rgC x).toArray 49)) := (Below.refl _ _).alloc (Nat.le_refl _) _
  have hB := gb_refl (w.alloc (.cells (rgC x).toArray 49)) none
  replace hR := Lib.hid hR
  go_enter Tryz.func33, Tryz.ntmps33
  go_wp2_with fail
  refine wx_begin (none) [] (by kernel_rfl) (fun u0 hb0' hz0' => ?_)
  replace h1 := h1.below hb0'
  replace hbw := hbw.trans (hb0'.mono hbw.size)
  clear hb0' hz0'
  refine wx_pure (i := 0) (d := some 3) (v := ?_) (by simp only [List.getElem?_toArray, List.getElem?_cons_succ, List.getElem?_cons_zero] <;> rfl) (by rfl) (by kernel_rfl) (by kernel_rfl) (by kernel_rfl) (fun _ _ _ h => h) (by rfl) ?_ ?_
  rotate_left
  · ((intro u); go_simp; try with_reducible rfl)
  try simp only [Act.put, List.setIfInBounds_toArray, List.set_cons_zero, List.set_cons_succ]
  refine wx_take (i := 1) (d := some 4) (v := ?_) (by simp only [List.getElem?_toArray, List.getElem?_cons_succ, List.getElem?_cons_zero] <;> rfl) (by rfl) (by kernel_rfl) (by kernel_rfl) (by kernel_rfl) (fun _ _ _ h => h) (by rfl) (by kernel_rfl) ?_ ?_
  rotate_left
  · ((intro u hu); have k1 := (h1.gn hu).ldAt rowAd 0 (adC x.1) (adC x.2) rfl rfl; have k2 := (h1.gn hu).ldAt rowAd 3 (adC x.2) [] rfl rfl; go_simp; try with_reducible rfl)
  try simp only [Act.put, List.setIfInBounds_toArray, List.set_cons_zero, List.set_cons_succ]
  refine wx_pure (i := 3) (d := some 6) (v := ?_) (by simp only [List.getElem?_toArray, List.getElem?_cons_succ, List.getElem?_cons_zero] <;> rfl) (by rfl) (by kernel_rfl) (by kernel_rfl) (by kernel_rfl) (fun _ _ _ h => h) (by rfl) ?_ ?_
  rotate_left
  · ((intro u); go_simp; try with_reducible rfl)
  try simp only [Act.put, List.setIfInBounds_toArray, List.set_cons_zero, List.set_cons_succ]
  refine wx_take (i := 4) (d := some 7) (v := ?_) (by simp only [List.getElem?_toArray, List.getElem?_cons_succ, List.getElem?_cons_zero] <;> rfl) (by rfl) (by kernel_rfl) (by kernel_rfl) (by kernel_rfl) (fun _ _ _ h => h) (by rfl) (by kernel_rfl) ?_ ?_
  rotate_left
  · ((intro u hu); have k1 := (h1.gn hu).ldAt rowAd 0 (adC x.1) (adC x.2) rfl rfl; have k2 := (h1.gn hu).ldAt rowAd 3 (adC x.2) [] rfl rfl; go_simp; try with_reducible rfl)
  try simp only [Act.put, List.setIfInBounds_toArray, List.set_cons_zero, List.set_cons_succ]
  refine wx_one (i := 2) (by simp only [List.getElem?_toArray, List.getElem?_cons_succ, List.getElem?_cons_zero] <;> rfl) (by kernel_rfl) (by rfl) (fun K hK => ?_)
  go_simp
  refine (HO1 _).out.mono ?_
  rintro e u1 ⟨rfl, hv1⟩
  refine hK _ _ (gbB hv1) ?_
  replace h1 := h1.below hv1
  replace hbw := hbw.trans (hv1.mono hbw.size)
  clear hK K hv1
  try simp only [Act.put, List.setIfInBounds_toArray, List.set_cons_zero, List.set_cons_succ]
  refine wx_one (i := 5) (by simp only [List.getElem?_toArray, List.getElem?_cons_succ, List.getElem?_cons_zero] <;> rfl) (by kernel_rfl) (by rfl) (fun K hK => ?_)
  go_simp
  refine (HO2 _).out.mono ?_
  rintro e u2 ⟨rfl, hv1⟩
  refine hK _ _ (gbB hv1) ?_
  replace h1 := h1.below hv1
  replace hbw := hbw.trans (hv1.mono hbw.size)
  clear hK K hv1
  try simp only [Act.put, List.setIfInBounds_toArray, List.set_cons_zero, List.set_cons_succ]
  refine wx_pure (i := 6) (d := some 9) (v := ?_) (by simp only [List.getElem?_toArray, List.getElem?_cons_succ, List.getElem?_cons_zero] <;> rfl) (by rfl) (by kernel_rfl) (by kernel_rfl) (by kernel_rfl) (fun _ _ _ h => h) (by rfl) ?_ ?_
  rotate_left
  · ((intro u); go_simp; try with_reducible rfl)
  try simp only [Act.put, List.setIfInBounds_toArray, List.set_cons_zero, List.set_cons_succ]
  refine wx_one (i := 7) (by simp only [List.getElem?_toArray, List.getElem?_cons_succ, List.getElem?_cons_zero] <;> rfl) (by kernel_rfl) (by rfl) (fun K hK => ?_)
  go_simp
  refine hK _ _ (World.grownBy_alloc _ _ none) ?_
  refine wx_new (cs := spC x) (t := 103) (fun u3 hv1 hL3 hz3 => ?_)
  replace h1 := h1.below hv1
  replace hbw := hbw.trans (hv1.mono hbw.size)
  have hSl := sl_of_blk (E := eSp) hL3
  clear hK K hv1 hz3
  try simp only [Act.put, List.setIfInBounds_toArray, List.set_cons_zero, List.set_cons_succ]
  refine wx_one (i := 8) (by simp only [List.getElem?_toArray, List.getElem?_cons_succ, List.getElem?_cons_zero] <;> rfl) (by kernel_rfl) (by rfl) (fun K hK => ?_)
  go_simp
  refine (prefixesR_any _ 1 1 [x] _ hSl (by decide) (by intro y hy; rw [List.mem_singleton.1 hy]; exact hR.out)).mono ?_
  rintro e u4 ⟨⟨v4, rfl, ho4⟩, hv1⟩
  replace ho4 : OwnE ePf 52 _ u4 v4 (pfsOf [rowA x]) := ho4
  refine hK _ _ (gbB hv1) ?_
  have hbs := hbw.size
  replace hbw := hbw.trans (hv1.mono hbw.size)
  clear hK K hv1
  try simp only [Act.put, List.setIfInBounds_toArray, List.set_cons_zero, List.set_cons_succ]
  refine wx_pure (i := 9) (d := some 2) (v := ?_) (by simp only [List.getElem?_toArray, List.getElem?_cons_succ, List.getElem?_cons_zero] <;> rfl) (by rfl) (by kernel_rfl) (by kernel_rfl) (by kernel_rfl) (fun _ _ _ h => h) (by rfl) ?_ ?_
  rotate_left
  · ((intro u); go_simp; try with_reducible rfl)
  try simp only [Act.put, List.setIfInBounds_toArray, List.set_cons_zero, List.set_cons_succ]
  refine wx_done (by kernel_rfl) ?_ _
  skip
  go_wp2_with fail
  go_ret
  exact ⟨⟨v4, rfl, ho4.mono hbs⟩, hbw⟩
end Go.Proofs.YtedmlbefkpbldaaGreatDoor
