/- Reports: how the program checks a list. -/
import Derived.Test.YtfiocnjogbpgoaaGreatDoorKkRpE
import Derived.Test.YtfiocnjogbpgoaaGreatDoorKkFltY
import Derived.Test.YtfiocnjogbpgoaaGreatDoorKkWaysI
namespace Go.Proofs.YtfiocnjogbpgoaaGreatDoor
open Go.RowKit
set_option linter.unusedVariables false
set_option linter.unusedSimpArgs false

theorem orF_blk (l : List Int) (p cap : Nat) (w : World) (t : TypeId) (h : Blk w p (l.map (Value.int .i64)) t) (hl : l.length ≤ 100) :
    Calls Tryz.prog 61 #[.slice (some ⟨p, 0, none⟩) l.length cap] w fun e w' => e = .returned (.int .i64 (firstZ l)) ∧ w = w' :=
  or_any l p cap w (fun i hi => h.cell (by simp [List.getElem?_eq_getElem hi])) hl
def numE (z a b : Int) : Int := if a ≤ z ∧ z ≤ b then 0 else 1
def keyE (l : List UInt8) : Int := if keyB l then 0 else 5
def flE (x : Fl) : Int := flF x.p x.f.s x.f.hi x.f.lo x.t.s x.t.hi x.t.lo x.fp x.tp
/-- What is wrong with a report. -/
def repF (x : Rp) : Int := firstZ [firstZ [keyE x.node, numE x.hour 0 96023, flE x.fl], numE x.pk 1 1000000000000, numE x.by_ 0 1000000000000]

set_option maxHeartbeats 4000000 in
set_option maxRecDepth 100000 in
theorem checkReport_any (x : Rp) (w : World) (hx : x.U) :
    Calls Tryz.prog 59 #[rpA x] w (GivesV (.int .i64 (repF x)) w) := by
  obtain ⟨z1, hz1⟩ : ∃ z, z = keyE x.node := ⟨_, rfl⟩
  obtain ⟨z2, hz2⟩ : ∃ z, z = numE x.hour 0 96023 := ⟨_, rfl⟩
  obtain ⟨z3, hz3⟩ : ∃ z, z = flE x.fl := ⟨_, rfl⟩
  obtain ⟨z4, hz4⟩ : ∃ z, z = numE x.pk 1 1000000000000 := ⟨_, rfl⟩
  obtain ⟨z5, hz5⟩ : ∃ z, z = numE x.by_ 0 1000000000000 := ⟨_, rfl⟩
  obtain ⟨Z, hZ⟩ : ∃ Z, Z = firstZ [z1, z2, z3] := ⟨_, rfl⟩
  have C1 := Lib.hid (fun w' => (show Calls Tryz.prog 105 #[.string ⟨x.node.toArray⟩] w' fun e w2 => e = .returned (.int .i64 (keyE x.node)) ∧ w2 = w' from key_any x.node w'))
  have C2 := Lib.hid (fun w' => (show Calls Tryz.prog 62 #[.int .i64 x.hour, .int .i64 0, .int .i64 96023] w' fun e w2 => e = .returned (.int .i64 (numE x.hour 0 96023)) ∧ w' = w2 from numberI_any x.hour 0 96023 w'))
  have C3 := Lib.hid (fun w' => (show Calls Tryz.prog 106 #[flA x.fl] w' (GivesV (.int .i64 (flE x.fl)) w') from checkFlow_any _ _ _ _ _ _ _ _ _ w'))
  have C4 := Lib.hid (fun w' => (show Calls Tryz.prog 62 #[.int .i64 x.pk, .int .i64 1, .int .i64 1000000000000] w' fun e w2 => e = .returned (.int .i64 (numE x.pk 1 1000000000000)) ∧ w' = w2 from numberI_any x.pk 1 1000000000000 w'))
  have C5 := Lib.hid (fun w' => (show Calls Tryz.prog 62 #[.int .i64 x.by_, .int .i64 0, .int .i64 1000000000000] w' fun e w2 => e = .returned (.int .i64 (numE x.by_ 0 1000000000000)) ∧ w' = w2 from numberI_any x.by_ 0 1000000000000 w'))
  have HR : Hid (firstZ [Z, z4, z5] = repF x) := Lib.hid (by rw [hZ, hz1, hz2, hz3, hz4, hz5]; rfl)
  rw [← hz1] at C1
  rw [← hz2] at C2
  rw [← hz3] at C3
  rw [← hz4] at C4
  rw [← hz5] at C5
  replace hZ := Lib.hid hZ
  obtain ⟨R, hR⟩ : ∃ R, R = repF x := ⟨_, rfl⟩
  rw [← hR] at HR ⊢
  clear hz1 hz2 hz3 hz4 hz5 hR hx
  have hA := Blk.new w (rpC x) 56
  have hbw : Below w.heap.size w (w.alloc (.cells (rpC x).toArray 56)) := (Below.refl _ _).alloc (Nat.le_refl _) _
  go_enter Tryz.func59, Tryz.ntmps59
  go_upto_region 1 with fail
  refine wb_begin ([w.heap.size]) [] (by kernel_rfl) (fun u0 hb0' hz0' => ?_)
  replace hA := hA.below hb0'
  replace hbw := hbw.trans (hb0'.mono hbw.size)
  clear hb0' hz0'
  refine wb_pure (i := 0) (d := some 4) (v := ?_) (by simp only [List.getElem?_toArray, List.getElem?_cons_succ, List.getElem?_cons_zero] <;> rfl) (by rfl) (by kernel_rfl) (by kernel_rfl) (by kernel_rfl) (fun _ _ _ h => h) (by rfl) ?_ ?_
  rotate_left
  · ((intro u); go_simp; try with_reducible rfl)
  try simp only [Act.put, List.setIfInBounds_toArray, List.set_cons_zero, List.set_cons_succ]
  refine wb_take (i := 1) (d := some 5) (v := ?_) (by simp only [List.getElem?_toArray, List.getElem?_cons_succ, List.getElem?_cons_zero] <;> rfl) (by rfl) (by kernel_rfl) (by kernel_rfl) (by kernel_rfl) (fun _ _ _ h => h) (by rfl) (by kernel_rfl) ?_ ?_
  rotate_left
  · ((intro u hu); have ka := hA.kb hu (List.mem_singleton.2 rfl); have a0 := ka.cell (i := 0) (v := .string ⟨x.node.toArray⟩) rfl; have a1 := ka.cell (i := 1) (v := .int .i64 x.hour) rfl; have a12 := ka.cell (i := 12) (v := .int .i64 x.pk) rfl; have a13 := ka.cell (i := 13) (v := .int .i64 x.by_) rfl; have l1 := ka.ldAt rowFl 3 (flC x.fl) [.int .i64 x.pk, .int .i64 x.by_] rfl rfl; clear ka; go_simp; try with_reducible rfl)
  try simp only [Act.put, List.setIfInBounds_toArray, List.set_cons_zero, List.set_cons_succ]
  refine wb_pure (i := 3) (d := some 7) (v := ?_) (by simp only [List.getElem?_toArray, List.getElem?_cons_succ, List.getElem?_cons_zero] <;> rfl) (by rfl) (by kernel_rfl) (by kernel_rfl) (by kernel_rfl) (fun _ _ _ h => h) (by rfl) ?_ ?_
  rotate_left
  · ((intro u); go_simp; try with_reducible rfl)
  try simp only [Act.put, List.setIfInBounds_toArray, List.set_cons_zero, List.set_cons_succ]
  refine wb_take (i := 4) (d := some 8) (v := ?_) (by simp only [List.getElem?_toArray, List.getElem?_cons_succ, List.getElem?_cons_zero] <;> rfl) (by rfl) (by kernel_rfl) (by kernel_rfl) (by kernel_rfl) (fun _ _ _ h => h) (by rfl) (by kernel_rfl) ?_ ?_
  rotate_left
  · ((intro u hu); have ka := hA.kb hu (List.mem_singleton.2 rfl); have a0 := ka.cell (i := 0) (v := .string ⟨x.node.toArray⟩) rfl; have a1 := ka.cell (i := 1) (v := .int .i64 x.hour) rfl; have a12 := ka.cell (i := 12) (v := .int .i64 x.pk) rfl; have a13 := ka.cell (i := 13) (v := .int .i64 x.by_) rfl; have l1 := ka.ldAt rowFl 3 (flC x.fl) [.int .i64 x.pk, .int .i64 x.by_] rfl rfl; clear ka; go_simp; try with_reducible rfl)
  try simp only [Act.put, List.setIfInBounds_toArray, List.set_cons_zero, List.set_cons_succ]
  refine wb_pure (i := 6) (d := some 10) (v := ?_) (by simp only [List.getElem?_toArray, List.getElem?_cons_succ, List.getElem?_cons_zero] <;> rfl) (by rfl) (by kernel_rfl) (by kernel_rfl) (by kernel_rfl) (fun _ _ _ h => h) (by rfl) ?_ ?_
  rotate_left
  · ((intro u); go_simp; try with_reducible rfl)
  try simp only [Act.put, List.setIfInBounds_toArray, List.set_cons_zero, List.set_cons_succ]
  refine wb_take (i := 7) (d := some 11) (v := ?_) (by simp only [List.getElem?_toArray, List.getElem?_cons_succ, List.getElem?_cons_zero] <;> rfl) (by rfl) (by kernel_rfl) (by kernel_rfl) (by kernel_rfl) (fun _ _ _ h => h) (by rfl) (by kernel_rfl) ?_ ?_
  rotate_left
  · ((intro u hu); have ka := hA.kb hu (List.mem_singleton.2 rfl); have a0 := ka.cell (i := 0) (v := .string ⟨x.node.toArray⟩) rfl; have a1 := ka.cell (i := 1) (v := .int .i64 x.hour) rfl; have a12 := ka.cell (i := 12) (v := .int .i64 x.pk) rfl; have a13 := ka.cell (i := 13) (v := .int .i64 x.by_) rfl; have l1 := ka.ldAt rowFl 3 (flC x.fl) [.int .i64 x.pk, .int .i64 x.by_] rfl rfl; clear ka; go_simp; try with_reducible rfl)
  try simp only [Act.put, List.setIfInBounds_toArray, List.set_cons_zero, List.set_cons_succ]
  refine wb_one (i := 2) (by simp only [List.getElem?_toArray, List.getElem?_cons_succ, List.getElem?_cons_zero] <;> rfl) (by kernel_rfl) (by rfl) (fun K hK => ?_)
  go_simp
  refine (C1.out _).mono ?_
  rintro e u2 ⟨rfl, rfl⟩
  refine hK _ _ (Kb.refl _ _) ?_
  clear hK K
  try simp only [Act.put, List.setIfInBounds_toArray, List.set_cons_zero, List.set_cons_succ]
  refine wb_one (i := 5) (by simp only [List.getElem?_toArray, List.getElem?_cons_succ, List.getElem?_cons_zero] <;> rfl) (by kernel_rfl) (by rfl) (fun K hK => ?_)
  go_simp
  refine (C2.out _).mono ?_
  rintro e u5 ⟨rfl, rfl⟩
  refine hK _ _ (Kb.refl _ _) ?_
  clear hK K
  try simp only [Act.put, List.setIfInBounds_toArray, List.set_cons_zero, List.set_cons_succ]
  refine wb_one (i := 8) (by simp only [List.getElem?_toArray, List.getElem?_cons_succ, List.getElem?_cons_zero] <;> rfl) (by kernel_rfl) (by rfl) (fun K hK => ?_)
  go_simp
  refine (C3.out _).mono ?_
  rintro e u8 ⟨rfl, hv1⟩
  refine hK _ _ (Kb.below hv1 (by intro q hq; rw [List.mem_singleton.1 hq]; exact hA.lt)) ?_
  replace hA := hA.below hv1
  replace hbw := hbw.trans (hv1.mono hbw.size)
  clear hK K hv1
  try simp only [Act.put, List.setIfInBounds_toArray, List.set_cons_zero, List.set_cons_succ]
  refine wb_one (i := 9) (by simp only [List.getElem?_toArray, List.getElem?_cons_succ, List.getElem?_cons_zero] <;> rfl) (by kernel_rfl) (by rfl) (fun K hK => ?_)
  go_simp
  refine hK _ _ (Kb.gb (World.grownBy_alloc _ _ none) (by intro q hq; rw [List.mem_singleton.1 hq]; exact ⟨hA.lt, by simp⟩)) ?_
  refine wb_new (cs := [z1, z2, z3].map (Value.int .i64)) (t := 33) (fun u91 hv3 hL3 hz3 => ?_)
  replace hA := hA.below hv3
  replace hbw := hbw.trans (hv3.mono hbw.size)
  clear hK K hv3 hz3
  try simp only [Act.put, List.setIfInBounds_toArray, List.set_cons_zero, List.set_cons_succ]
  refine wb_one (i := 10) (by simp only [List.getElem?_toArray, List.getElem?_cons_succ, List.getElem?_cons_zero] <;> rfl) (by kernel_rfl) (by rfl) (fun K hK => ?_)
  go_simp
  refine (orF_blk [z1, z2, z3] _ _ _ _ hL3 (by simp)).mono ?_
  rintro e w' ⟨rfl, rfl⟩
  refine hK _ _ (Kb.refl _ _) ?_
  clear hK K hL3
  try simp only [Act.put, List.setIfInBounds_toArray, List.set_cons_zero, List.set_cons_succ]
  refine wb_pure (i := 11) (d := some 3) (v := ?_) (by simp only [List.getElem?_toArray, List.getElem?_cons_succ, List.getElem?_cons_zero] <;> rfl) (by rfl) (by kernel_rfl) (by kernel_rfl) (by kernel_rfl) (fun _ _ _ h => h) (by rfl) ?_ ?_
  rotate_left
  · ((intro u); go_simp; try with_reducible rfl)
  try simp only [Act.put, List.setIfInBounds_toArray, List.set_cons_zero, List.set_cons_succ]
  refine wb_done (by kernel_rfl) ?_ _
  skip
  rw [← hZ.out]
  go_upto_region 2 with fail
  refine wb_begin ([w.heap.size]) [] (by kernel_rfl) (fun u0 hb0' hz0' => ?_)
  replace hA := hA.below hb0'
  replace hbw := hbw.trans (hb0'.mono hbw.size)
  clear hb0' hz0'
  refine wb_pure (i := 0) (d := some 15) (v := ?_) (by simp only [List.getElem?_toArray, List.getElem?_cons_succ, List.getElem?_cons_zero] <;> rfl) (by rfl) (by kernel_rfl) (by kernel_rfl) (by kernel_rfl) (fun _ _ _ h => h) (by rfl) ?_ ?_
  rotate_left
  · ((intro u); go_simp; try with_reducible rfl)
  try simp only [Act.put, List.setIfInBounds_toArray, List.set_cons_zero, List.set_cons_succ]
  refine wb_pure (i := 1) (d := some 16) (v := ?_) (by simp only [List.getElem?_toArray, List.getElem?_cons_succ, List.getElem?_cons_zero] <;> rfl) (by rfl) (by kernel_rfl) (by kernel_rfl) (by kernel_rfl) (fun _ _ _ h => h) (by rfl) ?_ ?_
  rotate_left
  · ((intro u); go_simp; try with_reducible rfl)
  try simp only [Act.put, List.setIfInBounds_toArray, List.set_cons_zero, List.set_cons_succ]
  refine wb_take (i := 2) (d := some 17) (v := ?_) (by simp only [List.getElem?_toArray, List.getElem?_cons_succ, List.getElem?_cons_zero] <;> rfl) (by rfl) (by kernel_rfl) (by kernel_rfl) (by kernel_rfl) (fun _ _ _ h => h) (by rfl) (by kernel_rfl) ?_ ?_
  rotate_left
  · ((intro u hu); have ka := hA.kb hu (List.mem_singleton.2 rfl); have a0 := ka.cell (i := 0) (v := .string ⟨x.node.toArray⟩) rfl; have a1 := ka.cell (i := 1) (v := .int .i64 x.hour) rfl; have a12 := ka.cell (i := 12) (v := .int .i64 x.pk) rfl; have a13 := ka.cell (i := 13) (v := .int .i64 x.by_) rfl; have l1 := ka.ldAt rowFl 3 (flC x.fl) [.int .i64 x.pk, .int .i64 x.by_] rfl rfl; clear ka; go_simp; try with_reducible rfl)
  try simp only [Act.put, List.setIfInBounds_toArray, List.set_cons_zero, List.set_cons_succ]
  refine wb_pure (i := 4) (d := some 19) (v := ?_) (by simp only [List.getElem?_toArray, List.getElem?_cons_succ, List.getElem?_cons_zero] <;> rfl) (by rfl) (by kernel_rfl) (by kernel_rfl) (by kernel_rfl) (fun _ _ _ h => h) (by rfl) ?_ ?_
  rotate_left
  · ((intro u); go_simp; try with_reducible rfl)
  try simp only [Act.put, List.setIfInBounds_toArray, List.set_cons_zero, List.set_cons_succ]
  refine wb_take (i := 5) (d := some 20) (v := ?_) (by simp only [List.getElem?_toArray, List.getElem?_cons_succ, List.getElem?_cons_zero] <;> rfl) (by rfl) (by kernel_rfl) (by kernel_rfl) (by kernel_rfl) (fun _ _ _ h => h) (by rfl) (by kernel_rfl) ?_ ?_
  rotate_left
  · ((intro u hu); have ka := hA.kb hu (List.mem_singleton.2 rfl); have a0 := ka.cell (i := 0) (v := .string ⟨x.node.toArray⟩) rfl; have a1 := ka.cell (i := 1) (v := .int .i64 x.hour) rfl; have a12 := ka.cell (i := 12) (v := .int .i64 x.pk) rfl; have a13 := ka.cell (i := 13) (v := .int .i64 x.by_) rfl; have l1 := ka.ldAt rowFl 3 (flC x.fl) [.int .i64 x.pk, .int .i64 x.by_] rfl rfl; clear ka; go_simp; try with_reducible rfl)
  try simp only [Act.put, List.setIfInBounds_toArray, List.set_cons_zero, List.set_cons_succ]
  refine wb_one (i := 3) (by simp only [List.getElem?_toArray, List.getElem?_cons_succ, List.getElem?_cons_zero] <;> rfl) (by kernel_rfl) (by rfl) (fun K hK => ?_)
  go_simp
  refine (C4.out _).mono ?_
  rintro e u3 ⟨rfl, rfl⟩
  refine hK _ _ (Kb.refl _ _) ?_
  clear hK K
  try simp only [Act.put, List.setIfInBounds_toArray, List.set_cons_zero, List.set_cons_succ]
  refine wb_one (i := 6) (by simp only [List.getElem?_toArray, List.getElem?_cons_succ, List.getElem?_cons_zero] <;> rfl) (by kernel_rfl) (by rfl) (fun K hK => ?_)
  go_simp
  refine (C5.out _).mono ?_
  rintro e u6 ⟨rfl, rfl⟩
  refine hK _ _ (Kb.refl _ _) ?_
  clear hK K
  try simp only [Act.put, List.setIfInBounds_toArray, List.set_cons_zero, List.set_cons_succ]
  refine wb_one (i := 7) (by simp only [List.getElem?_toArray, List.getElem?_cons_succ, List.getElem?_cons_zero] <;> rfl) (by kernel_rfl) (by rfl) (fun K hK => ?_)
  go_simp
  refine hK _ _ (Kb.gb (World.grownBy_alloc _ _ none) (by intro q hq; rw [List.mem_singleton.1 hq]; exact ⟨hA.lt, by simp⟩)) ?_
  refine wb_new (cs := [Z, z4, z5].map (Value.int .i64)) (t := 33) (fun u91 hv3 hL3 hz3 => ?_)
  replace hA := hA.below hv3
  replace hbw := hbw.trans (hv3.mono hbw.size)
  clear hK K hv3 hz3
  try simp only [Act.put, List.setIfInBounds_toArray, List.set_cons_zero, List.set_cons_succ]
  refine wb_one (i := 8) (by simp only [List.getElem?_toArray, List.getElem?_cons_succ, List.getElem?_cons_zero] <;> rfl) (by kernel_rfl) (by rfl) (fun K hK => ?_)
  go_simp
  refine (orF_blk [Z, z4, z5] _ _ _ _ hL3 (by simp)).mono ?_
  rintro e w' ⟨rfl, rfl⟩
  refine hK _ _ (Kb.refl _ _) ?_
  clear hK K hL3
  try simp only [Act.put, List.setIfInBounds_toArray, List.set_cons_zero, List.set_cons_succ]
  refine wb_pure (i := 9) (d := some 2) (v := ?_) (by simp only [List.getElem?_toArray, List.getElem?_cons_succ, List.getElem?_cons_zero] <;> rfl) (by rfl) (by kernel_rfl) (by kernel_rfl) (by kernel_rfl) (fun _ _ _ h => h) (by rfl) ?_ ?_
  rotate_left
  · ((intro u); go_simp; try with_reducible rfl)
  try simp only [Act.put, List.setIfInBounds_toArray, List.set_cons_zero, List.set_cons_succ]
  refine wb_done (by kernel_rfl) ?_ _
  skip
  go_wp2_with fail
  go_ret
  exact ⟨ret_i64 HR.out, hbw⟩
end Go.Proofs.YtfiocnjogbpgoaaGreatDoor
namespace Go.Proofs.YtfiocnjogbpgoaaGreatDoor
open Go.RowKit
set_option linter.unusedVariables false
set_option linter.unusedSimpArgs false

theorem rangeAt_kb {w u : World} {g o : Nat} {cs : List Value} (h : w.rangeAt g o cs) (hb : u.heap[g]? = w.heap[g]?) : u.rangeAt g o cs := fun j v hv => by
  rw [World.cell?_of_block (w := w) hb]; exact h j v hv
/-- What is wrong with reports, behind one. -/
def badO (prev : Option Rp) (r : Rp) : Bool := match prev with
  | none => false
  | some p => decide (cmpRp r p ≤ 0)
def risL (prev : Option Rp) : List Rp → Int
  | [] => 0
  | r :: l => if repF r = 0 then (if badO prev r then 7 else risL (some r) l) else repF r
def prevO (rs : List Rp) : Nat → Option Rp
  | 0 => none
  | k + 1 => rs[k]?
/-- What is wrong with a list of reports. -/
def repsF (rs : List Rp) : Int := if 3000 < rs.length then 2 else risL none rs
theorem risL_step {rs : List Rp} {k : Nat} {x : Rp} (hx : rs[k]? = some x) : risL (prevO rs k) (rs.drop k) = if repF x = 0 then (if badO (prevO rs k) x then 7 else risL (prevO rs (k + 1)) (rs.drop (k + 1))) else repF x := by
  rw [List.drop_eq_getElem_cons (List.getElem?_eq_some_iff.1 hx).1, (List.getElem?_eq_some_iff.1 hx).2]
  show _ = if repF x = 0 then (if badO (prevO rs k) x then 7 else risL (rs[k]?) (rs.drop (k + 1))) else repF x
  rw [hx]
  rfl
theorem risL_end {rs : List Rp} {k : Nat} (h : rs.length ≤ k) (p : Option Rp) : risL p (rs.drop k) = 0 := by
  rw [List.drop_eq_nil_of_le h]; rfl

set_option maxHeartbeats 4000000 in
set_option maxRecDepth 100000 in
theorem rising_any (R : Int) (A : Option Addr) (n cap : Nat) (rs : List Rp) (w : World) (hS : SlE eRp w A n cap rs) (hn : n ≤ 1000000) (hU : ∀ r ∈ rs, r.U) (hR : R = repsF rs) :
    Calls Tryz.prog 58 #[.slice A n cap, .int .i64 3000, .func (.func 59) #[] #[], .func (.func 60) #[] #[], .slice none 0 0] w (GivesV (.int .i64 R) w) := by
  have hl := hS.1
  unfold repsF at hR
  by_cases h3 : 3000 < n
  · have hV := Lib.hid (show R = 2 by rw [hR, if_pos (by omega)])
    have h3' : (3000 : Int) < n := by omega
    clear h3 hS hl hn hR hU
    go_enter Tryz.func58, Tryz.ntmps58
    go_wp2_with fail
    go_ret
    exact ⟨by rw [hV.out]; rfl, Below.refl _ _⟩
  · have h3' : ¬ (3000 : Int) < n := by omega
    rw [if_neg (by omega)] at hR
    replace hR := Lib.hid hR
    replace hl := Lib.hid hl
    replace hS := Lib.hid hS
    replace hU := Lib.hid hU
    clear h3
    go_enter Tryz.func58, Tryz.ntmps58
    go_wp2_with fail
    go_loopw [23] (fun vi wr => ∃ k : Nat, k ≤ n ∧ vi = .int .i64 k ∧ Below w.heap.size w wr ∧ Hid (R = risL (prevO rs k) (rs.drop k))) (fun vi _ => n - (intOf vi).toNat)
    case atStart => exact ⟨0, Nat.zero_le _, rfl, Below.refl _ _, Lib.hid hR.out⟩
    case round =>
      obtain ⟨k, hk, rfl, hbw, hI⟩ := hrel
      by_cases hlt : k < n
      · obtain ⟨x, hx⟩ : ∃ x, rs[k]? = some x := ⟨rs[k]'(by have := hl.out; omega), List.getElem?_eq_getElem _⟩
        have hS1 := hS.out.below hbw
        obtain ⟨g, off, rfl, hgl, _⟩ := hS1.at' hlt
        have k1 : (ldT 56 (.pointer (some ⟨g, off + k * 14, none⟩))).run Tryz.prog wr = .ok (.value (.agg (rpC x).toArray)) wr := hS1.ld rowRp hx
        have hcap := hS1.2.1
        have hlt' : (k : Int) < n := by omega
        have S1 := stT_new rowRp (te := 56) wr wr.heap.size rfl [.string ⟨#[]⟩, .int .i64 0, .bool false, .int .i64 0, .bool false, .int .u64 0, .int .u64 0, .bool false, .int .u64 0, .int .u64 0, .int .i64 0, .int .i64 0, .int .i64 0, .int .i64 0] (rpC x) rfl rfl (rpC_one x)
        have hX := Blk.new wr (rpC x) 56
        have hvA : Below wr.heap.size wr (wr.alloc (.cells (rpC x).toArray 56)) := (Below.refl _ _).alloc (Nat.le_refl _) _
        have HK := Lib.hid (fun W => checkReport_any x W (hU.out x (List.mem_of_getElem? hx)))
        have hst := risL_step hx
        rw [← hI.out] at hst
        have kx := hX.ld rowRp rfl
        obtain ⟨F, hF⟩ : ∃ F, F = repF x := ⟨_, rfl⟩
        rw [← hF] at HK hst
        clear hI hF
        by_cases h0 : F = 0
        · rw [if_pos h0] at hst
          subst h0
          replace hbw := hbw.trans (hvA.mono hbw.size)
          by_cases hk0 : k = 0
          · subst hk0
            have hst2 := Lib.hid (show R = risL (prevO rs (0 + 1)) (rs.drop (0 + 1)) by rw [hst, if_neg]; simp [prevO, badO])
            rw [Nat.zero_mul, Nat.add_zero] at k1
            clear hst hS1 hvA hx
            go_wp2_with fail
            refine (HK.out _).mono ?_
            rintro e w3 ⟨rfl, hv1⟩
            replace hX := hX.below hv1
            replace hbw := hbw.trans (hv1.mono hbw.size)
            clear hv1 HK k1 S1 kx
            go_upto_region 9 with fail
            refine wb_begin ([wr.heap.size]) [] (by kernel_rfl) (fun u0 hb0' hz0' => ?_)
            replace hX := hX.below hb0'
            replace hbw := hbw.trans (hb0'.mono hbw.size)
            clear hb0' hz0'
            refine wb_pure (i := 0) (d := some 34) (v := ?_) (by simp only [List.getElem?_toArray, List.getElem?_cons_succ, List.getElem?_cons_zero] <;> rfl) (by rfl) (by kernel_rfl) (by kernel_rfl) (by kernel_rfl) (fun _ _ _ h => h) (by rfl) ?_ ?_
            rotate_left
            · ((intro u); go_simp; try with_reducible rfl)
            try simp only [Act.put, List.setIfInBounds_toArray, List.set_cons_zero, List.set_cons_succ]
            refine wb_pure (i := 1) (d := some 35) (v := ?_) (by simp only [List.getElem?_toArray, List.getElem?_cons_succ, List.getElem?_cons_zero] <;> rfl) (by rfl) (by kernel_rfl) (by kernel_rfl) (by kernel_rfl) (fun _ _ _ h => h) (by rfl) ?_ ?_
            rotate_left
            · ((intro u); go_simp; try with_reducible rfl)
            try simp only [Act.put, List.setIfInBounds_toArray, List.set_cons_zero, List.set_cons_succ]
            refine wb_pure (i := 2) (d := some 36) (v := ?_) (by simp only [List.getElem?_toArray, List.getElem?_cons_succ, List.getElem?_cons_zero] <;> rfl) (by rfl) (by kernel_rfl) (by kernel_rfl) (by kernel_rfl) (fun _ _ _ h => h) (by rfl) ?_ ?_
            rotate_left
            · ((intro u); go_simp; try with_reducible rfl)
            try simp only [Act.put, List.setIfInBounds_toArray, List.set_cons_zero, List.set_cons_succ]
            refine wb_skip (i := 3) (d := some 37) (by simp only [List.getElem?_toArray, List.getElem?_cons_succ, List.getElem?_cons_zero] <;> rfl) (by rfl) (by kernel_rfl) (by kernel_rfl) (by kernel_rfl) (fun _ _ _ h => h) (by rfl) ?_
            try simp only [Act.put, List.setIfInBounds_toArray, List.set_cons_zero, List.set_cons_succ]
            refine wb_skip (i := 4) (d := some 38) (by simp only [List.getElem?_toArray, List.getElem?_cons_succ, List.getElem?_cons_zero] <;> rfl) (by rfl) (by kernel_rfl) (by kernel_rfl) (by kernel_rfl) (fun _ _ _ h => h) (by rfl) ?_
            try simp only [Act.put, List.setIfInBounds_toArray, List.set_cons_zero, List.set_cons_succ]
            refine wb_skip (i := 5) (d := some 39) (by simp only [List.getElem?_toArray, List.getElem?_cons_succ, List.getElem?_cons_zero] <;> rfl) (by rfl) (by kernel_rfl) (by kernel_rfl) (by kernel_rfl) (fun _ _ _ h => h) (by rfl) ?_
            try simp only [Act.put, List.setIfInBounds_toArray, List.set_cons_zero, List.set_cons_succ]
            refine wb_skip (i := 6) (d := some 40) (by simp only [List.getElem?_toArray, List.getElem?_cons_succ, List.getElem?_cons_zero] <;> rfl) (by rfl) (by kernel_rfl) (by kernel_rfl) (by kernel_rfl) (fun _ _ _ h => h) (by rfl) ?_
            try simp only [Act.put, List.setIfInBounds_toArray, List.set_cons_zero, List.set_cons_succ]
            refine wb_skip (i := 7) (d := some 41) (by simp only [List.getElem?_toArray, List.getElem?_cons_succ, List.getElem?_cons_zero] <;> rfl) (by rfl) (by kernel_rfl) (by kernel_rfl) (by kernel_rfl) (fun _ _ _ h => h) (by rfl) ?_
            try simp only [Act.put, List.setIfInBounds_toArray, List.set_cons_zero, List.set_cons_succ]
            refine wb_skip (i := 8) (d := some 42) (by simp only [List.getElem?_toArray, List.getElem?_cons_succ, List.getElem?_cons_zero] <;> rfl) (by rfl) (by kernel_rfl) (by kernel_rfl) (by kernel_rfl) (fun _ _ _ h => h) (by rfl) ?_
            try simp only [Act.put, List.setIfInBounds_toArray, List.set_cons_zero, List.set_cons_succ]
            refine wb_skip (i := 9) (d := some 43) (by simp only [List.getElem?_toArray, List.getElem?_cons_succ, List.getElem?_cons_zero] <;> rfl) (by rfl) (by kernel_rfl) (by kernel_rfl) (by kernel_rfl) (fun _ _ _ h => h) (by rfl) ?_
            try simp only [Act.put, List.setIfInBounds_toArray, List.set_cons_zero, List.set_cons_succ]
            refine wb_skip (i := 10) (d := some 44) (by simp only [List.getElem?_toArray, List.getElem?_cons_succ, List.getElem?_cons_zero] <;> rfl) (by rfl) (by kernel_rfl) (by kernel_rfl) (by kernel_rfl) (fun _ _ _ h => h) (by rfl) ?_
            try simp only [Act.put, List.setIfInBounds_toArray, List.set_cons_zero, List.set_cons_succ]
            refine wb_skip (i := 11) (d := some 45) (by simp only [List.getElem?_toArray, List.getElem?_cons_succ, List.getElem?_cons_zero] <;> rfl) (by rfl) (by kernel_rfl) (by kernel_rfl) (by kernel_rfl) (fun _ _ _ h => h) (by rfl) ?_
            try simp only [Act.put, List.setIfInBounds_toArray, List.set_cons_zero, List.set_cons_succ]
            refine wb_pure (i := 12) (d := some 46) (v := ?_) (by simp only [List.getElem?_toArray, List.getElem?_cons_succ, List.getElem?_cons_zero] <;> rfl) (by rfl) (by kernel_rfl) (by kernel_rfl) (by kernel_rfl) (fun _ _ _ h => h) (by rfl) ?_ ?_
            rotate_left
            · ((intro u); go_simp; try with_reducible rfl)
            try simp only [Act.put, List.setIfInBounds_toArray, List.set_cons_zero, List.set_cons_succ]
            refine wb_done (by kernel_rfl) ?_ _
            skip
            go_wp2_with fail
            refine wp_loop_rounds 1 ?_
            rw [rounds_succ]
            go_wp2_with fail
            go_roundw
            case rel => exact ⟨0 + 1, by omega, by go_num, hbw, hst2⟩
            case measure => simp [intOf]; omega
          · obtain ⟨p, hp⟩ : ∃ p, rs[k - 1]? = some p := ⟨rs[k - 1]'(by have := hl.out; omega), List.getElem?_eq_getElem _⟩
            have hpr : prevO rs k = some p := by
              obtain ⟨j, rfl⟩ : ∃ j, k = j + 1 := ⟨k - 1, by omega⟩
              exact hp
            rw [hpr] at hst
            have hbd : badO (some p) x = decide (cmpRp x p ≤ 0) := rfl
            rw [hbd] at hst
            have hRg : wr.rangeAt g (off + (k - 1) * 14) (rpC p) := hS1.range hp
            replace hRg := rangeAt_kb hRg (hvA.block g hgl)
            replace hgl := Nat.lt_of_lt_of_le hgl hvA.size
            have HC := Lib.hid (fun W => repCmp_d x p W (hU.out x (List.mem_of_getElem? hx)) (hU.out p (List.mem_of_getElem? hp)))
            generalize cmpRp x p = C at HC hst
            have hkz : (0 : Int) < k := by omega
            have hkN : 0 < k := by omega
            have hi1 : (1 : Int) ≤ k := by omega
            have hi2 : (k : Int) - 1 < n := by omega
            have hkD : decide (0 < k) = true := decide_eq_true hkN
            have e1 : IntKind.i64.wrap ((k : Int) - 1) = (k : Int) - 1 := IntWalk.i64_in _ (by omega)
            have hsplit : (C ≤ 0 ∧ R = 7) ∨ (¬ C ≤ 0 ∧ R = risL (prevO rs (k + 1)) (rs.drop (k + 1))) := by
              by_cases hc : C ≤ 0
              · rw [decide_eq_true hc, if_pos rfl] at hst; exact .inl ⟨hc, hst⟩
              · rw [decide_eq_false hc] at hst; exact .inr ⟨hc, hst⟩
            clear hst hbd hpr hS1 hvA hx hp
            rcases hsplit with ⟨hc, hst⟩ | ⟨hc, hst⟩
            · subst hst
              go_wp2_with fail
              refine (HK.out _).mono ?_
              rintro e w3 ⟨rfl, hv1⟩
              replace hX := hX.below hv1
              replace hRg := rangeAt_kb hRg (hv1.block g hgl)
              replace hgl := Nat.lt_of_lt_of_le hgl hv1.size
              replace hbw := hbw.trans (hv1.mono hbw.size)
              clear hv1 HK k1 S1 kx
              go_upto_region 9 with fail
              refine wb_begin ([wr.heap.size, g]) [] (by kernel_rfl) (fun u0 hb0' hz0' => ?_)
              replace hX := hX.below hb0'
              replace hRg := rangeAt_kb hRg (hb0'.block _ hgl)
              replace hgl := Nat.lt_of_lt_of_le hgl hb0'.size
              replace hbw := hbw.trans (hb0'.mono hbw.size)
              clear hb0' hz0'
              refine wb_pure (i := 0) (d := some 34) (v := ?_) (by simp only [List.getElem?_toArray, List.getElem?_cons_succ, List.getElem?_cons_zero] <;> rfl) (by rfl) (by kernel_rfl) (by kernel_rfl) (by kernel_rfl) (fun _ _ _ h => h) (by rfl) ?_ ?_
              rotate_left
              · ((intro u); go_simp; try with_reducible rfl)
              try simp only [Act.put, List.setIfInBounds_toArray, List.set_cons_zero, List.set_cons_succ]
              refine wb_pure (i := 1) (d := some 35) (v := ?_) (by simp only [List.getElem?_toArray, List.getElem?_cons_succ, List.getElem?_cons_zero] <;> rfl) (by rfl) (by kernel_rfl) (by kernel_rfl) (by kernel_rfl) (fun _ _ _ h => h) (by rfl) ?_ ?_
              rotate_left
              · ((intro u); go_simp; try with_reducible rfl)
              try simp only [Act.put, List.setIfInBounds_toArray, List.set_cons_zero, List.set_cons_succ]
              refine wb_pure (i := 2) (d := some 36) (v := ?_) (by simp only [List.getElem?_toArray, List.getElem?_cons_succ, List.getElem?_cons_zero] <;> rfl) (by rfl) (by kernel_rfl) (by kernel_rfl) (by kernel_rfl) (fun _ _ _ h => h) (by rfl) ?_ ?_
              rotate_left
              · ((intro u); go_simp; try with_reducible rfl)
              try simp only [Act.put, List.setIfInBounds_toArray, List.set_cons_zero, List.set_cons_succ]
              refine wb_pure (i := 3) (d := some 37) (v := ?_) (by simp only [List.getElem?_toArray, List.getElem?_cons_succ, List.getElem?_cons_zero] <;> rfl) (by rfl) (by kernel_rfl) (by kernel_rfl) (by kernel_rfl) (fun _ _ _ h => h) (by rfl) ?_ ?_
              rotate_left
              · ((intro u); go_simp; try with_reducible rfl)
              try simp only [Act.put, List.setIfInBounds_toArray, List.set_cons_zero, List.set_cons_succ]
              refine wb_take (i := 4) (d := some 38) (v := ?_) (by simp only [List.getElem?_toArray, List.getElem?_cons_succ, List.getElem?_cons_zero] <;> rfl) (by rfl) (by kernel_rfl) (by kernel_rfl) (by kernel_rfl) (fun _ _ _ h => h) (by rfl) (by kernel_rfl) ?_ ?_
              rotate_left
              · ((intro u hu); have kx := hX.kb hu (by simp); have k1 := kx.ld rowRp rfl; have k2 := ldT_run rowRp (rpC_len p) (rangeAt_kb hRg (hu g (by simp))); clear kx; go_simp; try with_reducible rfl)
              try simp only [Act.put, List.setIfInBounds_toArray, List.set_cons_zero, List.set_cons_succ]
              refine wb_pure (i := 5) (d := some 39) (v := ?_) (by simp only [List.getElem?_toArray, List.getElem?_cons_succ, List.getElem?_cons_zero] <;> rfl) (by rfl) (by kernel_rfl) (by kernel_rfl) (by kernel_rfl) (fun _ _ _ h => h) (by rfl) ?_ ?_
              rotate_left
              · ((intro u); go_simp; try with_reducible rfl)
              try simp only [Act.put, List.setIfInBounds_toArray, List.set_cons_zero, List.set_cons_succ]
              refine wb_pure (i := 6) (d := some 40) (v := ?_) (by simp only [List.getElem?_toArray, List.getElem?_cons_succ, List.getElem?_cons_zero] <;> rfl) (by rfl) (by kernel_rfl) (by kernel_rfl) (by kernel_rfl) (fun _ _ _ h => h) (by rfl) ?_ ?_
              rotate_left
              · ((intro u); go_simp; try with_reducible rfl)
              try simp only [Act.put, List.setIfInBounds_toArray, List.set_cons_zero, List.set_cons_succ]
              refine wb_pure (i := 7) (d := some 41) (v := ?_) (by simp only [List.getElem?_toArray, List.getElem?_cons_succ, List.getElem?_cons_zero] <;> rfl) (by rfl) (by kernel_rfl) (by kernel_rfl) (by kernel_rfl) (fun _ _ _ h => h) (by rfl) ?_ ?_
              rotate_left
              · ((intro u); go_simp; try with_reducible rfl)
              try simp only [Act.put, List.setIfInBounds_toArray, List.set_cons_zero, List.set_cons_succ]
              refine wb_pure (i := 8) (d := some 42) (v := ?_) (by simp only [List.getElem?_toArray, List.getElem?_cons_succ, List.getElem?_cons_zero] <;> rfl) (by rfl) (by kernel_rfl) (by kernel_rfl) (by kernel_rfl) (fun _ _ _ h => h) (by rfl) ?_ ?_
              rotate_left
              · ((intro u); go_simp; try with_reducible rfl)
              try simp only [Act.put, List.setIfInBounds_toArray, List.set_cons_zero, List.set_cons_succ]
              refine wb_take (i := 9) (d := some 43) (v := ?_) (by simp only [List.getElem?_toArray, List.getElem?_cons_succ, List.getElem?_cons_zero] <;> rfl) (by rfl) (by kernel_rfl) (by kernel_rfl) (by kernel_rfl) (fun _ _ _ h => h) (by rfl) (by kernel_rfl) ?_ ?_
              rotate_left
              · ((intro u hu); have kx := hX.kb hu (by simp); have k1 := kx.ld rowRp rfl; have k2 := ldT_run rowRp (rpC_len p) (rangeAt_kb hRg (hu g (by simp))); clear kx; go_simp; try with_reducible rfl)
              try simp only [Act.put, List.setIfInBounds_toArray, List.set_cons_zero, List.set_cons_succ]
              refine wb_one (i := 10) (by simp only [List.getElem?_toArray, List.getElem?_cons_succ, List.getElem?_cons_zero] <;> rfl) (by kernel_rfl) (by rfl) (fun K hK => ?_)
              go_simp
              refine (HC.out _).mono ?_
              rintro e u10 ⟨rfl, hg1⟩
              have hv1 := hg1.below
              refine hK _ _ (Kb.below hv1 (by intro q hq; simp only [List.mem_cons, List.not_mem_nil, or_false] at hq; rcases hq with rfl | rfl <;> first | exact hX.lt | exact hgl)) ?_
              replace hX := hX.below hv1
              replace hRg := rangeAt_kb hRg (hv1.block _ hgl)
              replace hgl := Nat.lt_of_lt_of_le hgl hv1.size
              replace hbw := hbw.trans (hv1.mono hbw.size)
              clear hK K hv1 hg1
              try simp only [Act.put, List.setIfInBounds_toArray, List.set_cons_zero, List.set_cons_succ]
              refine wb_pure (i := 11) (d := some 45) (v := ?_) (by simp only [List.getElem?_toArray, List.getElem?_cons_succ, List.getElem?_cons_zero] <;> rfl) (by rfl) (by kernel_rfl) (by kernel_rfl) (by kernel_rfl) (fun _ _ _ h => h) (by rfl) ?_ ?_
              rotate_left
              · ((intro u); go_simp; try with_reducible rfl)
              try simp only [Act.put, List.setIfInBounds_toArray, List.set_cons_zero, List.set_cons_succ]
              refine wb_pure (i := 12) (d := some 46) (v := ?_) (by simp only [List.getElem?_toArray, List.getElem?_cons_succ, List.getElem?_cons_zero] <;> rfl) (by rfl) (by kernel_rfl) (by kernel_rfl) (by kernel_rfl) (fun _ _ _ h => h) (by rfl) ?_ ?_
              rotate_left
              · ((intro u); go_simp; try with_reducible rfl)
              try simp only [Act.put, List.setIfInBounds_toArray, List.set_cons_zero, List.set_cons_succ]
              refine wb_done (by kernel_rfl) ?_ _
              skip
              go_wp2_with fail
              go_ret
              exact ⟨rfl, hbw⟩
            · replace hst := Lib.hid hst
              go_wp2_with fail
              refine (HK.out _).mono ?_
              rintro e w3 ⟨rfl, hv1⟩
              replace hX := hX.below hv1
              replace hRg := rangeAt_kb hRg (hv1.block g hgl)
              replace hgl := Nat.lt_of_lt_of_le hgl hv1.size
              replace hbw := hbw.trans (hv1.mono hbw.size)
              clear hv1 HK k1 S1 kx
              go_upto_region 9 with fail
              refine wb_begin ([wr.heap.size, g]) [] (by kernel_rfl) (fun u0 hb0' hz0' => ?_)
              replace hX := hX.below hb0'
              replace hRg := rangeAt_kb hRg (hb0'.block _ hgl)
              replace hgl := Nat.lt_of_lt_of_le hgl hb0'.size
              replace hbw := hbw.trans (hb0'.mono hbw.size)
              clear hb0' hz0'
              refine wb_pure (i := 0) (d := some 34) (v := ?_) (by simp only [List.getElem?_toArray, List.getElem?_cons_succ, List.getElem?_cons_zero] <;> rfl) (by rfl) (by kernel_rfl) (by kernel_rfl) (by kernel_rfl) (fun _ _ _ h => h) (by rfl) ?_ ?_
              rotate_left
              · ((intro u); go_simp; try with_reducible rfl)
              try simp only [Act.put, List.setIfInBounds_toArray, List.set_cons_zero, List.set_cons_succ]
              refine wb_pure (i := 1) (d := some 35) (v := ?_) (by simp only [List.getElem?_toArray, List.getElem?_cons_succ, List.getElem?_cons_zero] <;> rfl) (by rfl) (by kernel_rfl) (by kernel_rfl) (by kernel_rfl) (fun _ _ _ h => h) (by rfl) ?_ ?_
              rotate_left
              · ((intro u); go_simp; try with_reducible rfl)
              try simp only [Act.put, List.setIfInBounds_toArray, List.set_cons_zero, List.set_cons_succ]
              refine wb_pure (i := 2) (d := some 36) (v := ?_) (by simp only [List.getElem?_toArray, List.getElem?_cons_succ, List.getElem?_cons_zero] <;> rfl) (by rfl) (by kernel_rfl) (by kernel_rfl) (by kernel_rfl) (fun _ _ _ h => h) (by rfl) ?_ ?_
              rotate_left
              · ((intro u); go_simp; try with_reducible rfl)
              try simp only [Act.put, List.setIfInBounds_toArray, List.set_cons_zero, List.set_cons_succ]
              refine wb_pure (i := 3) (d := some 37) (v := ?_) (by simp only [List.getElem?_toArray, List.getElem?_cons_succ, List.getElem?_cons_zero] <;> rfl) (by rfl) (by kernel_rfl) (by kernel_rfl) (by kernel_rfl) (fun _ _ _ h => h) (by rfl) ?_ ?_
              rotate_left
              · ((intro u); go_simp; try with_reducible rfl)
              try simp only [Act.put, List.setIfInBounds_toArray, List.set_cons_zero, List.set_cons_succ]
              refine wb_take (i := 4) (d := some 38) (v := ?_) (by simp only [List.getElem?_toArray, List.getElem?_cons_succ, List.getElem?_cons_zero] <;> rfl) (by rfl) (by kernel_rfl) (by kernel_rfl) (by kernel_rfl) (fun _ _ _ h => h) (by rfl) (by kernel_rfl) ?_ ?_
              rotate_left
              · ((intro u hu); have kx := hX.kb hu (by simp); have k1 := kx.ld rowRp rfl; have k2 := ldT_run rowRp (rpC_len p) (rangeAt_kb hRg (hu g (by simp))); clear kx; go_simp; try with_reducible rfl)
              try simp only [Act.put, List.setIfInBounds_toArray, List.set_cons_zero, List.set_cons_succ]
              refine wb_pure (i := 5) (d := some 39) (v := ?_) (by simp only [List.getElem?_toArray, List.getElem?_cons_succ, List.getElem?_cons_zero] <;> rfl) (by rfl) (by kernel_rfl) (by kernel_rfl) (by kernel_rfl) (fun _ _ _ h => h) (by rfl) ?_ ?_
              rotate_left
              · ((intro u); go_simp; try with_reducible rfl)
              try simp only [Act.put, List.setIfInBounds_toArray, List.set_cons_zero, List.set_cons_succ]
              refine wb_pure (i := 6) (d := some 40) (v := ?_) (by simp only [List.getElem?_toArray, List.getElem?_cons_succ, List.getElem?_cons_zero] <;> rfl) (by rfl) (by kernel_rfl) (by kernel_rfl) (by kernel_rfl) (fun _ _ _ h => h) (by rfl) ?_ ?_
              rotate_left
              · ((intro u); go_simp; try with_reducible rfl)
              try simp only [Act.put, List.setIfInBounds_toArray, List.set_cons_zero, List.set_cons_succ]
              refine wb_pure (i := 7) (d := some 41) (v := ?_) (by simp only [List.getElem?_toArray, List.getElem?_cons_succ, List.getElem?_cons_zero] <;> rfl) (by rfl) (by kernel_rfl) (by kernel_rfl) (by kernel_rfl) (fun _ _ _ h => h) (by rfl) ?_ ?_
              rotate_left
              · ((intro u); go_simp; try with_reducible rfl)
              try simp only [Act.put, List.setIfInBounds_toArray, List.set_cons_zero, List.set_cons_succ]
              refine wb_pure (i := 8) (d := some 42) (v := ?_) (by simp only [List.getElem?_toArray, List.getElem?_cons_succ, List.getElem?_cons_zero] <;> rfl) (by rfl) (by kernel_rfl) (by kernel_rfl) (by kernel_rfl) (fun _ _ _ h => h) (by rfl) ?_ ?_
              rotate_left
              · ((intro u); go_simp; try with_reducible rfl)
              try simp only [Act.put, List.setIfInBounds_toArray, List.set_cons_zero, List.set_cons_succ]
              refine wb_take (i := 9) (d := some 43) (v := ?_) (by simp only [List.getElem?_toArray, List.getElem?_cons_succ, List.getElem?_cons_zero] <;> rfl) (by rfl) (by kernel_rfl) (by kernel_rfl) (by kernel_rfl) (fun _ _ _ h => h) (by rfl) (by kernel_rfl) ?_ ?_
              rotate_left
              · ((intro u hu); have kx := hX.kb hu (by simp); have k1 := kx.ld rowRp rfl; have k2 := ldT_run rowRp (rpC_len p) (rangeAt_kb hRg (hu g (by simp))); clear kx; go_simp; try with_reducible rfl)
              try simp only [Act.put, List.setIfInBounds_toArray, List.set_cons_zero, List.set_cons_succ]
              refine wb_one (i := 10) (by simp only [List.getElem?_toArray, List.getElem?_cons_succ, List.getElem?_cons_zero] <;> rfl) (by kernel_rfl) (by rfl) (fun K hK => ?_)
              go_simp
              refine (HC.out _).mono ?_
              rintro e u10 ⟨rfl, hg1⟩
              have hv1 := hg1.below
              refine hK _ _ (Kb.below hv1 (by intro q hq; simp only [List.mem_cons, List.not_mem_nil, or_false] at hq; rcases hq with rfl | rfl <;> first | exact hX.lt | exact hgl)) ?_
              replace hX := hX.below hv1
              replace hRg := rangeAt_kb hRg (hv1.block _ hgl)
              replace hgl := Nat.lt_of_lt_of_le hgl hv1.size
              replace hbw := hbw.trans (hv1.mono hbw.size)
              clear hK K hv1 hg1
              try simp only [Act.put, List.setIfInBounds_toArray, List.set_cons_zero, List.set_cons_succ]
              refine wb_pure (i := 11) (d := some 45) (v := ?_) (by simp only [List.getElem?_toArray, List.getElem?_cons_succ, List.getElem?_cons_zero] <;> rfl) (by rfl) (by kernel_rfl) (by kernel_rfl) (by kernel_rfl) (fun _ _ _ h => h) (by rfl) ?_ ?_
              rotate_left
              · ((intro u); go_simp; try with_reducible rfl)
              try simp only [Act.put, List.setIfInBounds_toArray, List.set_cons_zero, List.set_cons_succ]
              refine wb_pure (i := 12) (d := some 46) (v := ?_) (by simp only [List.getElem?_toArray, List.getElem?_cons_succ, List.getElem?_cons_zero] <;> rfl) (by rfl) (by kernel_rfl) (by kernel_rfl) (by kernel_rfl) (fun _ _ _ h => h) (by rfl) ?_ ?_
              rotate_left
              · ((intro u); go_simp; try with_reducible rfl)
              try simp only [Act.put, List.setIfInBounds_toArray, List.set_cons_zero, List.set_cons_succ]
              refine wb_done (by kernel_rfl) ?_ _
              skip
              go_wp2_with fail
              refine wp_loop_rounds 1 ?_
              rw [rounds_succ]
              go_wp2_with fail
              go_roundw
              case rel => exact ⟨k + 1, by omega, by go_num, hbw, hst⟩
              case measure => simp [intOf]; omega
        · rw [if_neg h0] at hst
          subst hst
          clear hS1
          go_wp2_with fail
          refine (HK.out _).mono ?_
          rintro e w3 ⟨rfl, hv1⟩
          replace hbw := (hbw.trans (hvA.mono hbw.size)).trans (hv1.mono (by have := hbw.size; have := hvA.size; omega))
          go_wp2_with fail
          go_ret
          exact ⟨rfl, hbw⟩
      · have hV := Lib.hid (show R = 0 by rw [hI.out, risL_end (by have := hl.out; omega)])
        go_wp2_with fail
        go_ret
        exact ⟨by rw [hV.out]; rfl, hbw⟩
end Go.Proofs.YtfiocnjogbpgoaaGreatDoor
