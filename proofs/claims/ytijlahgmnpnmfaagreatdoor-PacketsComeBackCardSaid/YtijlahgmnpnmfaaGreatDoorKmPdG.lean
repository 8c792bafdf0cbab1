/- Packets that are read: the part of the protocol. -/
import Derived.Test.YtijlahgmnpnmfaaGreatDoorKmPdF
import Derived.Test.YtijlahgmnpnmfaaGreatDoorKmPcV
namespace Go.Proofs.YtijlahgmnpnmfaaGreatDoor
open Go.RowKit
set_option linter.unusedVariables false
set_option linter.unusedSimpArgs false

theorem Own.slv {B n c : Nat} {w : World} {A : Option Addr} {bs : List Nat} (h : Own B w (.slice A n c) bs) : SlB w A n c bs := by
  obtain ⟨A', c', e, hS, _⟩ := h.sl
  cases e
  exact hS
/-- What stands while a part is read. -/
structure AtR (w : World) (pb : Nat) (q : Pk) (v : Value) (g off n cap : Nat) (bd : List Nat) (lb sz at' fn fr : Nat) (u : World) : Prop where
  x : RdP w pb q v u
  s : SlB u (some ⟨g, off, none⟩) n cap bd
  l : Blk u lb [.int .i64 sz, .int .i64 at', .func (.func fn) #[] #[], .func (.func fr) #[] #[]] 89
theorem AtR.below {w u u' : World} {pb g off n cap lb sz at' fn fr : Nat} {q : Pk} {v : Value} {bd : List Nat} (h : AtR w pb q v g off n cap bd lb sz at' fn fr u) (hb : Below u.heap.size u u') : AtR w pb q v g off n cap bd lb sz at' fn fr u' := ⟨h.x.below hb, h.s.below hb, h.l.below hb⟩
theorem AtR.kbb {w u u' : World} {pb g off n cap lb sz at' fn fr : Nat} {q : Pk} {v : Value} {bd : List Nat} (h : AtR w pb q v g off n cap bd lb sz at' fn fr u) (hb : Below u.heap.size u u') : Kb [pb, lb] u u' := Kb.two hb h.x.blk.lt h.l.lt
theorem AtR.rdp {w u u' : World} {pb g off n cap lb sz at' fn fr : Nat} {q q' : Pk} {v v' : Value} {bd : List Nat} (h : AtR w pb q v g off n cap bd lb sz at' fn fr u) (k : RdP u pb q' v' u') (hne : g ≠ pb) (hlb : lb ≠ pb) : AtR w pb q' v' g off n cap bd lb sz at' fn fr u' := ⟨h.x.trans k, h.s.rdp k hne, (k.gb.block lb h.l.lt (by intro e; cases e; exact hlb rfl)).trans h.l⟩
/-- What is wrong with a part that is read as q1 and would be written as hz. -/
def layE (q1 : Pk) (hz bd : List Nat) (sz at' : Nat) : Int := if hz ≠ splice (bd.take sz) at' [0, 0] ∨ fldB q1 = false then 3 else if sumF q1 (splice bd at' [0, 0]) ≠ (nb bd at' 2 : Int) then 15 else 0

set_option maxHeartbeats 1000000 in
set_option maxRecDepth 100000 in
theorem readPart_short (q : Pk) (v : Value) (pb : Nat) (A : Option Addr) (n cap fn fr sz at' : Nat) (w : World) (hP : Blk w pb (pkL q v) 31) (hn : n < sz) (hsz : sz ≤ 20)
    (HL : ∀ w', Calls Tryz.prog 34 #[.int .i64 q.proto] w' (GivesV (.agg #[.int .i64 sz, .int .i64 at', .func (.func fn) #[] #[], .func (.func fr) #[] #[]]) w')) :
    Calls Tryz.prog 21 #[.slice A n cap, .pointer (some ⟨pb, 0, none⟩)] w fun e w' => e = .returned (.int .i64 3) ∧ RdP w pb q v w' := by
  have hX := RdP.refl hP
  have c7 := hP.cell (i := 7) (v := .int .i64 q.proto) rfl
  have hn' : (n : Int) < sz := by omega
  replace HL := Lib.hid HL
  clear hP hn
  go_enter Tryz.func21, Tryz.ntmps21
  go_wp2_with fail
  refine (HL.out _).mono ?_
  rintro e u0 ⟨rfl, hv0⟩
  replace hX := (hX.below hv0).alloc (.cells #[.int .i64 sz, .int .i64 at', .func (.func fn) #[] #[], .func (.func fr) #[] #[]] 89)
  clear hv0 HL c7
  go_wp2_with fail
  go_ret
  exact ⟨rfl, hX⟩

set_option maxHeartbeats 1000000 in
set_option maxRecDepth 100000 in
theorem readPart_lay (q q1 : Pk) (pb g off n cap : Nat) (bd hz : List Nat) (fn fr sz at' : Nat) (w : World) (hP : Blk w pb (pkL q (.slice none 0 0)) 31) (hS : SlB w (some ⟨g, off, none⟩) n cap bd) (hne : g ≠ pb) (hq1 : PkOk q1) (hnsz : sz ≤ n) (hn2 : n ≤ 1000) (hb : Byt bd)
    (HL : ∀ w', Calls Tryz.prog 34 #[.int .i64 q.proto] w' (GivesV (.agg #[.int .i64 sz, .int .i64 at', .func (.func fn) #[] #[], .func (.func fr) #[] #[]]) w'))
    (HR : ∀ w', Blk w' pb (pkL q (.slice none 0 0)) 31 → SlB w' (some ⟨g, off, none⟩) n cap bd → Calls Tryz.prog fr #[.slice (some ⟨g, off, none⟩) n cap, .pointer (some ⟨pb, 0, none⟩)] w' fun e w'' => e = .returned (.tuple #[]) ∧ RdP w' pb q1 (.slice none 0 0) w'')
    (HW : ∀ w', Blk w' pb (pkL q1 (.slice none 0 0)) 31 → Calls Tryz.prog fn #[.pointer (some ⟨pb, 0, none⟩), .int .i64 (n : Int)] w' (GivesB hz w'))
    (hcf : ∀ (args : Array Value) (w' : World), (callFunc fn args).run Tryz.prog w' = .ok (.enter fn args) w')
    (hcr : ∀ (args : Array Value) (w' : World), (callFunc fr args).run Tryz.prog w' = .ok (.enter fr args) w')
    (hzl : hz.length = sz) (hzb : Byt hz) (hat : at' + 2 ≤ sz) (hsz : sz ≤ 20) :
    Calls Tryz.prog 21 #[.slice (some ⟨g, off, none⟩) n cap, .pointer (some ⟨pb, 0, none⟩)] w fun e w' => ∃ v', e = .returned (.int .i64 (layE q1 hz bd sz at')) ∧ RdP w pb q1 v' w' ∧ (layE q1 hz bd sz at' = 0 → ∃ A' n' c', v' = .slice A' n' c' ∧ Own w.heap.size w' (.slice A' n' c') (bd.drop sz)) := by
  have hcap := hS.2.1
  have hl := Lib.hid hS.len
  have hpr := Lib.hid hq1.proto
  have i1 : ¬ (n : Int) < sz := by omega
  have i2 : (sz : Int) ≤ n := by omega
  have i3 : (sz : Int) ≤ cap := by omega
  have i4 : (at' : Int) + 2 ≤ cap := by omega
  have i5 : IntKind.i64.wrap ((at' : Int) + 2) = (at' : Int) + 2 := wrapI _ (by omega) (by omega)
  have i6 : IntKind.i64.wrap ((n : Int) - sz) = (n : Int) - sz := wrapI _ (by omega) (by omega)
  have i7 : ¬ 1400 < (n : Int) - sz := by omega
  have i8 : ¬ cap = at' := by omega
  have i9 : (at' : Int) ≤ (at' : Int) + 2 := by omega
  have i10 : ((at' : Int) + 2).toNat = at' + 2 := by omega
  obtain ⟨pz, hpz⟩ : ∃ pz, pz = splice (bd.take sz) at' [0, 0] := ⟨_, rfl⟩
  obtain ⟨pq, hpq⟩ : ∃ pq, pq = splice bd at' [0, 0] := ⟨_, rfl⟩
  have hpl : Hid (pz.length = sz) := Lib.hid (by rw [hpz, splice_len' _ _ _ (by simp; have := hl.out; omega)]; simp; have := hl.out; omega)
  have hpql : Hid (pq.length = n) := Lib.hid (by rw [hpq, splice_len' _ _ _ (by simp; have := hl.out; omega)]; exact hl.out.symm)
  have hpb : Hid (Byt pz) := Lib.hid (by rw [hpz]; exact byt_splice (fun b h => hb b (List.mem_of_mem_take h)) byt_00 _)
  have hpqb : Hid (Byt pq) := Lib.hid (by rw [hpq]; exact byt_splice hb byt_00 _)
  have hE0 : Hid (hz ≠ pz ∨ fldB q1 = false → layE q1 hz bd sz at' = 3) := Lib.hid (fun h => by unfold layE; rw [← hpz, if_pos h])
  have hE1 : Hid (hz = pz → fldB q1 = true → ¬ sumF q1 pq = (nb bd at' 2 : Int) → layE q1 hz bd sz at' = 15) := Lib.hid (fun h1 h2 h3 => by unfold layE; rw [← hpz, ← hpq, if_neg (by rintro (h | h); exact h h1; rw [h2] at h; cases h), if_pos h3])
  have hE2 : Hid (hz = pz → fldB q1 = true → sumF q1 pq = (nb bd at' 2 : Int) → layE q1 hz bd sz at' = 0) := Lib.hid (fun h1 h2 h3 => by unfold layE; rw [← hpz, ← hpq, if_neg (by rintro (h | h); exact h h1; rw [h2] at h; cases h), if_neg (fun h => h h3)])
  replace hpz := Lib.hid hpz
  replace hpq := Lib.hid hpq
  have c7 := hP.cell (i := 7) (v := .int .i64 q.proto) rfl
  have hpbl := hP.lt
  replace hzl := Lib.hid hzl
  replace hzb := Lib.hid hzb
  replace hb := Lib.hid hb
  replace hq1 := Lib.hid hq1
  replace HL := Lib.hid HL
  replace HR := Lib.hid HR
  replace HW := Lib.hid HW
  generalize layE q1 hz bd sz at' = E at hE0 hE1 hE2 ⊢
  replace hX := RdP.refl hP
  clear hP
  replace hS := Lib.hid hS
  go_enter Tryz.func21, Tryz.ntmps21
  go_wp2_with fail
  refine (HL.out _).mono ?_
  rintro e u0 ⟨rfl, hv0⟩
  have hA : AtR w pb q (.slice none 0 0) g off n cap bd u0.heap.size sz at' fn fr (u0.alloc (.cells #[.int .i64 sz, .int .i64 at', .func (.func fn) #[] #[], .func (.func fr) #[] #[]] 89)) :=
    ⟨(hX.below hv0).alloc _, (hS.out.below hv0).below ((Below.refl _ _).alloc (Nat.le_refl _) _), Blk.new u0 [.int .i64 sz, .int .i64 at', .func (.func fn) #[] #[], .func (.func fr) #[] #[]] 89⟩
  have hlb : u0.heap.size ≠ pb := by have := hv0.size; omega
  have l3 := hA.l.cell (i := 3) (v := .func (.func fr) #[] #[]) rfl
  have HR1 := Lib.hid (HR.out _ hA.x.blk hA.s)
  clear hv0 HL c7 hX hS HR
  go_wp2_with fail
  obtain ⟨lb, hlbe⟩ : ∃ lb, lb = u0.heap.size := ⟨_, rfl⟩
  rw [← hlbe] at hlb hA ⊢
  refine HR1.out.mono ?_
  rintro e u1 ⟨rfl, hr1⟩
  replace hA := hA.rdp hr1 hne hlb
  clear HR1 hr1 l3 hlbe
  go_wp2_with fail
  by_cases hEq : hz = pz
  · have hdec := Lib.hid (show decide (hz = pz) = true from decide_eq_true hEq)
    replace hE1 := Lib.hid (hE1.out hEq)
    replace hE2 := Lib.hid (hE2.out hEq)
    replace hEq := Lib.hid hEq
    cases hf : fldB q1
    · have hE := Lib.hid (hE0.out (.inr hf))
      clear hE0 hE1 hE2
      refine wb_begin ([pb, lb]) [] (by kernel_rfl) (fun u0 hb0' hz0' => ?_)
      replace hA := hA.below hb0'
      clear hb0' hz0'
      refine wb_pure (i := 0) (d := some 21) (v := ?_) (by simp only [List.getElem?_toArray, List.getElem?_cons_succ, List.getElem?_cons_zero] <;> rfl) (by rfl) (by kernel_rfl) (by kernel_rfl) (by kernel_rfl) (fun _ _ _ h => h) (by rfl) ?_ ?_
      rotate_left
      · ((intro u); go_simp; try with_reducible rfl)
      try simp only [Act.put, List.setIfInBounds_toArray, List.set_cons_zero, List.set_cons_succ]
      refine wb_take (i := 1) (d := some 22) (v := ?_) (by simp only [List.getElem?_toArray, List.getElem?_cons_succ, List.getElem?_cons_zero] <;> rfl) (by rfl) (by kernel_rfl) (by kernel_rfl) (by kernel_rfl) (fun _ _ _ h => h) (by rfl) (by kernel_rfl) ?_ ?_
      rotate_left
      · ((intro u hu); have l0 := (hA.l.kb hu (by simp)).cell (i := 0) (v := .int .i64 sz) rfl; have l1 := (hA.l.kb hu (by simp)).cell (i := 1) (v := .int .i64 at') rfl; have l2 := (hA.l.kb hu (by simp)).cell (i := 2) (v := .func (.func fn) #[] #[]) rfl; have L := ldPk_run (hA.x.blk.kb hu (by simp)); go_simp; try with_reducible rfl)
      try simp only [Act.put, List.setIfInBounds_toArray, List.set_cons_zero, List.set_cons_succ]
      refine wb_pure (i := 2) (d := some 23) (v := ?_) (by simp only [List.getElem?_toArray, List.getElem?_cons_succ, List.getElem?_cons_zero] <;> rfl) (by rfl) (by kernel_rfl) (by kernel_rfl) (by kernel_rfl) (fun _ _ _ h => h) (by rfl) ?_ ?_
      rotate_left
      · ((intro u); go_simp; try with_reducible rfl)
      try simp only [Act.put, List.setIfInBounds_toArray, List.set_cons_zero, List.set_cons_succ]
      refine wb_pure (i := 3) (d := some 24) (v := ?_) (by simp only [List.getElem?_toArray, List.getElem?_cons_succ, List.getElem?_cons_zero] <;> rfl) (by rfl) (by kernel_rfl) (by kernel_rfl) (by kernel_rfl) (fun _ _ _ h => h) (by rfl) ?_ ?_
      rotate_left
      · ((intro u); go_simp; try with_reducible rfl)
      try simp only [Act.put, List.setIfInBounds_toArray, List.set_cons_zero, List.set_cons_succ]
      refine wb_pure (i := 6) (d := some 27) (v := ?_) (by simp only [List.getElem?_toArray, List.getElem?_cons_succ, List.getElem?_cons_zero] <;> rfl) (by rfl) (by kernel_rfl) (by kernel_rfl) (by kernel_rfl) (fun _ _ _ h => h) (by rfl) ?_ ?_
      rotate_left
      · ((intro u); go_simp; try with_reducible rfl)
      try simp only [Act.put, List.setIfInBounds_toArray, List.set_cons_zero, List.set_cons_succ]
      refine wb_pure (i := 7) (d := some 28) (v := ?_) (by simp only [List.getElem?_toArray, List.getElem?_cons_succ, List.getElem?_cons_zero] <;> rfl) (by rfl) (by kernel_rfl) (by kernel_rfl) (by kernel_rfl) (fun _ _ _ h => h) (by rfl) ?_ ?_
      rotate_left
      · ((intro u); go_simp; try with_reducible rfl)
      try simp only [Act.put, List.setIfInBounds_toArray, List.set_cons_zero, List.set_cons_succ]
      refine wb_take (i := 8) (d := some 29) (v := ?_) (by simp only [List.getElem?_toArray, List.getElem?_cons_succ, List.getElem?_cons_zero] <;> rfl) (by rfl) (by kernel_rfl) (by kernel_rfl) (by kernel_rfl) (fun _ _ _ h => h) (by rfl) (by kernel_rfl) ?_ ?_
      rotate_left
      · ((intro u hu); have l0 := (hA.l.kb hu (by simp)).cell (i := 0) (v := .int .i64 sz) rfl; have l1 := (hA.l.kb hu (by simp)).cell (i := 1) (v := .int .i64 at') rfl; have l2 := (hA.l.kb hu (by simp)).cell (i := 2) (v := .func (.func fn) #[] #[]) rfl; have L := ldPk_run (hA.x.blk.kb hu (by simp)); go_simp; try with_reducible rfl)
      try simp only [Act.put, List.setIfInBounds_toArray, List.set_cons_zero, List.set_cons_succ]
      refine wb_pure (i := 9) (d := some 30) (v := ?_) (by simp only [List.getElem?_toArray, List.getElem?_cons_succ, List.getElem?_cons_zero] <;> rfl) (by rfl) (by kernel_rfl) (by kernel_rfl) (by kernel_rfl) (fun _ _ _ h => h) (by rfl) ?_ ?_
      rotate_left
      · ((intro u); go_simp; try with_reducible rfl)
      try simp only [Act.put, List.setIfInBounds_toArray, List.set_cons_zero, List.set_cons_succ]
      refine wb_pure (i := 10) (d := some 31) (v := ?_) (by simp only [List.getElem?_toArray, List.getElem?_cons_succ, List.getElem?_cons_zero] <;> rfl) (by rfl) (by kernel_rfl) (by kernel_rfl) (by kernel_rfl) (fun _ _ _ h => h) (by rfl) ?_ ?_
      rotate_left
      · ((intro u); go_simp; try with_reducible rfl)
      try simp only [Act.put, List.setIfInBounds_toArray, List.set_cons_zero, List.set_cons_succ]
      refine wb_take (i := 11) (d := some 32) (v := ?_) (by simp only [List.getElem?_toArray, List.getElem?_cons_succ, List.getElem?_cons_zero] <;> rfl) (by rfl) (by kernel_rfl) (by kernel_rfl) (by kernel_rfl) (fun _ _ _ h => h) (by rfl) (by kernel_rfl) ?_ ?_
      rotate_left
      · ((intro u hu); have l0 := (hA.l.kb hu (by simp)).cell (i := 0) (v := .int .i64 sz) rfl; have l1 := (hA.l.kb hu (by simp)).cell (i := 1) (v := .int .i64 at') rfl; have l2 := (hA.l.kb hu (by simp)).cell (i := 2) (v := .func (.func fn) #[] #[]) rfl; have L := ldPk_run (hA.x.blk.kb hu (by simp)); go_simp; try with_reducible rfl)
      try simp only [Act.put, List.setIfInBounds_toArray, List.set_cons_zero, List.set_cons_succ]
      refine wb_one (i := 4) (by simp only [List.getElem?_toArray, List.getElem?_cons_succ, List.getElem?_cons_zero] <;> rfl) (by kernel_rfl) (by rfl) (fun K hK => ?_)
      go_simp
      refine hK.out _ _ (Kb.refl _ _) ?_
      clear hK K
      try simp only [Act.put, List.setIfInBounds_toArray, List.set_cons_zero, List.set_cons_succ]
      refine wb_one (i := 5) (by simp only [List.getElem?_toArray, List.getElem?_cons_succ, List.getElem?_cons_zero] <;> rfl) (by kernel_rfl) (by rfl) (fun K hK => ?_)
      go_simp
      refine (HW.out _ hA.x.blk).mono ?_
      rintro e u5 ⟨v5, rfl, o5, hv5⟩
      obtain ⟨g5, c5, rfl, hS5⟩ := o5.form (by rw [hzl.out]; omega)
      rw [hzl.out] at hS5 ⊢
      replace hS5 := Lib.hid hS5
      clear o5
      refine hK.out _ _ (hA.kbb hv5) ?_
      replace hA := hA.below hv5
      try replace hS12 := Lib.hid (hS12.out.below hv5)
      clear hK K hv5
      try simp only [Act.put, List.setIfInBounds_toArray, List.set_cons_zero, List.set_cons_succ]
      refine wb_one (i := 12) (by simp only [List.getElem?_toArray, List.getElem?_cons_succ, List.getElem?_cons_zero] <;> rfl) (by kernel_rfl) (by rfl) (fun K hK => ?_)
      go_simp
      refine (withoutSum_any _ sz cap at' (bd.take sz) _ (hA.s.head sz hnsz) hat (by omega)).mono ?_
      rw [← hpz.out]
      rintro e u12 ⟨v12, rfl, o12, hv12⟩
      obtain ⟨g12, c12, rfl, hS12⟩ := o12.form (by rw [hpl.out]; omega)
      rw [hpl.out] at hS12 ⊢
      replace hS12 := Lib.hid hS12
      clear o12
      refine hK.out _ _ (hA.kbb hv12) ?_
      replace hA := hA.below hv12
      try replace hS5 := Lib.hid (hS5.out.below hv12)
      clear hK K hv12
      try simp only [Act.put, List.setIfInBounds_toArray, List.set_cons_zero, List.set_cons_succ]
      refine wb_one (i := 13) (by simp only [List.getElem?_toArray, List.getElem?_cons_succ, List.getElem?_cons_zero] <;> rfl) (by kernel_rfl) (by rfl) (fun K hK => ?_)
      go_simp
      have HQ := equalB_any g5 0 sz c5 g12 0 sz c12 hz pz _ hS5.out hS12.out hzb.out hpb.out
      rw [hdec.out] at HQ
      refine HQ.mono ?_
      rintro e u13 ⟨rfl, rfl⟩
      refine hK.out _ _ (Kb.refl _ _) ?_
      clear hK K HQ hS5 hS12
      try simp only [Act.put, List.setIfInBounds_toArray, List.set_cons_zero, List.set_cons_succ]
      refine wb_pure (i := 14) (d := some 35) (v := ?_) (by simp only [List.getElem?_toArray, List.getElem?_cons_succ, List.getElem?_cons_zero] <;> rfl) (by rfl) (by kernel_rfl) (by kernel_rfl) (by kernel_rfl) (fun _ _ _ h => h) (by rfl) ?_ ?_
      rotate_left
      · ((intro u); go_simp; try with_reducible rfl)
      try simp only [Act.put, List.setIfInBounds_toArray, List.set_cons_zero, List.set_cons_succ]
      refine wb_pure (i := 15) (d := some 36) (v := ?_) (by simp only [List.getElem?_toArray, List.getElem?_cons_succ, List.getElem?_cons_zero] <;> rfl) (by rfl) (by kernel_rfl) (by kernel_rfl) (by kernel_rfl) (fun _ _ _ h => h) (by rfl) ?_ ?_
      rotate_left
      · ((intro u); go_simp; try with_reducible rfl)
      try simp only [Act.put, List.setIfInBounds_toArray, List.set_cons_zero, List.set_cons_succ]
      refine wb_pure (i := 16) (d := some 37) (v := ?_) (by simp only [List.getElem?_toArray, List.getElem?_cons_succ, List.getElem?_cons_zero] <;> rfl) (by rfl) (by kernel_rfl) (by kernel_rfl) (by kernel_rfl) (fun _ _ _ h => h) (by rfl) ?_ ?_
      rotate_left
      · ((intro u); go_simp; try with_reducible rfl)
      try simp only [Act.put, List.setIfInBounds_toArray, List.set_cons_zero, List.set_cons_succ]
      refine wb_pure (i := 17) (d := some 38) (v := ?_) (by simp only [List.getElem?_toArray, List.getElem?_cons_succ, List.getElem?_cons_zero] <;> rfl) (by rfl) (by kernel_rfl) (by kernel_rfl) (by kernel_rfl) (fun _ _ _ h => h) (by rfl) ?_ ?_
      rotate_left
      · ((intro u); go_simp; try with_reducible rfl)
      try simp only [Act.put, List.setIfInBounds_toArray, List.set_cons_zero, List.set_cons_succ]
      refine wb_take (i := 18) (d := some 39) (v := ?_) (by simp only [List.getElem?_toArray, List.getElem?_cons_succ, List.getElem?_cons_zero] <;> rfl) (by rfl) (by kernel_rfl) (by kernel_rfl) (by kernel_rfl) (fun _ _ _ h => h) (by rfl) (by kernel_rfl) ?_ ?_
      rotate_left
      · ((intro u hu); have l0 := (hA.l.kb hu (by simp)).cell (i := 0) (v := .int .i64 sz) rfl; have l1 := (hA.l.kb hu (by simp)).cell (i := 1) (v := .int .i64 at') rfl; have l2 := (hA.l.kb hu (by simp)).cell (i := 2) (v := .func (.func fn) #[] #[]) rfl; have L := ldPk_run (hA.x.blk.kb hu (by simp)); go_simp; try with_reducible rfl)
      try simp only [Act.put, List.setIfInBounds_toArray, List.set_cons_zero, List.set_cons_succ]
      refine wb_one (i := 19) (by simp only [List.getElem?_toArray, List.getElem?_cons_succ, List.getElem?_cons_zero] <;> rfl) (by kernel_rfl) (by rfl) (fun K hK => ?_)
      go_simp
      refine (fieldsFit_any q1 _ _ hpr.out).mono ?_
      rw [hf]
      rintro e u19 ⟨rfl, hv19⟩
      refine hK.out _ _ (hA.kbb hv19) ?_
      replace hA := hA.below hv19
      clear hK K hv19
      try simp only [Act.put, List.setIfInBounds_toArray, List.set_cons_zero, List.set_cons_succ]
      refine wb_pure (i := 20) (d := some 41) (v := ?_) (by simp only [List.getElem?_toArray, List.getElem?_cons_succ, List.getElem?_cons_zero] <;> rfl) (by rfl) (by kernel_rfl) (by kernel_rfl) (by kernel_rfl) (fun _ _ _ h => h) (by rfl) ?_ ?_
      rotate_left
      · ((intro u); go_simp; try with_reducible rfl)
      try simp only [Act.put, List.setIfInBounds_toArray, List.set_cons_zero, List.set_cons_succ]
      refine wb_pure (i := 21) (d := some 42) (v := ?_) (by simp only [List.getElem?_toArray, List.getElem?_cons_succ, List.getElem?_cons_zero] <;> rfl) (by rfl) (by kernel_rfl) (by kernel_rfl) (by kernel_rfl) (fun _ _ _ h => h) (by rfl) ?_ ?_
      rotate_left
      · ((intro u); go_simp; try with_reducible rfl)
      try simp only [Act.put, List.setIfInBounds_toArray, List.set_cons_zero, List.set_cons_succ]
      refine wb_done (by kernel_rfl) ?_ _
      go_wp2_with fail
      go_ret
      exact ⟨_, by rw [hE.out]; rfl, hA.x, fun h => by rw [hE.out] at h; cases h⟩
    · replace hE1 := Lib.hid (hE1.out hf)
      replace hE2 := Lib.hid (hE2.out hf)
      clear hE0
      refine wb_begin ([pb, lb]) [] (by kernel_rfl) (fun u0 hb0' hz0' => ?_)
      replace hA := hA.below hb0'
      clear hb0' hz0'
      refine wb_pure (i := 0) (d := some 21) (v := ?_) (by simp only [List.getElem?_toArray, List.getElem?_cons_succ, List.getElem?_cons_zero] <;> rfl) (by rfl) (by kernel_rfl) (by kernel_rfl) (by kernel_rfl) (fun _ _ _ h => h) (by rfl) ?_ ?_
      rotate_left
      · ((intro u); go_simp; try with_reducible rfl)
      try simp only [Act.put, List.setIfInBounds_toArray, List.set_cons_zero, List.set_cons_succ]
      refine wb_take (i := 1) (d := some 22) (v := ?_) (by simp only [List.getElem?_toArray, List.getElem?_cons_succ, List.getElem?_cons_zero] <;> rfl) (by rfl) (by kernel_rfl) (by kernel_rfl) (by kernel_rfl) (fun _ _ _ h => h) (by rfl) (by kernel_rfl) ?_ ?_
      rotate_left
      · ((intro u hu); have l0 := (hA.l.kb hu (by simp)).cell (i := 0) (v := .int .i64 sz) rfl; have l1 := (hA.l.kb hu (by simp)).cell (i := 1) (v := .int .i64 at') rfl; have l2 := (hA.l.kb hu (by simp)).cell (i := 2) (v := .func (.func fn) #[] #[]) rfl; have L := ldPk_run (hA.x.blk.kb hu (by simp)); go_simp; try with_reducible rfl)
      try simp only [Act.put, List.setIfInBounds_toArray, List.set_cons_zero, List.set_cons_succ]
      refine wb_pure (i := 2) (d := some 23) (v := ?_) (by simp only [List.getElem?_toArray, List.getElem?_cons_succ, List.getElem?_cons_zero] <;> rfl) (by rfl) (by kernel_rfl) (by kernel_rfl) (by kernel_rfl) (fun _ _ _ h => h) (by rfl) ?_ ?_
      rotate_left
      · ((intro u); go_simp; try with_reducible rfl)
      try simp only [Act.put, List.setIfInBounds_toArray, List.set_cons_zero, List.set_cons_succ]
      refine wb_pure (i := 3) (d := some 24) (v := ?_) (by simp only [List.getElem?_toArray, List.getElem?_cons_succ, List.getElem?_cons_zero] <;> rfl) (by rfl) (by kernel_rfl) (by kernel_rfl) (by kernel_rfl) (fun _ _ _ h => h) (by rfl) ?_ ?_
      rotate_left
      · ((intro u); go_simp; try with_reducible rfl)
      try simp only [Act.put, List.setIfInBounds_toArray, List.set_cons_zero, List.set_cons_succ]
      refine wb_pure (i := 6) (d := some 27) (v := ?_) (by simp only [List.getElem?_toArray, List.getElem?_cons_succ, List.getElem?_cons_zero] <;> rfl) (by rfl) (by kernel_rfl) (by kernel_rfl) (by kernel_rfl) (fun _ _ _ h => h) (by rfl) ?_ ?_
      rotate_left
      · ((intro u); go_simp; try with_reducible rfl)
      try simp only [Act.put, List.setIfInBounds_toArray, List.set_cons_zero, List.set_cons_succ]
      refine wb_pure (i := 7) (d := some 28) (v := ?_) (by simp only [List.getElem?_toArray, List.getElem?_cons_succ, List.getElem?_cons_zero] <;> rfl) (by rfl) (by kernel_rfl) (by kernel_rfl) (by kernel_rfl) (fun _ _ _ h => h) (by rfl) ?_ ?_
      rotate_left
      · ((intro u); go_simp; try with_reducible rfl)
      try simp only [Act.put, List.setIfInBounds_toArray, List.set_cons_zero, List.set_cons_succ]
      refine wb_take (i := 8) (d := some 29) (v := ?_) (by simp only [List.getElem?_toArray, List.getElem?_cons_succ, List.getElem?_cons_zero] <;> rfl) (by rfl) (by kernel_rfl) (by kernel_rfl) (by kernel_rfl) (fun _ _ _ h => h) (by rfl) (by kernel_rfl) ?_ ?_
      rotate_left
      · ((intro u hu); have l0 := (hA.l.kb hu (by simp)).cell (i := 0) (v := .int .i64 sz) rfl; have l1 := (hA.l.kb hu (by simp)).cell (i := 1) (v := .int .i64 at') rfl; have l2 := (hA.l.kb hu (by simp)).cell (i := 2) (v := .func (.func fn) #[] #[]) rfl; have L := ldPk_run (hA.x.blk.kb hu (by simp)); go_simp; try with_reducible rfl)
      try simp only [Act.put, List.setIfInBounds_toArray, List.set_cons_zero, List.set_cons_succ]
      refine wb_pure (i := 9) (d := some 30) (v := ?_) (by simp only [List.getElem?_toArray, List.getElem?_cons_succ, List.getElem?_cons_zero] <;> rfl) (by rfl) (by kernel_rfl) (by kernel_rfl) (by kernel_rfl) (fun _ _ _ h => h) (by rfl) ?_ ?_
      rotate_left
      · ((intro u); go_simp; try with_reducible rfl)
      try simp only [Act.put, List.setIfInBounds_toArray, List.set_cons_zero, List.set_cons_succ]
      refine wb_pure (i := 10) (d := some 31) (v := ?_) (by simp only [List.getElem?_toArray, List.getElem?_cons_succ, List.getElem?_cons_zero] <;> rfl) (by rfl) (by kernel_rfl) (by kernel_rfl) (by kernel_rfl) (fun _ _ _ h => h) (by rfl) ?_ ?_
      rotate_left
      · ((intro u); go_simp; try with_reducible rfl)
      try simp only [Act.put, List.setIfInBounds_toArray, List.set_cons_zero, List.set_cons_succ]
      refine wb_take (i := 11) (d := some 32) (v := ?_) (by simp only [List.getElem?_toArray, List.getElem?_cons_succ, List.getElem?_cons_zero] <;> rfl) (by rfl) (by kernel_rfl) (by kernel_rfl) (by kernel_rfl) (fun _ _ _ h => h) (by rfl) (by kernel_rfl) ?_ ?_
      rotate_left
      · ((intro u hu); have l0 := (hA.l.kb hu (by simp)).cell (i := 0) (v := .int .i64 sz) rfl; have l1 := (hA.l.kb hu (by simp)).cell (i := 1) (v := .int .i64 at') rfl; have l2 := (hA.l.kb hu (by simp)).cell (i := 2) (v := .func (.func fn) #[] #[]) rfl; have L := ldPk_run (hA.x.blk.kb hu (by simp)); go_simp; try with_reducible rfl)
      try simp only [Act.put, List.setIfInBounds_toArray, List.set_cons_zero, List.set_cons_succ]
      refine wb_one (i := 4) (by simp only [List.getElem?_toArray, List.getElem?_cons_succ, List.getElem?_cons_zero] <;> rfl) (by kernel_rfl) (by rfl) (fun K hK => ?_)
      go_simp
      refine hK.out _ _ (Kb.refl _ _) ?_
      clear hK K
      try simp only [Act.put, List.setIfInBounds_toArray, List.set_cons_zero, List.set_cons_succ]
      refine wb_one (i := 5) (by simp only [List.getElem?_toArray, List.getElem?_cons_succ, List.getElem?_cons_zero] <;> rfl) (by kernel_rfl) (by rfl) (fun K hK => ?_)
      go_simp
      refine (HW.out _ hA.x.blk).mono ?_
      rintro e u5 ⟨v5, rfl, o5, hv5⟩
      obtain ⟨g5, c5, rfl, hS5⟩ := o5.form (by rw [hzl.out]; omega)
      rw [hzl.out] at hS5 ⊢
      replace hS5 := Lib.hid hS5
      clear o5
      refine hK.out _ _ (hA.kbb hv5) ?_
      replace hA := hA.below hv5
      try replace hS12 := Lib.hid (hS12.out.below hv5)
      clear hK K hv5
      try simp only [Act.put, List.setIfInBounds_toArray, List.set_cons_zero, List.set_cons_succ]
      refine wb_one (i := 12) (by simp only [List.getElem?_toArray, List.getElem?_cons_succ, List.getElem?_cons_zero] <;> rfl) (by kernel_rfl) (by rfl) (fun K hK => ?_)
      go_simp
      refine (withoutSum_any _ sz cap at' (bd.take sz) _ (hA.s.head sz hnsz) hat (by omega)).mono ?_
      rw [← hpz.out]
      rintro e u12 ⟨v12, rfl, o12, hv12⟩
      obtain ⟨g12, c12, rfl, hS12⟩ := o12.form (by rw [hpl.out]; omega)
      rw [hpl.out] at hS12 ⊢
      replace hS12 := Lib.hid hS12
      clear o12
      refine hK.out _ _ (hA.kbb hv12) ?_
      replace hA := hA.below hv12
      try replace hS5 := Lib.hid (hS5.out.below hv12)
      clear hK K hv12
      try simp only [Act.put, List.setIfInBounds_toArray, List.set_cons_zero, List.set_cons_succ]
      refine wb_one (i := 13) (by simp only [List.getElem?_toArray, List.getElem?_cons_succ, List.getElem?_cons_zero] <;> rfl) (by kernel_rfl) (by rfl) (fun K hK => ?_)
      go_simp
      have HQ := equalB_any g5 0 sz c5 g12 0 sz c12 hz pz _ hS5.out hS12.out hzb.out hpb.out
      rw [hdec.out] at HQ
      refine HQ.mono ?_
      rintro e u13 ⟨rfl, rfl⟩
      refine hK.out _ _ (Kb.refl _ _) ?_
      clear hK K HQ hS5 hS12
      try simp only [Act.put, List.setIfInBounds_toArray, List.set_cons_zero, List.set_cons_succ]
      refine wb_pure (i := 14) (d := some 35) (v := ?_) (by simp only [List.getElem?_toArray, List.getElem?_cons_succ, List.getElem?_cons_zero] <;> rfl) (by rfl) (by kernel_rfl) (by kernel_rfl) (by kernel_rfl) (fun _ _ _ h => h) (by rfl) ?_ ?_
      rotate_left
      · ((intro u); go_simp; try with_reducible rfl)
      try simp only [Act.put, List.setIfInBounds_toArray, List.set_cons_zero, List.set_cons_succ]
      refine wb_pure (i := 15) (d := some 36) (v := ?_) (by simp only [List.getElem?_toArray, List.getElem?_cons_succ, List.getElem?_cons_zero] <;> rfl) (by rfl) (by kernel_rfl) (by kernel_rfl) (by kernel_rfl) (fun _ _ _ h => h) (by rfl) ?_ ?_
      rotate_left
      · ((intro u); go_simp; try with_reducible rfl)
      try simp only [Act.put, List.setIfInBounds_toArray, List.set_cons_zero, List.set_cons_succ]
      refine wb_pure (i := 16) (d := some 37) (v := ?_) (by simp only [List.getElem?_toArray, List.getElem?_cons_succ, List.getElem?_cons_zero] <;> rfl) (by rfl) (by kernel_rfl) (by kernel_rfl) (by kernel_rfl) (fun _ _ _ h => h) (by rfl) ?_ ?_
      rotate_left
      · ((intro u); go_simp; try with_reducible rfl)
      try simp only [Act.put, List.setIfInBounds_toArray, List.set_cons_zero, List.set_cons_succ]
      refine wb_pure (i := 17) (d := some 38) (v := ?_) (by simp only [List.getElem?_toArray, List.getElem?_cons_succ, List.getElem?_cons_zero] <;> rfl) (by rfl) (by kernel_rfl) (by kernel_rfl) (by kernel_rfl) (fun _ _ _ h => h) (by rfl) ?_ ?_
      rotate_left
      · ((intro u); go_simp; try with_reducible rfl)
      try simp only [Act.put, List.setIfInBounds_toArray, List.set_cons_zero, List.set_cons_succ]
      refine wb_take (i := 18) (d := some 39) (v := ?_) (by simp only [List.getElem?_toArray, List.getElem?_cons_succ, List.getElem?_cons_zero] <;> rfl) (by rfl) (by kernel_rfl) (by kernel_rfl) (by kernel_rfl) (fun _ _ _ h => h) (by rfl) (by kernel_rfl) ?_ ?_
      rotate_left
      · ((intro u hu); have l0 := (hA.l.kb hu (by simp)).cell (i := 0) (v := .int .i64 sz) rfl; have l1 := (hA.l.kb hu (by simp)).cell (i := 1) (v := .int .i64 at') rfl; have l2 := (hA.l.kb hu (by simp)).cell (i := 2) (v := .func (.func fn) #[] #[]) rfl; have L := ldPk_run (hA.x.blk.kb hu (by simp)); go_simp; try with_reducible rfl)
      try simp only [Act.put, List.setIfInBounds_toArray, List.set_cons_zero, List.set_cons_succ]
      refine wb_one (i := 19) (by simp only [List.getElem?_toArray, List.getElem?_cons_succ, List.getElem?_cons_zero] <;> rfl) (by kernel_rfl) (by rfl) (fun K hK => ?_)
      go_simp
      refine (fieldsFit_any q1 _ _ hpr.out).mono ?_
      rw [hf]
      rintro e u19 ⟨rfl, hv19⟩
      refine hK.out _ _ (hA.kbb hv19) ?_
      replace hA := hA.below hv19
      clear hK K hv19
      try simp only [Act.put, List.setIfInBounds_toArray, List.set_cons_zero, List.set_cons_succ]
      refine wb_pure (i := 20) (d := some 41) (v := ?_) (by simp only [List.getElem?_toArray, List.getElem?_cons_succ, List.getElem?_cons_zero] <;> rfl) (by rfl) (by kernel_rfl) (by kernel_rfl) (by kernel_rfl) (fun _ _ _ h => h) (by rfl) ?_ ?_
      rotate_left
      · ((intro u); go_simp; try with_reducible rfl)
      try simp only [Act.put, List.setIfInBounds_toArray, List.set_cons_zero, List.set_cons_succ]
      refine wb_pure (i := 21) (d := some 42) (v := ?_) (by simp only [List.getElem?_toArray, List.getElem?_cons_succ, List.getElem?_cons_zero] <;> rfl) (by rfl) (by kernel_rfl) (by kernel_rfl) (by kernel_rfl) (fun _ _ _ h => h) (by rfl) ?_ ?_
      rotate_left
      · ((intro u); go_simp; try with_reducible rfl)
      try simp only [Act.put, List.setIfInBounds_toArray, List.set_cons_zero, List.set_cons_succ]
      refine wb_done (by kernel_rfl) ?_ _
      have l0 := hA.l.cell (i := 0) (v := .int .i64 sz) rfl
      go_wp2_with fail
      clear l0
      refine wb_begin ([pb, lb]) [] (by kernel_rfl) (fun u0 hb0' hz0' => ?_)
      replace hA := hA.below hb0'
      clear hb0' hz0'
      refine wb_pure (i := 0) (d := some 49) (v := ?_) (by simp only [List.getElem?_toArray, List.getElem?_cons_succ, List.getElem?_cons_zero] <;> rfl) (by rfl) (by kernel_rfl) (by kernel_rfl) (by kernel_rfl) (fun _ _ _ h => h) (by rfl) ?_ ?_
      rotate_left
      · ((intro u); go_simp; try with_reducible rfl)
      try simp only [Act.put, List.setIfInBounds_toArray, List.set_cons_zero, List.set_cons_succ]
      refine wb_pure (i := 1) (d := some 50) (v := ?_) (by simp only [List.getElem?_toArray, List.getElem?_cons_succ, List.getElem?_cons_zero] <;> rfl) (by rfl) (by kernel_rfl) (by kernel_rfl) (by kernel_rfl) (fun _ _ _ h => h) (by rfl) ?_ ?_
      rotate_left
      · ((intro u); go_simp; try with_reducible rfl)
      try simp only [Act.put, List.setIfInBounds_toArray, List.set_cons_zero, List.set_cons_succ]
      refine wb_pure (i := 2) (d := some 51) (v := ?_) (by simp only [List.getElem?_toArray, List.getElem?_cons_succ, List.getElem?_cons_zero] <;> rfl) (by rfl) (by kernel_rfl) (by kernel_rfl) (by kernel_rfl) (fun _ _ _ h => h) (by rfl) ?_ ?_
      rotate_left
      · ((intro u); go_simp; try with_reducible rfl)
      try simp only [Act.put, List.setIfInBounds_toArray, List.set_cons_zero, List.set_cons_succ]
      refine wb_take (i := 3) (d := some 52) (v := ?_) (by simp only [List.getElem?_toArray, List.getElem?_cons_succ, List.getElem?_cons_zero] <;> rfl) (by rfl) (by kernel_rfl) (by kernel_rfl) (by kernel_rfl) (fun _ _ _ h => h) (by rfl) (by kernel_rfl) ?_ ?_
      rotate_left
      · ((intro u hu); have l0 := (hA.l.kb hu (by simp)).cell (i := 0) (v := .int .i64 sz) rfl; have l1 := (hA.l.kb hu (by simp)).cell (i := 1) (v := .int .i64 at') rfl; have l2 := (hA.l.kb hu (by simp)).cell (i := 2) (v := .func (.func fn) #[] #[]) rfl; go_simp; try with_reducible rfl)
      try simp only [Act.put, List.setIfInBounds_toArray, List.set_cons_zero, List.set_cons_succ]
      refine wb_pure (i := 6) (d := some 55) (v := ?_) (by simp only [List.getElem?_toArray, List.getElem?_cons_succ, List.getElem?_cons_zero] <;> rfl) (by rfl) (by kernel_rfl) (by kernel_rfl) (by kernel_rfl) (fun _ _ _ h => h) (by rfl) ?_ ?_
      rotate_left
      · ((intro u); go_simp; try with_reducible rfl)
      try simp only [Act.put, List.setIfInBounds_toArray, List.set_cons_zero, List.set_cons_succ]
      refine wb_pure (i := 7) (d := some 56) (v := ?_) (by simp only [List.getElem?_toArray, List.getElem?_cons_succ, List.getElem?_cons_zero] <;> rfl) (by rfl) (by kernel_rfl) (by kernel_rfl) (by kernel_rfl) (fun _ _ _ h => h) (by rfl) ?_ ?_
      rotate_left
      · ((intro u); go_simp; try with_reducible rfl)
      try simp only [Act.put, List.setIfInBounds_toArray, List.set_cons_zero, List.set_cons_succ]
      refine wb_take (i := 8) (d := some 57) (v := ?_) (by simp only [List.getElem?_toArray, List.getElem?_cons_succ, List.getElem?_cons_zero] <;> rfl) (by rfl) (by kernel_rfl) (by kernel_rfl) (by kernel_rfl) (fun _ _ _ h => h) (by rfl) (by kernel_rfl) ?_ ?_
      rotate_left
      · ((intro u hu); have l0 := (hA.l.kb hu (by simp)).cell (i := 0) (v := .int .i64 sz) rfl; have l1 := (hA.l.kb hu (by simp)).cell (i := 1) (v := .int .i64 at') rfl; have l2 := (hA.l.kb hu (by simp)).cell (i := 2) (v := .func (.func fn) #[] #[]) rfl; go_simp; try with_reducible rfl)
      try simp only [Act.put, List.setIfInBounds_toArray, List.set_cons_zero, List.set_cons_succ]
      refine wb_pure (i := 9) (d := some 58) (v := ?_) (by simp only [List.getElem?_toArray, List.getElem?_cons_succ, List.getElem?_cons_zero] <;> rfl) (by rfl) (by kernel_rfl) (by kernel_rfl) (by kernel_rfl) (fun _ _ _ h => h) (by rfl) ?_ ?_
      rotate_left
      · ((intro u); go_simp; try with_reducible rfl)
      try simp only [Act.put, List.setIfInBounds_toArray, List.set_cons_zero, List.set_cons_succ]
      refine wb_take (i := 10) (d := some 59) (v := ?_) (by simp only [List.getElem?_toArray, List.getElem?_cons_succ, List.getElem?_cons_zero] <;> rfl) (by rfl) (by kernel_rfl) (by kernel_rfl) (by kernel_rfl) (fun _ _ _ h => h) (by rfl) (by kernel_rfl) ?_ ?_
      rotate_left
      · ((intro u hu); have l0 := (hA.l.kb hu (by simp)).cell (i := 0) (v := .int .i64 sz) rfl; have l1 := (hA.l.kb hu (by simp)).cell (i := 1) (v := .int .i64 at') rfl; have l2 := (hA.l.kb hu (by simp)).cell (i := 2) (v := .func (.func fn) #[] #[]) rfl; go_simp; try with_reducible rfl)
      try simp only [Act.put, List.setIfInBounds_toArray, List.set_cons_zero, List.set_cons_succ]
      refine wb_pure (i := 11) (d := some 60) (v := ?_) (by simp only [List.getElem?_toArray, List.getElem?_cons_succ, List.getElem?_cons_zero] <;> rfl) (by rfl) (by kernel_rfl) (by kernel_rfl) (by kernel_rfl) (fun _ _ _ h => h) (by rfl) ?_ ?_
      rotate_left
      · ((intro u); go_simp; try with_reducible rfl)
      try simp only [Act.put, List.setIfInBounds_toArray, List.set_cons_zero, List.set_cons_succ]
      refine wb_pure (i := 12) (d := some 61) (v := ?_) (by simp only [List.getElem?_toArray, List.getElem?_cons_succ, List.getElem?_cons_zero] <;> rfl) (by rfl) (by kernel_rfl) (by kernel_rfl) (by kernel_rfl) (fun _ _ _ h => h) (by rfl) ?_ ?_
      rotate_left
      · ((intro u); go_simp; try with_reducible rfl)
      try simp only [Act.put, List.setIfInBounds_toArray, List.set_cons_zero, List.set_cons_succ]
      refine wb_one (i := 4) (by simp only [List.getElem?_toArray, List.getElem?_cons_succ, List.getElem?_cons_zero] <;> rfl) (by kernel_rfl) (by rfl) (fun K hK => ?_)
      go_simp
      refine (withoutSum_any _ n cap at' bd _ hA.s (by omega) (by omega)).mono ?_
      rw [← hpq.out]
      rintro e u4 ⟨v4, rfl, o4, hv4⟩
      obtain ⟨g4, c4, rfl, hS4⟩ := o4.form (by rw [hpql.out]; omega)
      rw [hpql.out] at hS4 ⊢
      replace hS4 := Lib.hid hS4
      clear o4
      refine hK.out _ _ (hA.kbb hv4) ?_
      replace hA := hA.below hv4
      clear hK K hv4
      try simp only [Act.put, List.setIfInBounds_toArray, List.set_cons_zero, List.set_cons_succ]
      refine wb_one (i := 5) (by simp only [List.getElem?_toArray, List.getElem?_cons_succ, List.getElem?_cons_zero] <;> rfl) (by kernel_rfl) (by rfl) (fun K hK => ?_)
      go_simp
      refine (sumOf_any q1 _ pb _ n c4 pq _ hA.x.blk hq1.out hS4.out (fun h => by cases h) (by omega) (by omega) hpqb.out).mono ?_
      rintro e u5 ⟨rfl, hv5⟩
      refine hK.out _ _ (hA.kbb hv5) ?_
      replace hA := hA.below hv5
      clear hK K hv5
      try simp only [Act.put, List.setIfInBounds_toArray, List.set_cons_zero, List.set_cons_succ]
      refine wb_one (i := 13) (by simp only [List.getElem?_toArray, List.getElem?_cons_succ, List.getElem?_cons_zero] <;> rfl) (by kernel_rfl) (by rfl) (fun K hK => ?_)
      go_simp
      refine (int_part _ _ _ _ _ bd _ hA.s at' 2 (by omega) (by omega) (by omega) hb.out).mono ?_
      rintro e u13 ⟨rfl, hv13⟩
      refine hK.out _ _ (hA.kbb hv13) ?_
      replace hA := hA.below hv13
      try replace hS4 := Lib.hid (hS4.out.below hv13)
      clear hK K hv13
      try simp only [Act.put, List.setIfInBounds_toArray, List.set_cons_zero, List.set_cons_succ]
      refine wb_pure (i := 14) (d := some 63) (v := ?_) (by simp only [List.getElem?_toArray, List.getElem?_cons_succ, List.getElem?_cons_zero] <;> rfl) (by rfl) (by kernel_rfl) (by kernel_rfl) (by kernel_rfl) (fun _ _ _ h => h) (by rfl) ?_ ?_
      rotate_left
      · ((intro u); go_simp; try with_reducible rfl)
      try simp only [Act.put, List.setIfInBounds_toArray, List.set_cons_zero, List.set_cons_succ]
      refine wb_done (by kernel_rfl) ?_ _
      generalize sumF q1 pq = S at hE1 hE2 ⊢
      by_cases hs : S = (nb bd at' 2 : Int)
      · have hE := Lib.hid (hE2.out hs)
        clear hE1 hE2
        have c18 := hA.x.blk.cell (i := 18) rfl
        have f18 := hA.x.blk.free 18
        have l0 := hA.l.cell (i := 0) (v := .int .i64 sz) rfl
        have hsS : (S != (nb bd at' 2 : Int)) = false := by rw [hs]; simp
        by_cases hcz : cap = sz
        · have hE0 := Lib.hid (show bd.drop sz = [] by rw [List.drop_eq_nil_iff]; have := hl.out; omega)
          have hnz : n - sz = 0 := by omega
          have hczz : cap - sz = 0 := by omega
          have HC := Lib.hid (fun w' => cloneB_any (some ⟨g, off, none⟩) 0 0 [] w' ⟨rfl, Nat.le_refl _, .inl rfl⟩ (by omega))
          replace hs := Lib.hid hs
          clear c18 f18
          go_wp2_with fail
          refine (HC.out _).mono ?_
          rintro e w3 ⟨v3, rfl, o3, hv3⟩
          have hpl3 := hA.x.blk.lt
          have hszw := hA.x.gb.size
          replace hA := hA.below hv3
          obtain ⟨A3, c3, rfl, hS3, hA3⟩ := o3.sln (n := 0) rfl
          have ho := Lib.hid (fun x => (o3.setOther (p := pb) (i := 18) (x := x) hpl3).mono hszw)
          have c18 := hA.x.blk.cell (i := 18) rfl
          have f18 := hA.x.blk.free 18
          clear HC o3 hS3 hA3 hv3 l0 hsS hszw hpl3
          go_wp2_with fail
          go_ret
          exact ⟨_, by rw [hE.out]; rfl, hA.x.set (q' := q1) 18 (.slice A3 0 c3) rfl, fun _ => ⟨A3, 0, c3, rfl, by rw [hE0.out]; exact ho.out _⟩⟩
        · have hdt := Lib.hid (show (bd.drop sz).take (n - sz) = bd.drop sz by rw [List.take_of_length_le]; rw [List.length_drop]; have := hl.out; omega)
          have HC := Lib.hid (fun w' h => cloneB_any (some ⟨g, off + sz, none⟩) (n - sz) (cap - sz) ((bd.drop sz).take (n - sz)) w' h (by omega))
          have HC1 := Lib.hid (HC.out _ (hA.s.part sz (n - sz) (cap - sz) (by omega) (by omega)))
          rw [hdt.out] at HC1
          replace hs := Lib.hid hs
          clear c18 f18 HC hdt
          go_wp2_with fail
          refine HC1.out.mono ?_
          rintro e w3 ⟨v3, rfl, o3, hv3⟩
          have hpl3 := hA.x.blk.lt
          have hszw := hA.x.gb.size
          replace hA := hA.below hv3
          obtain ⟨A3, c3, rfl, hS3, hA3⟩ := o3.sln (n := n - sz) (by rw [List.length_drop, ← hl.out])
          have ho := Lib.hid (fun x => (o3.setOther (p := pb) (i := 18) (x := x) hpl3).mono hszw)
          have c18 := hA.x.blk.cell (i := 18) rfl
          have f18 := hA.x.blk.free 18
          clear HC1 o3 hS3 hA3 hv3 l0 hsS hszw hpl3
          go_wp2_with fail
          go_ret
          exact ⟨_, by rw [hE.out]; rfl, hA.x.set (q' := q1) 18 (.slice A3 (n - sz) c3) rfl, fun _ => ⟨A3, _, c3, rfl, ho.out _⟩⟩
      · have hE := Lib.hid (hE1.out hs)
        clear hE1 hE2
        have hsS : (S != (nb bd at' 2 : Int)) = true := by simp [hs]
        replace hs := Lib.hid hs
        go_wp2_with fail
        go_ret
        exact ⟨_, by rw [hE.out]; rfl, hA.x, fun h => by rw [hE.out] at h; cases h⟩
  · have hdec := Lib.hid (show decide (hz = pz) = false from decide_eq_false hEq)
    have hE := Lib.hid (hE0.out (.inl hEq))
    replace hEq := Lib.hid hEq
    clear hE0 hE1 hE2
    refine wb_begin ([pb, lb]) [] (by kernel_rfl) (fun u0 hb0' hz0' => ?_)
    replace hA := hA.below hb0'
    clear hb0' hz0'
    refine wb_pure (i := 0) (d := some 21) (v := ?_) (by simp only [List.getElem?_toArray, List.getElem?_cons_succ, List.getElem?_cons_zero] <;> rfl) (by rfl) (by kernel_rfl) (by kernel_rfl) (by kernel_rfl) (fun _ _ _ h => h) (by rfl) ?_ ?_
    rotate_left
    · ((intro u); go_simp; try with_reducible rfl)
    try simp only [Act.put, List.setIfInBounds_toArray, List.set_cons_zero, List.set_cons_succ]
    refine wb_take (i := 1) (d := some 22) (v := ?_) (by simp only [List.getElem?_toArray, List.getElem?_cons_succ, List.getElem?_cons_zero] <;> rfl) (by rfl) (by kernel_rfl) (by kernel_rfl) (by kernel_rfl) (fun _ _ _ h => h) (by rfl) (by kernel_rfl) ?_ ?_
    rotate_left
    · ((intro u hu); have l0 := (hA.l.kb hu (by simp)).cell (i := 0) (v := .int .i64 sz) rfl; have l1 := (hA.l.kb hu (by simp)).cell (i := 1) (v := .int .i64 at') rfl; have l2 := (hA.l.kb hu (by simp)).cell (i := 2) (v := .func (.func fn) #[] #[]) rfl; have L := ldPk_run (hA.x.blk.kb hu (by simp)); go_simp; try with_reducible rfl)
    try simp only [Act.put, List.setIfInBounds_toArray, List.set_cons_zero, List.set_cons_succ]
    refine wb_pure (i := 2) (d := some 23) (v := ?_) (by simp only [List.getElem?_toArray, List.getElem?_cons_succ, List.getElem?_cons_zero] <;> rfl) (by rfl) (by kernel_rfl) (by kernel_rfl) (by kernel_rfl) (fun _ _ _ h => h) (by rfl) ?_ ?_
    rotate_left
    · ((intro u); go_simp; try with_reducible rfl)
    try simp only [Act.put, List.setIfInBounds_toArray, List.set_cons_zero, List.set_cons_succ]
    refine wb_pure (i := 3) (d := some 24) (v := ?_) (by simp only [List.getElem?_toArray, List.getElem?_cons_succ, List.getElem?_cons_zero] <;> rfl) (by rfl) (by kernel_rfl) (by kernel_rfl) (by kernel_rfl) (fun _ _ _ h => h) (by rfl) ?_ ?_
    rotate_left
    · ((intro u); go_simp; try with_reducible rfl)
    try simp only [Act.put, List.setIfInBounds_toArray, List.set_cons_zero, List.set_cons_succ]
    refine wb_pure (i := 6) (d := some 27) (v := ?_) (by simp only [List.getElem?_toArray, List.getElem?_cons_succ, List.getElem?_cons_zero] <;> rfl) (by rfl) (by kernel_rfl) (by kernel_rfl) (by kernel_rfl) (fun _ _ _ h => h) (by rfl) ?_ ?_
    rotate_left
    · ((intro u); go_simp; try with_reducible rfl)
    try simp only [Act.put, List.setIfInBounds_toArray, List.set_cons_zero, List.set_cons_succ]
    refine wb_pure (i := 7) (d := some 28) (v := ?_) (by simp only [List.getElem?_toArray, List.getElem?_cons_succ, List.getElem?_cons_zero] <;> rfl) (by rfl) (by kernel_rfl) (by kernel_rfl) (by kernel_rfl) (fun _ _ _ h => h) (by rfl) ?_ ?_
    rotate_left
    · ((intro u); go_simp; try with_reducible rfl)
    try simp only [Act.put, List.setIfInBounds_toArray, List.set_cons_zero, List.set_cons_succ]
    refine wb_take (i := 8) (d := some 29) (v := ?_) (by simp only [List.getElem?_toArray, List.getElem?_cons_succ, List.getElem?_cons_zero] <;> rfl) (by rfl) (by kernel_rfl) (by kernel_rfl) (by kernel_rfl) (fun _ _ _ h => h) (by rfl) (by kernel_rfl) ?_ ?_
    rotate_left
    · ((intro u hu); have l0 := (hA.l.kb hu (by simp)).cell (i := 0) (v := .int .i64 sz) rfl; have l1 := (hA.l.kb hu (by simp)).cell (i := 1) (v := .int .i64 at') rfl; have l2 := (hA.l.kb hu (by simp)).cell (i := 2) (v := .func (.func fn) #[] #[]) rfl; have L := ldPk_run (hA.x.blk.kb hu (by simp)); go_simp; try with_reducible rfl)
    try simp only [Act.put, List.setIfInBounds_toArray, List.set_cons_zero, List.set_cons_succ]
    refine wb_pure (i := 9) (d := some 30) (v := ?_) (by simp only [List.getElem?_toArray, List.getElem?_cons_succ, List.getElem?_cons_zero] <;> rfl) (by rfl) (by kernel_rfl) (by kernel_rfl) (by kernel_rfl) (fun _ _ _ h => h) (by rfl) ?_ ?_
    rotate_left
    · ((intro u); go_simp; try with_reducible rfl)
    try simp only [Act.put, List.setIfInBounds_toArray, List.set_cons_zero, List.set_cons_succ]
    refine wb_pure (i := 10) (d := some 31) (v := ?_) (by simp only [List.getElem?_toArray, List.getElem?_cons_succ, List.getElem?_cons_zero] <;> rfl) (by rfl) (by kernel_rfl) (by kernel_rfl) (by kernel_rfl) (fun _ _ _ h => h) (by rfl) ?_ ?_
    rotate_left
    · ((intro u); go_simp; try with_reducible rfl)
    try simp only [Act.put, List.setIfInBounds_toArray, List.set_cons_zero, List.set_cons_succ]
    refine wb_take (i := 11) (d := some 32) (v := ?_) (by simp only [List.getElem?_toArray, List.getElem?_cons_succ, List.getElem?_cons_zero] <;> rfl) (by rfl) (by kernel_rfl) (by kernel_rfl) (by kernel_rfl) (fun _ _ _ h => h) (by rfl) (by kernel_rfl) ?_ ?_
    rotate_left
    · ((intro u hu); have l0 := (hA.l.kb hu (by simp)).cell (i := 0) (v := .int .i64 sz) rfl; have l1 := (hA.l.kb hu (by simp)).cell (i := 1) (v := .int .i64 at') rfl; have l2 := (hA.l.kb hu (by simp)).cell (i := 2) (v := .func (.func fn) #[] #[]) rfl; have L := ldPk_run (hA.x.blk.kb hu (by simp)); go_simp; try with_reducible rfl)
    try simp only [Act.put, List.setIfInBounds_toArray, List.set_cons_zero, List.set_cons_succ]
    refine wb_one (i := 4) (by simp only [List.getElem?_toArray, List.getElem?_cons_succ, List.getElem?_cons_zero] <;> rfl) (by kernel_rfl) (by rfl) (fun K hK => ?_)
    go_simp
    refine hK.out _ _ (Kb.refl _ _) ?_
    clear hK K
    try simp only [Act.put, List.setIfInBounds_toArray, List.set_cons_zero, List.set_cons_succ]
    refine wb_one (i := 5) (by simp only [List.getElem?_toArray, List.getElem?_cons_succ, List.getElem?_cons_zero] <;> rfl) (by kernel_rfl) (by rfl) (fun K hK => ?_)
    go_simp
    refine (HW.out _ hA.x.blk).mono ?_
    rintro e u5 ⟨v5, rfl, o5, hv5⟩
    obtain ⟨g5, c5, rfl, hS5⟩ := o5.form (by rw [hzl.out]; omega)
    rw [hzl.out] at hS5 ⊢
    replace hS5 := Lib.hid hS5
    clear o5
    refine hK.out _ _ (hA.kbb hv5) ?_
    replace hA := hA.below hv5
    try replace hS12 := Lib.hid (hS12.out.below hv5)
    clear hK K hv5
    try simp only [Act.put, List.setIfInBounds_toArray, List.set_cons_zero, List.set_cons_succ]
    refine wb_one (i := 12) (by simp only [List.getElem?_toArray, List.getElem?_cons_succ, List.getElem?_cons_zero] <;> rfl) (by kernel_rfl) (by rfl) (fun K hK => ?_)
    go_simp
    refine (withoutSum_any _ sz cap at' (bd.take sz) _ (hA.s.head sz hnsz) hat (by omega)).mono ?_
    rw [← hpz.out]
    rintro e u12 ⟨v12, rfl, o12, hv12⟩
    obtain ⟨g12, c12, rfl, hS12⟩ := o12.form (by rw [hpl.out]; omega)
    rw [hpl.out] at hS12 ⊢
    replace hS12 := Lib.hid hS12
    clear o12
    refine hK.out _ _ (hA.kbb hv12) ?_
    replace hA := hA.below hv12
    try replace hS5 := Lib.hid (hS5.out.below hv12)
    clear hK K hv12
    try simp only [Act.put, List.setIfInBounds_toArray, List.set_cons_zero, List.set_cons_succ]
    refine wb_one (i := 13) (by simp only [List.getElem?_toArray, List.getElem?_cons_succ, List.getElem?_cons_zero] <;> rfl) (by kernel_rfl) (by rfl) (fun K hK => ?_)
    go_simp
    have HQ := equalB_any g5 0 sz c5 g12 0 sz c12 hz pz _ hS5.out hS12.out hzb.out hpb.out
    rw [hdec.out] at HQ
    refine HQ.mono ?_
    rintro e u13 ⟨rfl, rfl⟩
    refine hK.out _ _ (Kb.refl _ _) ?_
    clear hK K HQ hS5 hS12
    try simp only [Act.put, List.setIfInBounds_toArray, List.set_cons_zero, List.set_cons_succ]
    refine wb_pure (i := 14) (d := some 35) (v := ?_) (by simp only [List.getElem?_toArray, List.getElem?_cons_succ, List.getElem?_cons_zero] <;> rfl) (by rfl) (by kernel_rfl) (by kernel_rfl) (by kernel_rfl) (fun _ _ _ h => h) (by rfl) ?_ ?_
    rotate_left
    · ((intro u); go_simp; try with_reducible rfl)
    try simp only [Act.put, List.setIfInBounds_toArray, List.set_cons_zero, List.set_cons_succ]
    refine wb_pure (i := 15) (d := some 36) (v := ?_) (by simp only [List.getElem?_toArray, List.getElem?_cons_succ, List.getElem?_cons_zero] <;> rfl) (by rfl) (by kernel_rfl) (by kernel_rfl) (by kernel_rfl) (fun _ _ _ h => h) (by rfl) ?_ ?_
    rotate_left
    · ((intro u); go_simp; try with_reducible rfl)
    try simp only [Act.put, List.setIfInBounds_toArray, List.set_cons_zero, List.set_cons_succ]
    refine wb_skip (i := 16) (d := some 37) (by simp only [List.getElem?_toArray, List.getElem?_cons_succ, List.getElem?_cons_zero] <;> rfl) (by rfl) (by kernel_rfl) (by kernel_rfl) (by kernel_rfl) (fun _ _ _ h => h) (by rfl) ?_
    try simp only [Act.put, List.setIfInBounds_toArray, List.set_cons_zero, List.set_cons_succ]
    refine wb_skip (i := 17) (d := some 38) (by simp only [List.getElem?_toArray, List.getElem?_cons_succ, List.getElem?_cons_zero] <;> rfl) (by rfl) (by kernel_rfl) (by kernel_rfl) (by kernel_rfl) (fun _ _ _ h => h) (by rfl) ?_
    try simp only [Act.put, List.setIfInBounds_toArray, List.set_cons_zero, List.set_cons_succ]
    refine wb_skip (i := 18) (d := some 39) (by simp only [List.getElem?_toArray, List.getElem?_cons_succ, List.getElem?_cons_zero] <;> rfl) (by rfl) (by kernel_rfl) (by kernel_rfl) (by kernel_rfl) (fun _ _ _ h => h) (by rfl) ?_
    try simp only [Act.put, List.setIfInBounds_toArray, List.set_cons_zero, List.set_cons_succ]
    refine wb_skip (i := 19) (d := some 40) (by simp only [List.getElem?_toArray, List.getElem?_cons_succ, List.getElem?_cons_zero] <;> rfl) (by rfl) (by kernel_rfl) (by kernel_rfl) (by kernel_rfl) (fun _ _ _ h => h) (by rfl) ?_
    try simp only [Act.put, List.setIfInBounds_toArray, List.set_cons_zero, List.set_cons_succ]
    refine wb_skip (i := 20) (d := some 41) (by simp only [List.getElem?_toArray, List.getElem?_cons_succ, List.getElem?_cons_zero] <;> rfl) (by rfl) (by kernel_rfl) (by kernel_rfl) (by kernel_rfl) (fun _ _ _ h => h) (by rfl) ?_
    try simp only [Act.put, List.setIfInBounds_toArray, List.set_cons_zero, List.set_cons_succ]
    refine wb_pure (i := 21) (d := some 42) (v := ?_) (by simp only [List.getElem?_toArray, List.getElem?_cons_succ, List.getElem?_cons_zero] <;> rfl) (by rfl) (by kernel_rfl) (by kernel_rfl) (by kernel_rfl) (fun _ _ _ h => h) (by rfl) ?_ ?_
    rotate_left
    · ((intro u); go_simp; try with_reducible rfl)
    try simp only [Act.put, List.setIfInBounds_toArray, List.set_cons_zero, List.set_cons_succ]
    refine wb_done (by kernel_rfl) ?_ _
    go_wp2_with fail
    go_ret
    exact ⟨_, by rw [hE.out]; rfl, hA.x, fun h => by rw [hE.out] at h; cases h⟩
end Go.Proofs.YtijlahgmnpnmfaaGreatDoor
