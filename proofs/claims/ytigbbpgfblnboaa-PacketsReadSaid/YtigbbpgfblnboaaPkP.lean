/- Packets: the part of the protocol. -/
import Derived.Test.YtigbbpgfblnboaaPkO
import Derived.Laws.EntriesVeiled
namespace Go.Proofs.Ytigbbpgfblnboaa
open Go.RowKit
set_option linter.unusedVariables false
set_option linter.unusedSimpArgs false

theorem Own.form {B : Nat} {w : World} {v : Value} {bs : List Nat} (h : Own B w v bs) (h0 : 0 < bs.length) : ∃ g cap, v = .slice (some ⟨g, 0, none⟩) bs.length cap ∧ SlB w (some ⟨g, 0, none⟩) bs.length cap bs := by
  obtain ⟨A, cap, rfl, hS, hA⟩ := h.sl
  rcases h.2 with ⟨hv, h1⟩ | ⟨g, c, cur, hv, _⟩
  · omega
  · have e1 : A = some ⟨g, 0, none⟩ := by injection hv
    subst e1
    exact ⟨g, cap, rfl, hS⟩
theorem Kb.two {a b B : Nat} {x y : World} (h : Below B x y) (ha : a < B) (hb : b < B) : Kb [a, b] x y :=
  Kb.below h (by intro p hp; simp at hp; rcases hp with rfl | rfl <;> assumption)
theorem wrapI (x : Int) (h0 : 0 ≤ x) (h1 : x < 9223372036854775808) : IntKind.i64.wrap x = x := by rw [IntKind.wrap_i64]; omega

set_option maxHeartbeats 800000 in
set_option maxRecDepth 100000 in
theorem partOf_lay (q : Pk) (pb : Nat) (A : Option Addr) (n cap : Nat) (pl hz : List Nat) (fn fr sz at' : Nat) (w : World) (hP : Blk w pb (pkL q (.slice A n cap)) 45) (hq : PkOk q) (hS : SlB w A n cap pl) (hA : A = none → cap = 0) (hn : n ≤ 1400) (hb : Byt pl)
    (HL : ∀ w', Calls Try.prog 68 #[.int .i64 q.proto] w' (GivesV (.agg #[.int .i64 sz, .int .i64 at', .func (.func fn) #[] #[], .func (.func fr) #[] #[]]) w'))
    (HW : ∀ w', Blk w' pb (pkL q (.slice A n cap)) 45 → Calls Try.prog fn #[.pointer (some ⟨pb, 0, none⟩), .int .i64 ((sz : Int) + (n : Int))] w' (GivesB hz w'))
    (hcf : ∀ (args : Array Value) (w' : World), (callFunc fn args).run Try.prog w' = .ok (.enter fn args) w') (hzl : hz.length = sz) (hzb : Byt hz) (hat : at' + 2 ≤ sz) (hsz : sz ≤ 20) :
    Calls Try.prog 41 #[.pointer (some ⟨pb, 0, none⟩)] w (GivesB (splice (hz ++ pl) at' (be (sumF q (hz ++ pl)).toNat 2)) w) := by
  have hpb := hP.lt
  have hw := Below.refl w.heap.size w
  have hl := hS.len
  have hptb := Lib.hid (Byt.app hzb hb)
  have hptl : (hz ++ pl).length = sz + n := by rw [List.length_append, hzl, hl]
  have wsum := wrapI ((sz : Int) + (n : Int)) (by omega) (by omega)
  have c7 := hP.cell (i := 7) (v := .int .i64 q.proto) rfl
  replace hS := Lib.hid hS
  replace hA := Lib.hid hA
  replace hq := Lib.hid hq
  replace hzl := Lib.hid hzl
  replace hl := Lib.hid hl
  replace hptl := Lib.hid hptl
  replace HL := Lib.hid HL
  replace HW := Lib.hid HW
  clear hb hzb
  go_enter Try.func41, Try.ntmps41
  go_wp2_with fail
  refine (HL.out _).mono ?_
  rintro e u0 ⟨rfl, hv0⟩
  replace hP := hP.below hv0
  replace hw := hw.trans hv0
  clear hv0 HL c7
  have hLB := Blk.new u0 [.int .i64 sz, .int .i64 at', .func (.func fn) #[] #[], .func (.func fr) #[] #[]] 98
  replace hP := hP.alloc (.cells #[.int .i64 sz, .int .i64 at', .func (.func fn) #[] #[], .func (.func fr) #[] #[]] 98)
  have hlb := hw.size
  replace hw := hw.alloc hw.size (.cells #[.int .i64 sz, .int .i64 at', .func (.func fn) #[] #[], .func (.func fr) #[] #[]] 98)
  go_wp2_with fail
  obtain ⟨lb, hlbe⟩ : ∃ lb, lb = u0.heap.size := ⟨_, rfl⟩
  rw [← hlbe] at hlb hLB ⊢
  clear hlbe
  refine wb_begin ([pb, lb]) [] (by kernel_rfl) (fun u0 hb0' hz0' => ?_)
  replace hP := hP.below hb0'
  replace hLB := hLB.below hb0'
  replace hw := hw.trans (hb0'.mono hw.size)
  clear hb0' hz0'
  refine wb_pure (i := 0) (d := some 10) (v := ?_) (by simp only [List.getElem?_toArray, List.getElem?_cons_succ, List.getElem?_cons_zero] <;> rfl) (by rfl) (by kernel_rfl) (by kernel_rfl) (by kernel_rfl) (fun _ _ _ h => h) (by rfl) ?_ ?_
  rotate_left
  · ((intro u); go_simp; try with_reducible rfl)
  try simp only [Act.put, List.setIfInBounds_toArray, List.set_cons_zero, List.set_cons_succ]
  refine wb_take (i := 1) (d := some 11) (v := ?_) (by simp only [List.getElem?_toArray, List.getElem?_cons_succ, List.getElem?_cons_zero] <;> rfl) (by rfl) (by kernel_rfl) (by kernel_rfl) (by kernel_rfl) (fun _ _ _ h => h) (by rfl) (by kernel_rfl) ?_ ?_
  rotate_left
  · ((intro u hu); have k18 := (hP.kb hu (by simp)).cell (i := 18) (v := .slice A n cap) rfl; have l0 := (hLB.kb hu (by simp)).cell (i := 0) (v := .int .i64 sz) rfl; have l2 := (hLB.kb hu (by simp)).cell (i := 2) (v := .func (.func fn) #[] #[]) rfl; go_simp; try with_reducible rfl)
  try simp only [Act.put, List.setIfInBounds_toArray, List.set_cons_zero, List.set_cons_succ]
  refine wb_pure (i := 2) (d := some 12) (v := ?_) (by simp only [List.getElem?_toArray, List.getElem?_cons_succ, List.getElem?_cons_zero] <;> rfl) (by rfl) (by kernel_rfl) (by kernel_rfl) (by kernel_rfl) (fun _ _ _ h => h) (by rfl) ?_ ?_
  rotate_left
  · ((intro u); go_simp; try with_reducible rfl)
  try simp only [Act.put, List.setIfInBounds_toArray, List.set_cons_zero, List.set_cons_succ]
  refine wb_pure (i := 3) (d := some 13) (v := ?_) (by simp only [List.getElem?_toArray, List.getElem?_cons_succ, List.getElem?_cons_zero] <;> rfl) (by rfl) (by kernel_rfl) (by kernel_rfl) (by kernel_rfl) (fun _ _ _ h => h) (by rfl) ?_ ?_
  rotate_left
  · ((intro u); go_simp; try with_reducible rfl)
  try simp only [Act.put, List.setIfInBounds_toArray, List.set_cons_zero, List.set_cons_succ]
  refine wb_take (i := 4) (d := some 14) (v := ?_) (by simp only [List.getElem?_toArray, List.getElem?_cons_succ, List.getElem?_cons_zero] <;> rfl) (by rfl) (by kernel_rfl) (by kernel_rfl) (by kernel_rfl) (fun _ _ _ h => h) (by rfl) (by kernel_rfl) ?_ ?_
  rotate_left
  · ((intro u hu); have k18 := (hP.kb hu (by simp)).cell (i := 18) (v := .slice A n cap) rfl; have l0 := (hLB.kb hu (by simp)).cell (i := 0) (v := .int .i64 sz) rfl; have l2 := (hLB.kb hu (by simp)).cell (i := 2) (v := .func (.func fn) #[] #[]) rfl; go_simp; try with_reducible rfl)
  try simp only [Act.put, List.setIfInBounds_toArray, List.set_cons_zero, List.set_cons_succ]
  refine wb_pure (i := 5) (d := some 15) (v := ?_) (by simp only [List.getElem?_toArray, List.getElem?_cons_succ, List.getElem?_cons_zero] <;> rfl) (by rfl) (by kernel_rfl) (by kernel_rfl) (by kernel_rfl) (fun _ _ _ h => h) (by rfl) ?_ ?_
  rotate_left
  · ((intro u); go_simp; try with_reducible rfl)
  try simp only [Act.put, List.setIfInBounds_toArray, List.set_cons_zero, List.set_cons_succ]
  refine wb_pure (i := 6) (d := some 16) (v := ?_) (by simp only [List.getElem?_toArray, List.getElem?_cons_succ, List.getElem?_cons_zero] <;> rfl) (by rfl) (by kernel_rfl) (by kernel_rfl) (by kernel_rfl) (fun _ _ _ h => h) (by rfl) ?_ ?_
  rotate_left
  · ((intro u); go_simp; try with_reducible rfl)
  try simp only [Act.put, List.setIfInBounds_toArray, List.set_cons_zero, List.set_cons_succ]
  refine wb_pure (i := 7) (d := some 17) (v := ?_) (by simp only [List.getElem?_toArray, List.getElem?_cons_succ, List.getElem?_cons_zero] <;> rfl) (by rfl) (by kernel_rfl) (by kernel_rfl) (by kernel_rfl) (fun _ _ _ h => h) (by rfl) ?_ ?_
  rotate_left
  · ((intro u); go_simp; try with_reducible rfl)
  try simp only [Act.put, List.setIfInBounds_toArray, List.set_cons_zero, List.set_cons_succ]
  refine wb_take (i := 8) (d := some 18) (v := ?_) (by simp only [List.getElem?_toArray, List.getElem?_cons_succ, List.getElem?_cons_zero] <;> rfl) (by rfl) (by kernel_rfl) (by kernel_rfl) (by kernel_rfl) (fun _ _ _ h => h) (by rfl) (by kernel_rfl) ?_ ?_
  rotate_left
  · ((intro u hu); have k18 := (hP.kb hu (by simp)).cell (i := 18) (v := .slice A n cap) rfl; have l0 := (hLB.kb hu (by simp)).cell (i := 0) (v := .int .i64 sz) rfl; have l2 := (hLB.kb hu (by simp)).cell (i := 2) (v := .func (.func fn) #[] #[]) rfl; go_simp; try with_reducible rfl)
  try simp only [Act.put, List.setIfInBounds_toArray, List.set_cons_zero, List.set_cons_succ]
  refine wb_pure (i := 12) (d := some 22) (v := ?_) (by simp only [List.getElem?_toArray, List.getElem?_cons_succ, List.getElem?_cons_zero] <;> rfl) (by rfl) (by kernel_rfl) (by kernel_rfl) (by kernel_rfl) (fun _ _ _ h => h) (by rfl) ?_ ?_
  rotate_left
  · ((intro u); go_simp; try with_reducible rfl)
  try simp only [Act.put, List.setIfInBounds_toArray, List.set_cons_zero, List.set_cons_succ]
  refine wb_pure (i := 13) (d := some 23) (v := ?_) (by simp only [List.getElem?_toArray, List.getElem?_cons_succ, List.getElem?_cons_zero] <;> rfl) (by rfl) (by kernel_rfl) (by kernel_rfl) (by kernel_rfl) (fun _ _ _ h => h) (by rfl) ?_ ?_
  rotate_left
  · ((intro u); go_simp; try with_reducible rfl)
  try simp only [Act.put, List.setIfInBounds_toArray, List.set_cons_zero, List.set_cons_succ]
  refine wb_pure (i := 14) (d := some 24) (v := ?_) (by simp only [List.getElem?_toArray, List.getElem?_cons_succ, List.getElem?_cons_zero] <;> rfl) (by rfl) (by kernel_rfl) (by kernel_rfl) (by kernel_rfl) (fun _ _ _ h => h) (by rfl) ?_ ?_
  rotate_left
  · ((intro u); go_simp; try with_reducible rfl)
  try simp only [Act.put, List.setIfInBounds_toArray, List.set_cons_zero, List.set_cons_succ]
  refine wb_take (i := 15) (d := some 25) (v := ?_) (by simp only [List.getElem?_toArray, List.getElem?_cons_succ, List.getElem?_cons_zero] <;> rfl) (by rfl) (by kernel_rfl) (by kernel_rfl) (by kernel_rfl) (fun _ _ _ h => h) (by rfl) (by kernel_rfl) ?_ ?_
  rotate_left
  · ((intro u hu); have k18 := (hP.kb hu (by simp)).cell (i := 18) (v := .slice A n cap) rfl; have l0 := (hLB.kb hu (by simp)).cell (i := 0) (v := .int .i64 sz) rfl; have l2 := (hLB.kb hu (by simp)).cell (i := 2) (v := .func (.func fn) #[] #[]) rfl; go_simp; try with_reducible rfl)
  try simp only [Act.put, List.setIfInBounds_toArray, List.set_cons_zero, List.set_cons_succ]
  refine wb_one (i := 9) (by simp only [List.getElem?_toArray, List.getElem?_cons_succ, List.getElem?_cons_zero] <;> rfl) (by kernel_rfl) (by rfl) (fun K hK => ?_)
  go_simp
  refine hK.out _ _ (Kb.refl _ _) ?_
  clear hK K
  try simp only [Act.put, List.setIfInBounds_toArray, List.set_cons_zero, List.set_cons_succ]
  refine wb_pure (i := 10) (d := some 20) (v := ?_) (by simp only [List.getElem?_toArray, List.getElem?_cons_succ, List.getElem?_cons_zero] <;> rfl) (by rfl) (by kernel_rfl) (by kernel_rfl) (by kernel_rfl) (fun _ _ _ h => h) (by rfl) ?_ ?_
  rotate_left
  · ((intro u); go_simp; try with_reducible rfl)
  try simp only [Act.put, List.setIfInBounds_toArray, List.set_cons_zero, List.set_cons_succ]
  refine wb_one (i := 11) (by simp only [List.getElem?_toArray, List.getElem?_cons_succ, List.getElem?_cons_zero] <;> rfl) (by kernel_rfl) (by rfl) (fun K hK => ?_)
  go_simp
  have hlt := hLB.lt
  refine (HW.out _ hP).mono ?_
  rintro e u11 ⟨v11, rfl, o11, hv11⟩
  refine hK.out _ _ (Kb.two hv11 (by omega) (by omega)) ?_
  replace hP := hP.below hv11
  replace hLB := hLB.below hv11
  replace hw := hw.trans (hv11.mono hw.size)
  replace o11 := o11.mono (B := lb + 1) hlt
  clear hK K hv11 hlt
  try simp only [Act.put, List.setIfInBounds_toArray, List.set_cons_zero, List.set_cons_succ]
  refine wb_one (i := 16) (by simp only [List.getElem?_toArray, List.getElem?_cons_succ, List.getElem?_cons_zero] <;> rfl) (by kernel_rfl) (by rfl) (fun K hK => ?_)
  have hlt := hLB.lt
  refine wp_append_slB _ _ rfl (lb + 1) _ hz rfl o11 A n cap pl rfl (hS.out.below hw) hA.out (by rw [hzl.out]; omega) hlt ?_
  intro v16 u16 o16 hg16
  have hv16 := own_next hg16 o11 hlt
  refine hK.out _ _ (Kb.two hv16 (by omega) (by omega)) ?_
  replace hP := hP.upB (by omega) hv16
  replace hLB := hLB.upB (Nat.lt_succ_self _) hv16
  replace hw := hw.trans (hv16.mono (by omega))
  clear hK K hv16 hg16 hlt o11
  try simp only [Act.put, List.setIfInBounds_toArray, List.set_cons_zero, List.set_cons_succ]
  refine wb_pure (i := 17) (d := some 4) (v := ?_) (by simp only [List.getElem?_toArray, List.getElem?_cons_succ, List.getElem?_cons_zero] <;> rfl) (by rfl) (by kernel_rfl) (by kernel_rfl) (by kernel_rfl) (fun _ _ _ h => h) (by rfl) ?_ ?_
  rotate_left
  · ((intro u); go_simp; try with_reducible rfl)
  try simp only [Act.put, List.setIfInBounds_toArray, List.set_cons_zero, List.set_cons_succ]
  refine wb_done (by kernel_rfl) ?_ _
  skip
  obtain ⟨pt, hpt⟩ : ∃ pt, pt = hz ++ pl := ⟨_, rfl⟩
  rw [← hpt] at o16 hptb hptl ⊢
  try rw [← hpt]
  obtain ⟨g16, c16, rfl, hS16⟩ := o16.form (by have := hptl.out; omega)
  have hmn : Hid (pt.length = sz + n) := hptl
  replace hS16 := Lib.hid hS16
  replace o16 := Lib.hid o16
  replace hpt := Lib.hid hpt
  clear hptl hl hzl wsum hS hA
  go_wp2_with fail
  refine wb_begin ([pb, lb]) [] (by kernel_rfl) (fun u0 hb0' hz0' => ?_)
  replace hP := hP.below hb0'
  replace hLB := hLB.below hb0'
  replace hw := hw.trans (hb0'.mono hw.size)
  replace o16 := Lib.hid (o16.out.below hb0')
  replace hS16 := Lib.hid (hS16.out.below hb0')
  clear hb0' hz0'
  refine wb_pure (i := 0) (d := some 27) (v := ?_) (by simp only [List.getElem?_toArray, List.getElem?_cons_succ, List.getElem?_cons_zero] <;> rfl) (by rfl) (by kernel_rfl) (by kernel_rfl) (by kernel_rfl) (fun _ _ _ h => h) (by rfl) ?_ ?_
  rotate_left
  · ((intro u); go_simp; try with_reducible rfl)
  try simp only [Act.put, List.setIfInBounds_toArray, List.set_cons_zero, List.set_cons_succ]
  refine wb_pure (i := 1) (d := some 28) (v := ?_) (by simp only [List.getElem?_toArray, List.getElem?_cons_succ, List.getElem?_cons_zero] <;> rfl) (by rfl) (by kernel_rfl) (by kernel_rfl) (by kernel_rfl) (fun _ _ _ h => h) (by rfl) ?_ ?_
  rotate_left
  · ((intro u); go_simp; try with_reducible rfl)
  try simp only [Act.put, List.setIfInBounds_toArray, List.set_cons_zero, List.set_cons_succ]
  refine wb_take (i := 2) (d := some 29) (v := ?_) (by simp only [List.getElem?_toArray, List.getElem?_cons_succ, List.getElem?_cons_zero] <;> rfl) (by rfl) (by kernel_rfl) (by kernel_rfl) (by kernel_rfl) (fun _ _ _ h => h) (by rfl) (by kernel_rfl) ?_ ?_
  rotate_left
  · ((intro u hu); have l1 := (hLB.kb hu (by simp)).cell (i := 1) (v := .int .i64 at') rfl; go_simp; try with_reducible rfl)
  try simp only [Act.put, List.setIfInBounds_toArray, List.set_cons_zero, List.set_cons_succ]
  refine wb_pure (i := 3) (d := some 30) (v := ?_) (by simp only [List.getElem?_toArray, List.getElem?_cons_succ, List.getElem?_cons_zero] <;> rfl) (by rfl) (by kernel_rfl) (by kernel_rfl) (by kernel_rfl) (fun _ _ _ h => h) (by rfl) ?_ ?_
  rotate_left
  · ((intro u); go_simp; try with_reducible rfl)
  try simp only [Act.put, List.setIfInBounds_toArray, List.set_cons_zero, List.set_cons_succ]
  refine wb_pure (i := 4) (d := some 31) (v := ?_) (by simp only [List.getElem?_toArray, List.getElem?_cons_succ, List.getElem?_cons_zero] <;> rfl) (by rfl) (by kernel_rfl) (by kernel_rfl) (by kernel_rfl) (fun _ _ _ h => h) (by rfl) ?_ ?_
  rotate_left
  · ((intro u); go_simp; try with_reducible rfl)
  try simp only [Act.put, List.setIfInBounds_toArray, List.set_cons_zero, List.set_cons_succ]
  refine wb_one (i := 5) (by simp only [List.getElem?_toArray, List.getElem?_cons_succ, List.getElem?_cons_zero] <;> rfl) (by kernel_rfl) (by rfl) (fun K hK => ?_)
  go_simp
  have hlt := hLB.lt
  refine (sumOf_any q _ pb _ pt.length c16 pt _ hP hq.out hS16.out (fun h => by cases h) (by have := hmn.out; omega) (by have := hmn.out; omega) hptb.out).mono ?_
  rintro e u5 ⟨rfl, hv5⟩
  refine hK.out _ _ (Kb.two hv5 (by omega) (by omega)) ?_
  replace hP := hP.below hv5
  replace hLB := hLB.below hv5
  replace hw := hw.trans (hv5.mono hw.size)
  replace o16 := Lib.hid (o16.out.below hv5)
  clear hK K hv5 hlt
  try simp only [Act.put, List.setIfInBounds_toArray, List.set_cons_zero, List.set_cons_succ]
  refine wb_one (i := 6) (by simp only [List.getElem?_toArray, List.getElem?_cons_succ, List.getElem?_cons_zero] <;> rfl) (by kernel_rfl) (by rfl) (fun K hK => ?_)
  go_simp
  have hlt := hLB.lt
  refine (putSum_any (lb + 1) g16 c16 pt.length at' pt (sumF q pt) _ o16.out (by have := hmn.out; omega) (sumF_in q pt).1 (sumF_in q pt).2 hlt).mono ?_
  rintro e u6 ⟨rfl, o6, hv6⟩
  refine hK.out _ _ (Kb.two hv6 (by omega) (by omega)) ?_
  replace hw := hw.trans (hv6.mono (by omega))
  clear hK K hv6 hlt
  try simp only [Act.put, List.setIfInBounds_toArray, List.set_cons_zero, List.set_cons_succ]
  refine wb_done (by kernel_rfl) ?_ _
  skip
  go_wp2_with fail
  go_ret
  exact ⟨_, rfl, by first | exact o6.mono (B := w.heap.size) (by omega) | (rw [← hpt.out]; exact o6.mono (B := w.heap.size) (by omega)), hw⟩
theorem cf70 (args : Array Value) (w' : World) : (callFunc 90 args).run Try.prog w' = .ok (.enter 90 args) w' := by go_simp
theorem cf72 (args : Array Value) (w' : World) : (callFunc 92 args).run Try.prog w' = .ok (.enter 92 args) w' := by go_simp
theorem cf74 (args : Array Value) (w' : World) : (callFunc 94 args).run Try.prog w' = .ok (.enter 94 args) w' := by go_simp
end Go.Proofs.Ytigbbpgfblnboaa
