/- Sets: Union, Both, Without, Rest. -/
import Derived.Test.YthjhokicojgpbaaGreatDoorKdSvJ
import Derived.Laws.EntriesVeiled
import Derived.Test.YthjhokicojgpbaaGreatDoorKdSvB
import Derived.Test.YthjhokicojgpbaaGreatDoorKdSuE
namespace Go.Proofs.YthjhokicojgpbaaGreatDoor
open Go.RowKit
set_option linter.unusedVariables false
set_option linter.unusedSimpArgs false

/-- A function of two bools, as a value. -/
abbrev kpV (kf : Nat) : Value := .func (.func kf) #[] #[]
/-- What such a function gives. -/
structure Kp (kf : Nat) (k : Bool → Bool → Bool) : Prop where
  run : ∀ p q W, Calls Tryz.prog kf #[.bool p, .bool q] W (GivesV (.bool (k p q)) W)
  enter : ∀ args w, (callFunc kf args).run Tryz.prog w = .ok (.enter kf args) w

set_option maxRecDepth 100000 in
set_option maxHeartbeats 4000000 in
theorem comb1_any (a : Ad) (ha : a.R) (pk pa pb kf : Nat) (k : Bool → Bool → Bool) (A A' : Option Addr) (n cap n' cap' : Nat) (xs ys : List (Ad × Ad)) (w : World)
    (h1 : Blk w pk [kpV kf] 107) (h2 : Blk w pa [.slice A n cap] 57) (h3 : Blk w pb [.slice A' n' cap'] 57) (HKp : Kp kf k)
    (hS : SlE eRg w A n cap xs) (hS' : SlE eRg w A' n' cap' ys) (hn : n ≤ 100000) (hn' : n' ≤ 100000) (hR : ∀ x ∈ xs, RgR x) (hR' : ∀ x ∈ ys, RgR x) (hp : xs.Pairwise (fun x y => x.2.n + 1 < y.1.n)) (hp' : ys.Pairwise (fun x y => x.2.n + 1 < y.1.n)) :
    Calls Tryz.prog 188 #[adA a, .pointer (some ⟨pk, 0, none⟩), .pointer (some ⟨pa, 0, none⟩), .pointer (some ⟨pb, 0, none⟩)] w (GivesV (.bool (k (hasB xs a.n) (hasB ys a.n))) w) := by
  have HA := fun W hW => has_any A n cap xs W (hS.below hW) hn hR hp a ha.1
  have HB := fun W hW => has_any A' n' cap' ys W (hS'.below hW) hn' hR' hp' a ha.1
  obtain ⟨p, hpp⟩ : ∃ p, p = hasB xs a.n := ⟨_, rfl⟩
  obtain ⟨q, hqq⟩ : ∃ q, q = hasB ys a.n := ⟨_, rfl⟩
  rw [← hpp] at HA ⊢
  rw [← hqq] at HB ⊢
  clear hpp hqq hS hS' hR hR' hp hp' ha
  have HK := HKp.run
  have eg := HKp.enter
  have hC := Blk.new w (adC a) 28
  have hbw : Below w.heap.size w (w.alloc (.cells (adC a).toArray 28)) := (Below.refl _ _).alloc (Nat.le_refl _) _
  replace h1 := Blk.below h1 hbw
  replace h2 := Blk.below h2 hbw
  replace h3 := Blk.below h3 hbw
  clear HKp
  replace HA : ∀ W, Below w.heap.size w W → Calls Tryz.prog 189 #[.slice A n cap, adA a] W (GivesV (.bool p) W) := HA
  replace HB : ∀ W, Below w.heap.size w W → Calls Tryz.prog 189 #[.slice A' n' cap', adA a] W (GivesV (.bool q) W) := HB
  go_enter Tryz.func188, Tryz.ntmps188
  go_upto_region 1 with fail
  generalize w.alloc (.cells (adC a).toArray 28) = w0 at *
  refine wx_begin (none) [] (by kernel_rfl) (fun u0 hb0' hz0' => ?_)
  replace hC := hC.below hb0'
  replace h1 := h1.below hb0'
  replace h2 := h2.below hb0'
  replace h3 := h3.below hb0'
  replace hbw := hbw.trans (hb0'.mono hbw.size)
  clear hb0' hz0'
  refine wx_take (i := 0) (d := some 6) (v := ?_) (by simp only [List.getElem?_toArray, List.getElem?_cons_succ, List.getElem?_cons_zero] <;> rfl) (by rfl) (by kernel_rfl) (by kernel_rfl) (by kernel_rfl) (fun _ _ _ h => h) (by rfl) (by kernel_rfl) ?_ ?_
  rotate_left
  · ((intro u hu); have k1 := (hC.gn hu).ld rowAd rfl; have q1 := (h1.gn hu).cell (i := 0) rfl; have q2 := (h2.gn hu).cell (i := 0) rfl; have q3 := (h3.gn hu).cell (i := 0) rfl; go_simp; try with_reducible rfl)
  try simp only [Act.put, List.setIfInBounds_toArray, List.set_cons_zero, List.set_cons_succ]
  refine wx_take (i := 1) (d := some 7) (v := ?_) (by simp only [List.getElem?_toArray, List.getElem?_cons_succ, List.getElem?_cons_zero] <;> rfl) (by rfl) (by kernel_rfl) (by kernel_rfl) (by kernel_rfl) (fun _ _ _ h => h) (by rfl) (by kernel_rfl) ?_ ?_
  rotate_left
  · ((intro u hu); have k1 := (hC.gn hu).ld rowAd rfl; have q1 := (h1.gn hu).cell (i := 0) rfl; have q2 := (h2.gn hu).cell (i := 0) rfl; have q3 := (h3.gn hu).cell (i := 0) rfl; go_simp; try with_reducible rfl)
  try simp only [Act.put, List.setIfInBounds_toArray, List.set_cons_zero, List.set_cons_succ]
  refine wx_take (i := 2) (d := some 8) (v := ?_) (by simp only [List.getElem?_toArray, List.getElem?_cons_succ, List.getElem?_cons_zero] <;> rfl) (by rfl) (by kernel_rfl) (by kernel_rfl) (by kernel_rfl) (fun _ _ _ h => h) (by rfl) (by kernel_rfl) ?_ ?_
  rotate_left
  · ((intro u hu); have k1 := (hC.gn hu).ld rowAd rfl; have q1 := (h1.gn hu).cell (i := 0) rfl; have q2 := (h2.gn hu).cell (i := 0) rfl; have q3 := (h3.gn hu).cell (i := 0) rfl; go_simp; try with_reducible rfl)
  try simp only [Act.put, List.setIfInBounds_toArray, List.set_cons_zero, List.set_cons_succ]
  refine wx_take (i := 4) (d := some 10) (v := ?_) (by simp only [List.getElem?_toArray, List.getElem?_cons_succ, List.getElem?_cons_zero] <;> rfl) (by rfl) (by kernel_rfl) (by kernel_rfl) (by kernel_rfl) (fun _ _ _ h => h) (by rfl) (by kernel_rfl) ?_ ?_
  rotate_left
  · ((intro u hu); have k1 := (hC.gn hu).ld rowAd rfl; have q1 := (h1.gn hu).cell (i := 0) rfl; have q2 := (h2.gn hu).cell (i := 0) rfl; have q3 := (h3.gn hu).cell (i := 0) rfl; go_simp; try with_reducible rfl)
  try simp only [Act.put, List.setIfInBounds_toArray, List.set_cons_zero, List.set_cons_succ]
  refine wx_take (i := 5) (d := some 11) (v := ?_) (by simp only [List.getElem?_toArray, List.getElem?_cons_succ, List.getElem?_cons_zero] <;> rfl) (by rfl) (by kernel_rfl) (by kernel_rfl) (by kernel_rfl) (fun _ _ _ h => h) (by rfl) (by kernel_rfl) ?_ ?_
  rotate_left
  · ((intro u hu); have k1 := (hC.gn hu).ld rowAd rfl; have q1 := (h1.gn hu).cell (i := 0) rfl; have q2 := (h2.gn hu).cell (i := 0) rfl; have q3 := (h3.gn hu).cell (i := 0) rfl; go_simp; try with_reducible rfl)
  try simp only [Act.put, List.setIfInBounds_toArray, List.set_cons_zero, List.set_cons_succ]
  refine wx_one (i := 3) (by simp only [List.getElem?_toArray, List.getElem?_cons_succ, List.getElem?_cons_zero] <;> rfl) (by kernel_rfl) (by rfl) (fun K hK => ?_)
  go_simp
  refine (HA _ hbw).mono ?_
  rintro e u1 ⟨rfl, hv1⟩
  refine hK _ _ (gbB hv1) ?_
  replace hC := hC.below hv1
  replace h1 := h1.below hv1
  replace h2 := h2.below hv1
  replace h3 := h3.below hv1
  replace hbw := hbw.trans (hv1.mono hbw.size)
  clear hK K hv1
  try simp only [Act.put, List.setIfInBounds_toArray, List.set_cons_zero, List.set_cons_succ]
  refine wx_one (i := 6) (by simp only [List.getElem?_toArray, List.getElem?_cons_succ, List.getElem?_cons_zero] <;> rfl) (by kernel_rfl) (by rfl) (fun K hK => ?_)
  go_simp
  refine (HB _ hbw).mono ?_
  rintro e u2 ⟨rfl, hv1⟩
  refine hK _ _ (gbB hv1) ?_
  replace hC := hC.below hv1
  replace h1 := h1.below hv1
  replace h2 := h2.below hv1
  replace h3 := h3.below hv1
  replace hbw := hbw.trans (hv1.mono hbw.size)
  clear hK K hv1
  try simp only [Act.put, List.setIfInBounds_toArray, List.set_cons_zero, List.set_cons_succ]
  refine wx_one (i := 7) (by simp only [List.getElem?_toArray, List.getElem?_cons_succ, List.getElem?_cons_zero] <;> rfl) (by kernel_rfl) (by rfl) (fun K hK => ?_)
  go_simp
  refine (HK _ _ _).mono ?_
  rintro e u3 ⟨rfl, hv1⟩
  refine hK _ _ (gbB hv1) ?_
  replace hC := hC.below hv1
  replace h1 := h1.below hv1
  replace h2 := h2.below hv1
  replace h3 := h3.below hv1
  replace hbw := hbw.trans (hv1.mono hbw.size)
  clear hK K hv1
  try simp only [Act.put, List.setIfInBounds_toArray, List.set_cons_zero, List.set_cons_succ]
  refine wx_pure (i := 8) (d := some 5) (v := ?_) (by simp only [List.getElem?_toArray, List.getElem?_cons_succ, List.getElem?_cons_zero] <;> rfl) (by rfl) (by kernel_rfl) (by kernel_rfl) (by kernel_rfl) (fun _ _ _ h => h) (by rfl) ?_ ?_
  rotate_left
  · ((intro u); go_simp; try with_reducible rfl)
  try simp only [Act.put, List.setIfInBounds_toArray, List.set_cons_zero, List.set_cons_succ]
  refine wx_done (by kernel_rfl) ?_ _
  skip
  go_wp2_with fail
  go_ret
  exact ⟨rfl, hbw⟩
end Go.Proofs.YthjhokicojgpbaaGreatDoor
namespace Go.Proofs.YthjhokicojgpbaaGreatDoor
open Go.RowKit
set_option linter.unusedVariables false
set_option linter.unusedSimpArgs false

set_option maxRecDepth 100000 in
set_option maxHeartbeats 4000000 in
theorem combineS_any (kf : Nat) (k : Bool → Bool → Bool) (HKp : Kp kf k) (A A' : Option Addr) (n cap n' cap' : Nat) (xs ys : List (Ad × Ad)) (w : World)
    (hS : SlE eRg w A n cap xs) (hS' : SlE eRg w A' n' cap' ys) (hn : n ≤ 5000) (hn' : n' ≤ 5000) (hR : ∀ x ∈ xs, RgR x) (hR' : ∀ x ∈ ys, RgR x) (hp : xs.Pairwise (fun x y => x.2.n + 1 < y.1.n)) (hp' : ys.Pairwise (fun x y => x.2.n + 1 < y.1.n)) :
    Calls Tryz.prog 137 #[.slice A n cap, .slice A' n' cap', kpV kf] w fun e w' => ∃ zs, Tells zs (fun m => Val m ∧ k (hasB xs m) (hasB ys m) = true) ∧ zs.length ≤ 2 + 2 * (n + n') ∧ GivesL eRg w.heap.size zs e w' ∧ Below w.heap.size w w' := by
  have HC := Lib.hid (fun W (hW : Below w.heap.size w W) q (hQ : Blk W q [.slice A n cap, .slice A' n' cap'] 57) => cuts_any q A A' n cap n' cap' xs ys W hQ (hS.below hW) (hS'.below hW) hn hn' hR hR')
  have HO := Lib.hid (fun pk pa pb (a : Ad) W (ha : a.R) (hW : Below w.heap.size w W) h1 h2 h3 => comb1_any a ha pk pa pb kf k A A' n cap n' cap' xs ys W h1 h2 h3 HKp (hS.below hW) (hS'.below hW) (by omega) (by omega) hR hR' hp hp')
  have HW := Lib.hid (fun pk pa pb A2 m cap2 cs W (hSc : SlE eAd W A2 m cap2 cs) (hc : Cut cs) (hm : m ≤ 20010) (c1 : ∀ x ∈ xs ++ ys, ∃ c ∈ cs, c.n = x.1.n) (c2 : ∀ x ∈ xs ++ ys, x.2.n ≠ topN x.2.s → ∃ c ∈ cs, c.n = x.2.n + 1) HF => where_any A2 m cap2 cs W pk pa pb (fun m => k (hasB xs m) (hasB ys m)) hSc hc hm HF (fun i a m hi h1 h2 => by
    show k (hasB xs m) (hasB ys m) = k (hasB xs a.n) (hasB ys a.n)
    rw [cut_same hc hR (fun x hx => c1 x (List.mem_append_left _ hx)) (fun x hx => c2 x (List.mem_append_left _ hx)) hi h1 h2, cut_same hc hR' (fun x hx => c1 x (List.mem_append_right _ hx)) (fun x hx => c2 x (List.mem_append_right _ hx)) hi h1 h2]))
  clear hS hS' hR hR' hp hp' HKp
  have g1 := Blk.new w [.slice A n cap] 57
  have b1 : Below w.heap.size w (w.alloc (.cells [Value.slice A n cap].toArray 57)) := (Below.refl _ _).alloc (Nat.le_refl _) _
  generalize hw1 : w.alloc (.cells [Value.slice A n cap].toArray 57) = w1 at *
  have z1 : w1.heap.size = w.heap.size + 1 := by rw [← hw1]; simp
  have g2 := Blk.new w1 [.slice A' n' cap'] 57
  have b2 := b1.alloc b1.size (.cells [Value.slice A' n' cap'].toArray 57)
  replace g1 := Blk.below g1 ((Below.refl _ _).alloc (Nat.le_refl _) (.cells [Value.slice A' n' cap'].toArray 57))
  generalize hw2 : w1.alloc (.cells [Value.slice A' n' cap'].toArray 57) = w2 at *
  have z2 : w2.heap.size = w.heap.size + 2 := by rw [← hw2]; simp; omega
  have g3 := Blk.new w2 [kpV kf] 107
  have b3 := b2.alloc b2.size (.cells [kpV kf].toArray 107)
  replace g1 := Blk.below g1 ((Below.refl _ _).alloc (Nat.le_refl _) (.cells [kpV kf].toArray 107))
  replace g2 := Blk.below g2 ((Below.refl _ _).alloc (Nat.le_refl _) (.cells [kpV kf].toArray 107))
  rw [z1] at g2
  rw [z2] at g3
  rw [← hw2, ← hw1] at g1 g2 g3 b3
  clear b1 b2 z1 z2 hw1 hw2
  go_enter Tryz.func137, Tryz.ntmps137
  go_upto_region 1 with fail
  generalize ((w.alloc (.cells #[Value.slice A n cap] 57)).alloc (.cells #[Value.slice A' n' cap'] 57)).alloc (.cells #[kpV kf] 107) = W3 at *
  have q1 := g1.cell (i := 0) rfl
  have q2 := g2.cell (i := 0) rfl
  have hz3 := b3.size
  have hQ := Blk.new W3 [.slice A n cap, .slice A' n' cap'] 57
  have b4 := b3.alloc hz3 (.cells [Value.slice A n cap, Value.slice A' n' cap'].toArray 57)
  replace g1 := Blk.below g1 ((Below.refl _ _).alloc (Nat.le_refl _) (.cells [Value.slice A n cap, Value.slice A' n' cap'].toArray 57))
  replace g2 := Blk.below g2 ((Below.refl _ _).alloc (Nat.le_refl _) (.cells [Value.slice A n cap, Value.slice A' n' cap'].toArray 57))
  replace g3 := Blk.below g3 ((Below.refl _ _).alloc (Nat.le_refl _) (.cells [Value.slice A n cap, Value.slice A' n' cap'].toArray 57))
  have HC1 := Lib.hid (HC.out _ b4 _ hQ)
  clear hQ HC
  go_wp2_with fail
  refine HC1.out.mono ?_
  rintro e w5 ⟨g, cap5, cs, rfl, hSc, hcut, c1, c2, hlc, hv5⟩
  have b5 := b4.trans (hv5.mono b4.size)
  replace g1 := Blk.below g1 hv5
  replace g2 := Blk.below g2 hv5
  replace g3 := Blk.below g3 hv5
  have HW1 := Lib.hid (HW.out (w.heap.size + 2) w.heap.size (w.heap.size + 1) _ _ cap5 cs w5 hSc hcut (by omega) c1 c2 (fun a W ha hW => HO.out _ _ _ a W ha (b5.trans (hW.mono b5.size)) (Blk.below g3 hW) (Blk.below g1 hW) (Blk.below g2 hW)))
  clear HC1 HW HO hSc hcut c1 c2 hv5 q1 q2 g1 g2 g3
  generalize cs.length = m at *
  go_wp2_with fail
  refine HW1.out.mono ?_
  rintro e w6 ⟨zs, hz, hlz, ⟨A6, cap6, rfl, hS6, hA6⟩, hv6⟩
  have b6 := b5.trans (hv6.mono b5.size)
  have hz5 := b5.size
  replace hz := Lib.hid hz
  replace hS6 := Lib.hid hS6
  replace hA6 := Lib.hid hA6
  have hl2 := Lib.hid (show zs.length ≤ 2 + 2 * (n + n') by omega)
  clear hlz HW1
  generalize hm : zs.length = m2 at *
  replace hm := Lib.hid hm
  go_wp2_with fail
  go_ret
  exact ⟨zs, hz.out, by rw [hm.out]; exact hl2.out, ⟨A6, cap6, by rw [hm.out]; rfl, by rw [hm.out]; exact hS6.out, fun g off e => ⟨Nat.le_trans hz5 (hA6.out g off e).1, (hA6.out g off e).2⟩⟩, b6⟩
end Go.Proofs.YthjhokicojgpbaaGreatDoor
namespace Go.Proofs.YthjhokicojgpbaaGreatDoor
open Go.RowKit
set_option linter.unusedVariables false
set_option linter.unusedSimpArgs false

/-- What is combined of two sets, as numbers. -/
def CmbP (k : Bool → Bool → Bool) (xs ys : List Pf) (m : Nat) : Prop := Val m ∧ k (hasB (xs.map rgP) m) (hasB (ys.map rgP) m) = true
theorem hasB_joined {za xs : List (Ad × Ad)} (h : Joined za xs) (m : Nat) : hasB za m = hasB xs m := by
  rw [Bool.eq_iff_iff, hasB_iff, hasB_iff]
  exact h.tells.2.1 m

set_option maxRecDepth 100000 in
set_option maxHeartbeats 4000000 in
theorem combine_any (kf : Nat) (k : Bool → Bool → Bool) (HKp : Kp kf k) (A A' : Option Addr) (n cap n' cap' : Nat) (xs ys : List Pf) (w : World)
    (hS : SlE ePf w A n cap xs) (hS' : SlE ePf w A' n' cap' ys) (hn : n ≤ 1000) (hn' : n' ≤ 1000) (hU : ∀ p ∈ xs, p.U) (hU' : ∀ p ∈ ys, p.U) :
    Calls Tryz.prog 91 #[.slice A n cap, .slice A' n' cap', kpV kf] w fun e w' => ∃ A2 cap2 zs, e = .returned (.tuple #[.slice A2 zs.length cap2, .int .i64 (firstZ [setF xs, setF ys])]) ∧ SlE eRg w' A2 zs.length cap2 zs ∧ (firstZ [setF xs, setF ys] = 0 → (∀ p ∈ xs, p.R) ∧ (∀ p ∈ ys, p.R) ∧ Tells zs (CmbP k xs ys)) ∧ (firstZ [setF xs, setF ys] ≠ 0 → zs = []) ∧ zs.length ≤ 2 + 2 * (n + n') ∧ Below w.heap.size w w' := by
  have HC1 := Lib.hid (checkSet_any A n cap xs w hS hn hU)
  have HC2 := Lib.hid (fun W (hW : Below w.heap.size w W) => checkSet_any A' n' cap' ys W (hS'.below hW) hn' hU')
  have HR := Lib.hid (show firstZ [setF xs, setF ys] = 0 → (∀ p ∈ xs, p.R) ∧ (∀ p ∈ ys, p.R) from fun h => ⟨setF_ok hU ((firstZ_both _ _).1 h).1, setF_ok hU' ((firstZ_both _ _).1 h).2⟩)
  have HO1 := Lib.hid (fun W (hW : Below w.heap.size w W) hR => ofP_any A n cap xs W (hS.below hW) (by omega) hR)
  have HO2 := Lib.hid (fun W (hW : Below w.heap.size w W) hR => ofP_any A' n' cap' ys W (hS'.below hW) (by omega) hR)
  have HX := Lib.hid (fun A1 A2 c1 c2 za zb W (h1 : Joined za (xs.map rgP)) (h2 : Joined zb (ys.map rgP)) (l1 : za.length ≤ n) (l2 : zb.length ≤ n') s1 s2 => combineS_any kf k HKp A1 A2 za.length c1 zb.length c2 za zb W s1 s2 (by omega) (by omega) h1.2.2 h2.2.2 h1.tells.1 h2.tells.1)
  clear hS hS' hU hU' HKp
  obtain ⟨E1, hE1⟩ : ∃ E, E = setF xs := ⟨_, rfl⟩
  obtain ⟨E2, hE2⟩ : ∃ E, E = setF ys := ⟨_, rfl⟩
  rw [← hE1] at HC1 HR ⊢
  rw [← hE2] at HC2 HR ⊢
  clear hE1 hE2
  obtain ⟨E, hE⟩ : ∃ E, E = firstZ [E1, E2] := ⟨_, rfl⟩
  rw [← hE] at HR ⊢
  replace hE := Lib.hid hE
  go_enter Tryz.func91, Tryz.ntmps91
  go_wp2_with fail
  refine HC1.out.mono ?_
  rintro e w1 ⟨rfl, b1⟩
  go_wp2_with fail
  refine (HC2.out _ b1).mono ?_
  rintro e w2 ⟨rfl, hv2⟩
  have b2 := b1.trans (hv2.mono b1.size)
  have hz2 := b2.size
  have hN := Blk.new w2 ([E1, E2].map (Value.int .i64)) 30
  have b3 := b2.alloc hz2 (.cells ([E1, E2].map (Value.int .i64)).toArray 30)
  have HE := Lib.hid (orE_blk [E1, E2] _ 2 _ _ hN (by simp))
  rw [← hE.out] at HE
  clear hN HC1 HC2 b1 hv2 b2
  go_wp2_with fail
  refine HE.out.mono ?_
  rintro e w3 ⟨rfl, rfl⟩
  by_cases hE0 : E = 0
  · have b0 : (E == 0) = true := by simp [hE0]
    have hE1 := Lib.hid hE0
    obtain ⟨hRx, hRy⟩ := HR.out hE0
    clear hE0
    have HO1' := Lib.hid (HO1.out _ b3 hRx)
    replace hRx := Lib.hid hRx
    replace hRy := Lib.hid hRy
    clear HR HE HO1
    go_wp2_with fail
    refine HO1'.out.mono ?_
    rintro e w4 ⟨za, hja, hla, ⟨A4, c4, rfl, hS4, _⟩, hv4⟩
    have b4 := b3.trans (hv4.mono b3.size)
    have HO2' := Lib.hid (HO2.out _ b4 hRy.out)
    clear HO1' HO2 hv4 b3
    replace hS4 := Lib.hid hS4
    replace hja := Lib.hid hja
    replace hla := Lib.hid hla
    obtain ⟨la, hlae⟩ : ∃ m, m = za.length := ⟨_, rfl⟩
    rw [← hlae] at hS4 ⊢
    replace hlae := Lib.hid hlae
    go_wp2_with fail
    refine HO2'.out.mono ?_
    rintro e w5 ⟨zb, hjb, hlb, ⟨A5, c5, rfl, hS5, _⟩, hv5⟩
    have b5 := b4.trans (hv5.mono b4.size)
    have HX' := Lib.hid (HX.out A4 A5 c4 c5 za zb w5 hja.out hjb hla.out hlb (by rw [← hlae.out]; exact hS4.out.below hv5) hS5)
    have hpe : ∀ m, (Val m ∧ k (hasB za m) (hasB zb m) = true) ↔ CmbP k xs ys m := fun m => by
      unfold CmbP
      rw [hasB_joined hja.out, hasB_joined hjb]
    replace hpe := Lib.hid hpe
    have hll := Lib.hid (show 2 + 2 * (za.length + zb.length) ≤ 2 + 2 * (n + n') by have := hla.out; omega)
    rw [← hlae.out] at HX'
    clear HO2' HX hv5 hS5 hS4 b4 hjb hlb hja hla
    obtain ⟨lb, hlbe⟩ : ∃ m, m = zb.length := ⟨_, rfl⟩
    rw [← hlbe] at HX' ⊢
    replace hlbe := Lib.hid hlbe
    go_wp2_with fail
    refine HX'.out.mono ?_
    rintro e w6 ⟨zs, hz, hlz, ⟨A6, cap6, rfl, hS6, hA6⟩, hv6⟩
    have b6 := b5.trans (hv6.mono b5.size)
    have hfin := Lib.hid (show Tells zs (CmbP k xs ys) from hz.iff hpe.out)
    have hl2 := Lib.hid (show zs.length ≤ 2 + 2 * (n + n') by have := hll.out; have := hlae.out; have := hlbe.out; omega)
    replace hS6 := Lib.hid hS6
    clear HX' hz hlz hv6 hA6
    generalize hm : zs.length = m2 at *
    replace hm := Lib.hid hm
    go_wp2_with fail
    go_ret2
    exact ⟨A6, cap6, zs, by rw [hm.out, hE1.out]; rfl, by rw [hm.out]; exact hS6.out, fun _ => ⟨hRx.out, hRy.out, hfin.out⟩, fun h => absurd hE1.out h, by rw [hm.out]; exact hl2.out, b6⟩
  · have b0 : (E == 0) = false := by simp [hE0]
    have hE1 := Lib.hid hE0
    clear hE0 HR HE HO1 HO2 HX
    go_wp2_with fail
    go_ret2
    exact ⟨none, 0, [], rfl, SlE.nil _, fun h => absurd h hE1.out, fun _ => rfl, Nat.zero_le _, b3⟩

/-- A set that is combined of two. -/
def CmbS (k : Bool → Bool → Bool) (xs ys : List Pf) (ps : List Pf) : Prop := (∀ p ∈ xs, p.R) ∧ (∀ p ∈ ys, p.R) ∧ ∃ zs, Tells zs (CmbP k xs ys) ∧ ps = pfsOf (zs.map rowA)
set_option maxRecDepth 100000 in
set_option maxHeartbeats 4000000 in
theorem combined_any (kf : Nat) (k : Bool → Bool → Bool) (HKp : Kp kf k) (A A' : Option Addr) (n cap n' cap' : Nat) (xs ys : List Pf) (w : World)
    (hS : SlE ePf w A n cap xs) (hS' : SlE ePf w A' n' cap' ys) (hn : n ≤ 1000) (hn' : n' ≤ 1000) (hU : ∀ p ∈ xs, p.U) (hU' : ∀ p ∈ ys, p.U) (hT : Tz w)
    (hN : (∀ p ∈ xs, p.R) → (∀ p ∈ ys, p.R) → ∀ zs, Tells zs (CmbP k xs ys) → (pfsOf (zs.map rowA)).length ≤ 1000) :
    Calls Tryz.prog 83 #[.slice A n cap, .slice A' n' cap', kpV kf] w (GivesS (firstZ [setF xs, setF ys]) (CmbS k xs ys) w) := by
  have HC := Lib.hid (combine_any kf k HKp A A' n cap n' cap' xs ys w hS hS' hn hn' hU hU')
  replace hN := Lib.hid hN
  have hT1 : Hid (∀ W, Below w.heap.size w W → Tz W) := Lib.hid fun W h => hT.below h
  clear hS hS' hU hU' HKp hT
  generalize firstZ [setF xs, setF ys] = E at *
  go_enter Tryz.func83, Tryz.ntmps83
  go_wp2_with fail
  refine HC.out.mono ?_
  rintro e w1 ⟨A2, cap2, zs, rfl, hS2, h1, h2, hlz, b1⟩
  clear HC
  by_cases hE0 : E = 0
  · have b0 : (E == 0) = true := by simp [hE0]
    have hE1 := Lib.hid hE0
    obtain ⟨hRx, hRy, hz⟩ := h1 hE0
    clear hE0
    have HO := Lib.hid (setOf_any A2 zs.length cap2 zs w1 hS2 (by omega) hz.2.2 (hT1.out _ b1) (hN.out hRx hRy zs hz))
    have hfin := Lib.hid (show CmbS k xs ys (pfsOf (zs.map rowA)) from ⟨hRx, hRy, zs, hz, rfl⟩)
    clear h1 h2 hS2 hRx hRy hz hlz
    generalize zs.length = m at *
    go_wp2_with fail
    refine HO.out.mono ?_
    rintro e w6 ⟨⟨v, rfl, ho⟩, hv1⟩
    have hz5 := b1.size
    have b6 := b1.trans (hv1.mono hz5)
    clear HO hv1
    go_wp2_with fail
    go_ret2
    exact ⟨v, _, by rw [hE1.out]; rfl, OwnE.mono ho hz5, fun _ => hfin.out, fun h => absurd hE1.out h, b6⟩
  · have b0 : (E == 0) = false := by simp [hE0]
    have hE1 := Lib.hid hE0
    clear hE0 h1 h2 hS2
    generalize zs.length = m at *
    go_wp2_with fail
    go_ret2
    exact ⟨_, [], rfl, OwnE.nil _ _, fun h => absurd h hE1.out, fun _ => rfl, b1⟩

theorem kp_union : Kp 84 (fun p q => p || q) where
  run := fun p q W => by
    cases p <;> cases q
    all_goals
      go_enter Tryz.func84, Tryz.ntmps84
      go_wp2_with fail
      go_ret
      exact ⟨rfl, Below.refl _ _⟩
  enter := enters_of Tryz.func84 (by kernel_rfl) rfl

theorem kp_both : Kp 85 (fun p q => p && q) where
  run := fun p q W => by
    cases p <;> cases q
    all_goals
      go_enter Tryz.func85, Tryz.ntmps85
      go_wp2_with fail
      go_ret
      exact ⟨rfl, Below.refl _ _⟩
  enter := enters_of Tryz.func85 (by kernel_rfl) rfl

theorem kp_without : Kp 86 (fun p q => p && !q) where
  run := fun p q W => by
    cases p <;> cases q
    all_goals
      go_enter Tryz.func86, Tryz.ntmps86
      go_wp2_with fail
      go_ret
      exact ⟨rfl, Below.refl _ _⟩
  enter := enters_of Tryz.func86 (by kernel_rfl) rfl

theorem kp_rest : Kp 87 (fun p q => !p) where
  run := fun p q W => by
    cases p <;> cases q
    all_goals
      go_enter Tryz.func87, Tryz.ntmps87
      go_wp2_with fail
      go_ret
      exact ⟨rfl, Below.refl _ _⟩
  enter := enters_of Tryz.func87 (by kernel_rfl) rfl

set_option maxRecDepth 100000 in
theorem union_any (A A' : Option Addr) (n cap n' cap' : Nat) (xs ys : List Pf) (w : World) (hS : SlE ePf w A n cap xs) (hS' : SlE ePf w A' n' cap' ys) (hn : n ≤ 1000) (hn' : n' ≤ 1000) (hU : ∀ p ∈ xs, p.U) (hU' : ∀ p ∈ ys, p.U) (hT : Tz w)
    (hN : (∀ p ∈ xs, p.R) → (∀ p ∈ ys, p.R) → ∀ zs, Tells zs (CmbP (fun p q => p || q) xs ys) → (pfsOf (zs.map rowA)).length ≤ 1000) :
    Calls Tryz.prog 41 #[.slice A n cap, .slice A' n' cap'] w (GivesS (firstZ [setF xs, setF ys]) (CmbS (fun p q => p || q) xs ys) w) := by
  have H := Lib.hid (combined_any _ _ kp_union A A' n cap n' cap' xs ys w hS hS' hn hn' hU hU' hT hN)
  clear hS hS' hU hU' hN hT
  generalize firstZ [setF xs, setF ys] = E at *
  go_enter Tryz.func41, Tryz.ntmps41
  go_wp2_with fail
  refine H.out.mono ?_
  rintro e w1 ⟨v, ps, rfl, ho, h1, h2, hb⟩
  replace h1 := Lib.hid h1
  replace h2 := Lib.hid h2
  clear H
  go_wp2_with fail
  go_ret2
  exact ⟨v, ps, rfl, ho, h1.out, h2.out, hb⟩

set_option maxRecDepth 100000 in
theorem both_any (A A' : Option Addr) (n cap n' cap' : Nat) (xs ys : List Pf) (w : World) (hS : SlE ePf w A n cap xs) (hS' : SlE ePf w A' n' cap' ys) (hn : n ≤ 1000) (hn' : n' ≤ 1000) (hU : ∀ p ∈ xs, p.U) (hU' : ∀ p ∈ ys, p.U) (hT : Tz w)
    (hN : (∀ p ∈ xs, p.R) → (∀ p ∈ ys, p.R) → ∀ zs, Tells zs (CmbP (fun p q => p && q) xs ys) → (pfsOf (zs.map rowA)).length ≤ 1000) :
    Calls Tryz.prog 42 #[.slice A n cap, .slice A' n' cap'] w (GivesS (firstZ [setF xs, setF ys]) (CmbS (fun p q => p && q) xs ys) w) := by
  have H := Lib.hid (combined_any _ _ kp_both A A' n cap n' cap' xs ys w hS hS' hn hn' hU hU' hT hN)
  clear hS hS' hU hU' hN hT
  generalize firstZ [setF xs, setF ys] = E at *
  go_enter Tryz.func42, Tryz.ntmps42
  go_wp2_with fail
  refine H.out.mono ?_
  rintro e w1 ⟨v, ps, rfl, ho, h1, h2, hb⟩
  replace h1 := Lib.hid h1
  replace h2 := Lib.hid h2
  clear H
  go_wp2_with fail
  go_ret2
  exact ⟨v, ps, rfl, ho, h1.out, h2.out, hb⟩

set_option maxRecDepth 100000 in
theorem without_any (A A' : Option Addr) (n cap n' cap' : Nat) (xs ys : List Pf) (w : World) (hS : SlE ePf w A n cap xs) (hS' : SlE ePf w A' n' cap' ys) (hn : n ≤ 1000) (hn' : n' ≤ 1000) (hU : ∀ p ∈ xs, p.U) (hU' : ∀ p ∈ ys, p.U) (hT : Tz w)
    (hN : (∀ p ∈ xs, p.R) → (∀ p ∈ ys, p.R) → ∀ zs, Tells zs (CmbP (fun p q => p && !q) xs ys) → (pfsOf (zs.map rowA)).length ≤ 1000) :
    Calls Tryz.prog 43 #[.slice A n cap, .slice A' n' cap'] w (GivesS (firstZ [setF xs, setF ys]) (CmbS (fun p q => p && !q) xs ys) w) := by
  have H := Lib.hid (combined_any _ _ kp_without A A' n cap n' cap' xs ys w hS hS' hn hn' hU hU' hT hN)
  clear hS hS' hU hU' hN hT
  generalize firstZ [setF xs, setF ys] = E at *
  go_enter Tryz.func43, Tryz.ntmps43
  go_wp2_with fail
  refine H.out.mono ?_
  rintro e w1 ⟨v, ps, rfl, ho, h1, h2, hb⟩
  replace h1 := Lib.hid h1
  replace h2 := Lib.hid h2
  clear H
  go_wp2_with fail
  go_ret2
  exact ⟨v, ps, rfl, ho, h1.out, h2.out, hb⟩

set_option maxRecDepth 100000 in
theorem rest_any (A : Option Addr) (n cap : Nat) (xs : List Pf) (w : World) (hS : SlE ePf w A n cap xs) (hn : n ≤ 1000) (hU : ∀ p ∈ xs, p.U) (hT : Tz w)
    (hN : (∀ p ∈ xs, p.R) → ∀ zs, Tells zs (CmbP (fun p q => !p) xs []) → (pfsOf (zs.map rowA)).length ≤ 1000) :
    Calls Tryz.prog 44 #[.slice A n cap] w (GivesS (firstZ [setF xs, setF []]) (CmbS (fun p q => !p) xs []) w) := by
  have H := Lib.hid (combined_any _ _ kp_rest A none n cap 0 0 xs [] w hS (SlE.nil _) hn (by omega) hU (fun p hp => by cases hp) hT (fun a _ => hN a))
  clear hS hU hN hT
  generalize firstZ [setF xs, setF []] = E at *
  go_enter Tryz.func44, Tryz.ntmps44
  go_wp2_with fail
  refine H.out.mono ?_
  rintro e w1 ⟨v, ps, rfl, ho, h1, h2, hb⟩
  replace h1 := Lib.hid h1
  replace h2 := Lib.hid h2
  clear H
  go_wp2_with fail
  go_ret2
  exact ⟨v, ps, rfl, ho, h1.out, h2.out, hb⟩
end Go.Proofs.YthjhokicojgpbaaGreatDoor
