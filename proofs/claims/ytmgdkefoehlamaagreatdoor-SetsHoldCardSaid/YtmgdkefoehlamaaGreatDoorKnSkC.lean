/- Sets hold: the closure that asks for an address. -/
import Derived.Test.YtmgdkefoehlamaaGreatDoorKnGzA
import Derived.Test.YtmgdkefoehlamaaGreatDoorKnSvJ
import Derived.Laws.EntriesVeiled
import Derived.Test.YtmgdkefoehlamaaGreatDoorKnSvB
import Derived.Test.YtmgdkefoehlamaaGreatDoorKnSuD
import Derived.Test.YtmgdkefoehlamaaGreatDoorKnStT
import Derived.Test.YtmgdkefoehlamaaGreatDoorKnWaysB
import Derived.Lib.AppendZerosOnto
import Derived.Laws.AppendOwnNone
import Derived.Test.YtmgdkefoehlamaaGreatDoorKnTxtJ
import Derived.Test.YtmgdkefoehlamaaGreatDoorKnSuA
import Derived.Test.YtmgdkefoehlamaaGreatDoorKnRuD
namespace Go.Proofs.YtmgdkefoehlamaaGreatDoor
open Go.RowKit
set_option linter.unusedVariables false
set_option linter.unusedSimpArgs false

abbrev kpV (kf : Nat) : Value := .func (.func kf) #[] #[]
structure Kp (kf : Nat) (k : Bool → Bool → Bool) : Prop where
  run : ∀ p q W, Calls Tryz.prog kf #[.bool p, .bool q] W (GivesV (.bool (k p q)) W)
  enter : ∀ args w, (callFunc kf args).run Tryz.prog w = .ok (.enter kf args) w

set_option maxRecDepth 100000 in
set_option maxHeartbeats 4000000 in
theorem comb1_any (a : Ad) (ha : a.R) (pk pa pb kf : Nat) (k : Bool → Bool → Bool) (A A' : Option Addr) (n cap n' cap' : Nat) (xs ys : List (Ad × Ad)) (w : World)
    (h1 : Blk w pk [kpV kf] 59) (h2 : Blk w pa [.slice A n cap] 49) (h3 : Blk w pb [.slice A' n' cap'] 49) (HKp : Kp kf k)
    (hS : SlE eRg w A n cap xs) (hS' : SlE eRg w A' n' cap' ys) (hn : n ≤ 100000) (hn' : n' ≤ 100000) (hR : ∀ x ∈ xs, RgR x) (hR' : ∀ x ∈ ys, RgR x) (hp : xs.Pairwise (fun x y => x.2.n + 1 < y.1.n)) (hp' : ys.Pairwise (fun x y => x.2.n + 1 < y.1.n)) :
    Calls Tryz.prog 157 #[adA a, .pointer (some ⟨pk, 0, none⟩), .pointer (some ⟨pa, 0, none⟩), .pointer (some ⟨pb, 0, none⟩)] w (GivesV (.bool (k (hasB xs a.n) (hasB ys a.n))) w) := by
  have HA := fun W hW => has_any A n cap xs W (hS.below hW) hn hR hp a ha.1
  have HB := fun W hW => has_any A' n' cap' ys W (hS'.below hW) hn' hR' hp' a ha.1
  obtain ⟨p, hpp⟩ : ∃ p, p = hasB xs a.n := ⟨_, rfl⟩
  obtain ⟨q, hqq⟩ : ∃ q, q = hasB ys a.n := ⟨_, rfl⟩
  rw [← hpp] at HA ⊢
  rw [← hqq] at HB ⊢
  clear hpp hqq hS hS' hR hR' hp hp' ha
  have HK := HKp.run
  have eg := HKp.enter
  have hC := Blk.new w (adC a) 38
  have hbw : Below w.heap.size w (w.alloc (.cells (adC a).toArray 38)) := (Below.refl _ _).alloc (Nat.le_refl _) _
  replace h1 := Blk.below h1 hbw
  replace h2 := Blk.below h2 hbw
  replace h3 := Blk.below h3 hbw
  clear HKp
  replace HA : ∀ W, Below w.heap.size w W → Calls Tryz.prog 158 #[.slice A n cap, adA a] W (GivesV (.bool p) W) := HA
  replace HB : ∀ W, Below w.heap.size w W → Calls Tryz.prog 158 #[.slice A' n' cap', adA a] W (GivesV (.bool q) W) := HB
  go_enter Tryz.func157, Tryz.ntmps157
  go_upto_region 1 with fail
  generalize w.alloc (.cells (adC a).toArray 38) = w0 at *
  refine wx_begin (none) [] (by kernel_rfl) (fun u0 hb0' hz0' => ?_)
  replace hC := hC.below hb0'
  replace h1 := h1.below hb0'
  replace h2 := h2.below hb0'
  replace h3 := h3.below hb0'
  replace hbw := hbw.trans (hb0'.mono hbw.size)
  clear hb0' hz0'
  refine wx_take (i := 0) (d := some 6) (v := ?_) (by simp only [gzA, gzB, gzC] <;> rfl) (by rfl) (by kernel_rfl) (by kernel_rfl) (by kernel_rfl) (fun _ _ _ h => h) (by rfl) (by kernel_rfl) ?_ ?_
  rotate_left
  · ((intro u hu); have k1 := (hC.gn hu).ld rowAd rfl; have q1 := (h1.gn hu).cell (i := 0) rfl; have q2 := (h2.gn hu).cell (i := 0) rfl; have q3 := (h3.gn hu).cell (i := 0) rfl; go_simp; try with_reducible rfl)
  try simp only [Act.put, gzD, gzE, gzF]
  refine wx_take (i := 1) (d := some 7) (v := ?_) (by simp only [gzA, gzB, gzC] <;> rfl) (by rfl) (by kernel_rfl) (by kernel_rfl) (by kernel_rfl) (fun _ _ _ h => h) (by rfl) (by kernel_rfl) ?_ ?_
  rotate_left
  · ((intro u hu); have k1 := (hC.gn hu).ld rowAd rfl; have q1 := (h1.gn hu).cell (i := 0) rfl; have q2 := (h2.gn hu).cell (i := 0) rfl; have q3 := (h3.gn hu).cell (i := 0) rfl; go_simp; try with_reducible rfl)
  try simp only [Act.put, gzD, gzE, gzF]
  refine wx_take (i := 2) (d := some 8) (v := ?_) (by simp only [gzA, gzB, gzC] <;> rfl) (by rfl) (by kernel_rfl) (by kernel_rfl) (by kernel_rfl) (fun _ _ _ h => h) (by rfl) (by kernel_rfl) ?_ ?_
  rotate_left
  · ((intro u hu); have k1 := (hC.gn hu).ld rowAd rfl; have q1 := (h1.gn hu).cell (i := 0) rfl; have q2 := (h2.gn hu).cell (i := 0) rfl; have q3 := (h3.gn hu).cell (i := 0) rfl; go_simp; try with_reducible rfl)
  try simp only [Act.put, gzD, gzE, gzF]
  refine wx_take (i := 4) (d := some 10) (v := ?_) (by simp only [gzA, gzB, gzC] <;> rfl) (by rfl) (by kernel_rfl) (by kernel_rfl) (by kernel_rfl) (fun _ _ _ h => h) (by rfl) (by kernel_rfl) ?_ ?_
  rotate_left
  · ((intro u hu); have k1 := (hC.gn hu).ld rowAd rfl; have q1 := (h1.gn hu).cell (i := 0) rfl; have q2 := (h2.gn hu).cell (i := 0) rfl; have q3 := (h3.gn hu).cell (i := 0) rfl; go_simp; try with_reducible rfl)
  try simp only [Act.put, gzD, gzE, gzF]
  refine wx_take (i := 5) (d := some 11) (v := ?_) (by simp only [gzA, gzB, gzC] <;> rfl) (by rfl) (by kernel_rfl) (by kernel_rfl) (by kernel_rfl) (fun _ _ _ h => h) (by rfl) (by kernel_rfl) ?_ ?_
  rotate_left
  · ((intro u hu); have k1 := (hC.gn hu).ld rowAd rfl; have q1 := (h1.gn hu).cell (i := 0) rfl; have q2 := (h2.gn hu).cell (i := 0) rfl; have q3 := (h3.gn hu).cell (i := 0) rfl; go_simp; try with_reducible rfl)
  try simp only [Act.put, gzD, gzE, gzF]
  refine wx_one (i := 3) (by simp only [gzA, gzB, gzC] <;> rfl) (by kernel_rfl) (by rfl) (fun K hK => ?_)
  go_simp
  refine (HA _ hbw).mono ?_
  rintro e u1 ⟨rfl, hv1⟩
  refine hK _ _ (gbB hv1) ?_
  replace hC := hC.below hv1
  replace h1 := h1.below hv1
  replace h2 := h2.below hv1
  replace h3 := h3.below hv1
  replace hbw := hbw.trans (hv1.mono hbw.size)
  clear hK K hv1
  try simp only [Act.put, gzD, gzE, gzF]
  refine wx_one (i := 6) (by simp only [gzA, gzB, gzC] <;> rfl) (by kernel_rfl) (by rfl) (fun K hK => ?_)
  go_simp
  refine (HB _ hbw).mono ?_
  rintro e u2 ⟨rfl, hv1⟩
  refine hK _ _ (gbB hv1) ?_
  replace hC := hC.below hv1
  replace h1 := h1.below hv1
  replace h2 := h2.below hv1
  replace h3 := h3.below hv1
  replace hbw := hbw.trans (hv1.mono hbw.size)
  clear hK K hv1
  try simp only [Act.put, gzD, gzE, gzF]
  refine wx_one (i := 7) (by simp only [gzA, gzB, gzC] <;> rfl) (by kernel_rfl) (by rfl) (fun K hK => ?_)
  go_simp
  refine (HK _ _ _).mono ?_
  rintro e u3 ⟨rfl, hv1⟩
  refine hK _ _ (gbB hv1) ?_
  replace hC := hC.below hv1
  replace h1 := h1.below hv1
  replace h2 := h2.below hv1
  replace h3 := h3.below hv1
  replace hbw := hbw.trans (hv1.mono hbw.size)
  clear hK K hv1
  try simp only [Act.put, gzD, gzE, gzF]
  refine wx_pure (i := 8) (d := some 5) (v := ?_) (by simp only [gzA, gzB, gzC] <;> rfl) (by rfl) (by kernel_rfl) (by kernel_rfl) (by kernel_rfl) (fun _ _ _ h => h) (by rfl) ?_ ?_
  rotate_left
  · ((intro u); go_simp; try with_reducible rfl)
  try simp only [Act.put, gzD, gzE, gzF]
  refine wx_done (by kernel_rfl) ?_ _
  skip
  go_wp2_with fail
  go_ret
  exact ⟨rfl, hbw⟩
end Go.Proofs.YtmgdkefoehlamaaGreatDoor
namespace Go.Proofs.YtmgdkefoehlamaaGreatDoor
open Go.RowKit
set_option linter.unusedVariables false
set_option linter.unusedSimpArgs false

set_option maxRecDepth 100000 in
set_option maxHeartbeats 4000000 in
theorem combineS_any (kf : Nat) (k : Bool → Bool → Bool) (HKp : Kp kf k) (A A' : Option Addr) (n cap n' cap' : Nat) (xs ys : List (Ad × Ad)) (w : World)
    (hS : SlE eRg w A n cap xs) (hS' : SlE eRg w A' n' cap' ys) (hn : n ≤ 5000) (hn' : n' ≤ 5000) (hR : ∀ x ∈ xs, RgR x) (hR' : ∀ x ∈ ys, RgR x) (hp : xs.Pairwise (fun x y => x.2.n + 1 < y.1.n)) (hp' : ys.Pairwise (fun x y => x.2.n + 1 < y.1.n)) :
    Calls Tryz.prog 84 #[.slice A n cap, .slice A' n' cap', kpV kf] w fun e w' => ∃ zs, Tells zs (fun m => Val m ∧ k (hasB xs m) (hasB ys m) = true) ∧ zs.length ≤ 2 + 2 * (n + n') ∧ GivesL eRg w.heap.size zs e w' ∧ Below w.heap.size w w' := by
  have HC := Lib.hid (fun W (hW : Below w.heap.size w W) q (hQ : Blk W q [.slice A n cap, .slice A' n' cap'] 49) => cuts_any q A A' n cap n' cap' xs ys W hQ (hS.below hW) (hS'.below hW) hn hn' hR hR')
  have HO := Lib.hid (fun pk pa pb (a : Ad) W (ha : a.R) (hW : Below w.heap.size w W) h1 h2 h3 => comb1_any a ha pk pa pb kf k A A' n cap n' cap' xs ys W h1 h2 h3 HKp (hS.below hW) (hS'.below hW) (by omega) (by omega) hR hR' hp hp')
  have HW := Lib.hid (fun pk pa pb A2 m cap2 cs W (hSc : SlE eAd W A2 m cap2 cs) (hc : Cut cs) (hm : m ≤ 20010) (c1 : ∀ x ∈ xs ++ ys, ∃ c ∈ cs, c.n = x.1.n) (c2 : ∀ x ∈ xs ++ ys, x.2.n ≠ topN x.2.s → ∃ c ∈ cs, c.n = x.2.n + 1) HF => where_any A2 m cap2 cs W pk pa pb (fun m => k (hasB xs m) (hasB ys m)) hSc hc hm HF (fun i a m hi h1 h2 => by
    show k (hasB xs m) (hasB ys m) = k (hasB xs a.n) (hasB ys a.n)
    rw [cut_same hc hR (fun x hx => c1 x (List.mem_append_left _ hx)) (fun x hx => c2 x (List.mem_append_left _ hx)) hi h1 h2, cut_same hc hR' (fun x hx => c1 x (List.mem_append_right _ hx)) (fun x hx => c2 x (List.mem_append_right _ hx)) hi h1 h2]))
  clear hS hS' hR hR' hp hp' HKp
  have g1 := Blk.new w [.slice A n cap] 49
  have b1 : Below w.heap.size w (w.alloc (.cells [Value.slice A n cap].toArray 49)) := (Below.refl _ _).alloc (Nat.le_refl _) _
  generalize hw1 : w.alloc (.cells [Value.slice A n cap].toArray 49) = w1 at *
  have z1 : w1.heap.size = w.heap.size + 1 := by rw [← hw1]; simp
  have g2 := Blk.new w1 [.slice A' n' cap'] 49
  have b2 := b1.alloc b1.size (.cells [Value.slice A' n' cap'].toArray 49)
  replace g1 := Blk.below g1 ((Below.refl _ _).alloc (Nat.le_refl _) (.cells [Value.slice A' n' cap'].toArray 49))
  generalize hw2 : w1.alloc (.cells [Value.slice A' n' cap'].toArray 49) = w2 at *
  have z2 : w2.heap.size = w.heap.size + 2 := by rw [← hw2]; simp; omega
  have g3 := Blk.new w2 [kpV kf] 59
  have b3 := b2.alloc b2.size (.cells [kpV kf].toArray 59)
  replace g1 := Blk.below g1 ((Below.refl _ _).alloc (Nat.le_refl _) (.cells [kpV kf].toArray 59))
  replace g2 := Blk.below g2 ((Below.refl _ _).alloc (Nat.le_refl _) (.cells [kpV kf].toArray 59))
  rw [z1] at g2
  rw [z2] at g3
  rw [← hw2, ← hw1] at g1 g2 g3 b3
  clear b1 b2 z1 z2 hw1 hw2
  go_enter Tryz.func84, Tryz.ntmps84
  go_upto_region 1 with fail
  generalize ((w.alloc (.cells #[Value.slice A n cap] 49)).alloc (.cells #[Value.slice A' n' cap'] 49)).alloc (.cells #[kpV kf] 59) = W3 at *
  have q1 := g1.cell (i := 0) rfl
  have q2 := g2.cell (i := 0) rfl
  have hz3 := b3.size
  have hQ := Blk.new W3 [.slice A n cap, .slice A' n' cap'] 49
  have b4 := b3.alloc hz3 (.cells [Value.slice A n cap, Value.slice A' n' cap'].toArray 49)
  replace g1 := Blk.below g1 ((Below.refl _ _).alloc (Nat.le_refl _) (.cells [Value.slice A n cap, Value.slice A' n' cap'].toArray 49))
  replace g2 := Blk.below g2 ((Below.refl _ _).alloc (Nat.le_refl _) (.cells [Value.slice A n cap, Value.slice A' n' cap'].toArray 49))
  replace g3 := Blk.below g3 ((Below.refl _ _).alloc (Nat.le_refl _) (.cells [Value.slice A n cap, Value.slice A' n' cap'].toArray 49))
  have HC1 := Lib.hid (HC.out _ b4 _ hQ)
  clear hQ HC
  go_wp2_with fail
  refine HC1.out.mono ?_
  rintro e w5 ⟨g, cap5, cs, rfl, hSc, hcut, c1, c2, hlc, hv5⟩
  have b5 := b4.trans (hv5.mono b4.size)
  replace g1 := Blk.below g1 hv5
  replace g2 := Blk.below g2 hv5
  replace g3 := Blk.below g3 hv5
  have HW1 := Lib.hid (HW.out (w.heap.size + 2) w.heap.size (w.heap.size + 1) _ _ cap5 cs w5 hSc hcut (by omega) c1 c2 (fun a W ha hW => HO.out _ _ _ a W ha (b5.trans (hW.mono b5.size)) (Blk.below g3 hW) (Blk.below g1 hW) (Blk.below g2 hW)))
  clear HC1 HW HO hSc hcut c1 c2 hv5 q1 q2 g1 g2 g3
  generalize cs.length = m at *
  go_wp2_with fail
  refine HW1.out.mono ?_
  rintro e w6 ⟨zs, hz, hlz, ⟨A6, cap6, rfl, hS6, hA6⟩, hv6⟩
  have b6 := b5.trans (hv6.mono b5.size)
  have hz5 := b5.size
  replace hz := Lib.hid hz
  replace hS6 := Lib.hid hS6
  replace hA6 := Lib.hid hA6
  have hl2 := Lib.hid (show zs.length ≤ 2 + 2 * (n + n') by omega)
  clear hlz HW1
  generalize hm : zs.length = m2 at *
  replace hm := Lib.hid hm
  go_wp2_with fail
  go_ret
  exact ⟨zs, hz.out, by rw [hm.out]; exact hl2.out, ⟨A6, cap6, by rw [hm.out]; rfl, by rw [hm.out]; exact hS6.out, fun g off e => ⟨Nat.le_trans hz5 (hA6.out g off e).1, (hA6.out g off e).2⟩⟩, b6⟩
end Go.Proofs.YtmgdkefoehlamaaGreatDoor
namespace Go.Proofs.YtmgdkefoehlamaaGreatDoor
open Go.RowKit
set_option linter.unusedVariables false
set_option linter.unusedSimpArgs false

def CmbP (k : Bool → Bool → Bool) (xs ys : List Pf) (m : Nat) : Prop := Val m ∧ k (hasB (xs.map rgP) m) (hasB (ys.map rgP) m) = true
theorem hasB_joined {za xs : List (Ad × Ad)} (h : Joined za xs) (m : Nat) : hasB za m = hasB xs m := by
  rw [Bool.eq_iff_iff, hasB_iff, hasB_iff]
  exact h.tells.2.1 m

set_option maxRecDepth 100000 in
set_option maxHeartbeats 4000000 in
theorem combine_any (kf : Nat) (k : Bool → Bool → Bool) (HKp : Kp kf k) (A A' : Option Addr) (n cap n' cap' : Nat) (xs ys : List Pf) (w : World)
    (hS : SlE ePf w A n cap xs) (hS' : SlE ePf w A' n' cap' ys) (hn : n ≤ 1000) (hn' : n' ≤ 1000) (hU : ∀ p ∈ xs, p.U) (hU' : ∀ p ∈ ys, p.U) :
    Calls Tryz.prog 52 #[.slice A n cap, .slice A' n' cap', kpV kf] w fun e w' => ∃ A2 cap2 zs, e = .returned (.tuple #[.slice A2 zs.length cap2, .int .i64 (firstZ [setF xs, setF ys])]) ∧ SlE eRg w' A2 zs.length cap2 zs ∧ (firstZ [setF xs, setF ys] = 0 → (∀ p ∈ xs, p.R) ∧ (∀ p ∈ ys, p.R) ∧ Tells zs (CmbP k xs ys)) ∧ (firstZ [setF xs, setF ys] ≠ 0 → zs = []) ∧ zs.length ≤ 2 + 2 * (n + n') ∧ Below w.heap.size w w' := by
  have HC1 := Lib.hid (checkSet_any A n cap xs w hS hn hU)
  have HC2 := Lib.hid (fun W (hW : Below w.heap.size w W) => checkSet_any A' n' cap' ys W (hS'.below hW) hn' hU')
  have HR := Lib.hid (show firstZ [setF xs, setF ys] = 0 → (∀ p ∈ xs, p.R) ∧ (∀ p ∈ ys, p.R) from fun h => ⟨setF_ok hU ((firstZ_both _ _).1 h).1, setF_ok hU' ((firstZ_both _ _).1 h).2⟩)
  have HO1 := Lib.hid (fun W (hW : Below w.heap.size w W) hR => ofP_any A n cap xs W (hS.below hW) (by omega) hR)
  have HO2 := Lib.hid (fun W (hW : Below w.heap.size w W) hR => ofP_any A' n' cap' ys W (hS'.below hW) (by omega) hR)
  have HX := Lib.hid (fun A1 A2 c1 c2 za zb W (h1 : Joined za (xs.map rgP)) (h2 : Joined zb (ys.map rgP)) (l1 : za.length ≤ n) (l2 : zb.length ≤ n') s1 s2 => combineS_any kf k HKp A1 A2 za.length c1 zb.length c2 za zb W s1 s2 (by omega) (by omega) h1.2.2 h2.2.2 h1.tells.1 h2.tells.1)
  clear hS hS' hU hU' HKp
  obtain ⟨E1, hE1⟩ : ∃ E, E = setF xs := ⟨_, rfl⟩
  obtain ⟨E2, hE2⟩ : ∃ E, E = setF ys := ⟨_, rfl⟩
  rw [← hE1] at HC1 HR ⊢
  rw [← hE2] at HC2 HR ⊢
  clear hE1 hE2
  obtain ⟨E, hE⟩ : ∃ E, E = firstZ [E1, E2] := ⟨_, rfl⟩
  rw [← hE] at HR ⊢
  replace hE := Lib.hid hE
  go_enter Tryz.func52, Tryz.ntmps52
  go_wp2_with fail
  refine HC1.out.mono ?_
  rintro e w1 ⟨rfl, b1⟩
  go_wp2_with fail
  refine (HC2.out _ b1).mono ?_
  rintro e w2 ⟨rfl, hv2⟩
  have b2 := b1.trans (hv2.mono b1.size)
  have hz2 := b2.size
  have hN := Blk.new w2 ([E1, E2].map (Value.int .i64)) 28
  have b3 := b2.alloc hz2 (.cells ([E1, E2].map (Value.int .i64)).toArray 28)
  have HE := Lib.hid (orE_blk [E1, E2] _ 2 _ _ hN (by simp))
  rw [← hE.out] at HE
  clear hN HC1 HC2 b1 hv2 b2
  go_wp2_with fail
  refine HE.out.mono ?_
  rintro e w3 ⟨rfl, rfl⟩
  by_cases hE0 : E = 0
  · have b0 : (E == 0) = true := by simp [hE0]
    have hE1 := Lib.hid hE0
    obtain ⟨hRx, hRy⟩ := HR.out hE0
    clear hE0
    have HO1' := Lib.hid (HO1.out _ b3 hRx)
    replace hRx := Lib.hid hRx
    replace hRy := Lib.hid hRy
    clear HR HE HO1
    go_wp2_with fail
    refine HO1'.out.mono ?_
    rintro e w4 ⟨za, hja, hla, ⟨A4, c4, rfl, hS4, _⟩, hv4⟩
    have b4 := b3.trans (hv4.mono b3.size)
    have HO2' := Lib.hid (HO2.out _ b4 hRy.out)
    clear HO1' HO2 hv4 b3
    replace hS4 := Lib.hid hS4
    replace hja := Lib.hid hja
    replace hla := Lib.hid hla
    obtain ⟨la, hlae⟩ : ∃ m, m = za.length := ⟨_, rfl⟩
    rw [← hlae] at hS4 ⊢
    replace hlae := Lib.hid hlae
    go_wp2_with fail
    refine HO2'.out.mono ?_
    rintro e w5 ⟨zb, hjb, hlb, ⟨A5, c5, rfl, hS5, _⟩, hv5⟩
    have b5 := b4.trans (hv5.mono b4.size)
    have HX' := Lib.hid (HX.out A4 A5 c4 c5 za zb w5 hja.out hjb hla.out hlb (by rw [← hlae.out]; exact hS4.out.below hv5) hS5)
    have hpe : ∀ m, (Val m ∧ k (hasB za m) (hasB zb m) = true) ↔ CmbP k xs ys m := fun m => by
      unfold CmbP
      rw [hasB_joined hja.out, hasB_joined hjb]
    replace hpe := Lib.hid hpe
    have hll := Lib.hid (show 2 + 2 * (za.length + zb.length) ≤ 2 + 2 * (n + n') by have := hla.out; omega)
    rw [← hlae.out] at HX'
    clear HO2' HX hv5 hS5 hS4 b4 hjb hlb hja hla
    obtain ⟨lb, hlbe⟩ : ∃ m, m = zb.length := ⟨_, rfl⟩
    rw [← hlbe] at HX' ⊢
    replace hlbe := Lib.hid hlbe
    go_wp2_with fail
    refine HX'.out.mono ?_
    rintro e w6 ⟨zs, hz, hlz, ⟨A6, cap6, rfl, hS6, hA6⟩, hv6⟩
    have b6 := b5.trans (hv6.mono b5.size)
    have hfin := Lib.hid (show Tells zs (CmbP k xs ys) from hz.iff hpe.out)
    have hl2 := Lib.hid (show zs.length ≤ 2 + 2 * (n + n') by have := hll.out; have := hlae.out; have := hlbe.out; omega)
    replace hS6 := Lib.hid hS6
    clear HX' hz hlz hv6 hA6
    generalize hm : zs.length = m2 at *
    replace hm := Lib.hid hm
    go_wp2_with fail
    go_ret2
    exact ⟨A6, cap6, zs, by rw [hm.out, hE1.out]; rfl, by rw [hm.out]; exact hS6.out, fun _ => ⟨hRx.out, hRy.out, hfin.out⟩, fun h => absurd hE1.out h, by rw [hm.out]; exact hl2.out, b6⟩
  · have b0 : (E == 0) = false := by simp [hE0]
    have hE1 := Lib.hid hE0
    clear hE0 HR HE HO1 HO2 HX
    go_wp2_with fail
    go_ret2
    exact ⟨none, 0, [], rfl, SlE.nil _, fun h => absurd h hE1.out, fun _ => rfl, Nat.zero_le _, b3⟩

def CmbS (k : Bool → Bool → Bool) (xs ys : List Pf) (ps : List Pf) : Prop := (∀ p ∈ xs, p.R) ∧ (∀ p ∈ ys, p.R) ∧ ∃ zs, Tells zs (CmbP k xs ys) ∧ ps = pfsOf (zs.map rowA)
set_option maxRecDepth 100000 in
set_option maxHeartbeats 4000000 in
theorem combined_any (kf : Nat) (k : Bool → Bool → Bool) (HKp : Kp kf k) (A A' : Option Addr) (n cap n' cap' : Nat) (xs ys : List Pf) (w : World)
    (hS : SlE ePf w A n cap xs) (hS' : SlE ePf w A' n' cap' ys) (hn : n ≤ 1000) (hn' : n' ≤ 1000) (hU : ∀ p ∈ xs, p.U) (hU' : ∀ p ∈ ys, p.U) (hT : Tz w)
    (hN : (∀ p ∈ xs, p.R) → (∀ p ∈ ys, p.R) → ∀ zs, Tells zs (CmbP k xs ys) → (pfsOf (zs.map rowA)).length ≤ 1000) :
    Calls Tryz.prog 27 #[.slice A n cap, .slice A' n' cap', kpV kf] w (GivesS (firstZ [setF xs, setF ys]) (CmbS k xs ys) w) := by
  have HC := Lib.hid (combine_any kf k HKp A A' n cap n' cap' xs ys w hS hS' hn hn' hU hU')
  replace hN := Lib.hid hN
  have hT1 : Hid (∀ W, Below w.heap.size w W → Tz W) := Lib.hid fun W h => hT.below h
  clear hS hS' hU hU' HKp hT
  generalize firstZ [setF xs, setF ys] = E at *
  go_enter Tryz.func27, Tryz.ntmps27
  go_wp2_with fail
  refine HC.out.mono ?_
  rintro e w1 ⟨A2, cap2, zs, rfl, hS2, h1, h2, hlz, b1⟩
  clear HC
  by_cases hE0 : E = 0
  · have b0 : (E == 0) = true := by simp [hE0]
    have hE1 := Lib.hid hE0
    obtain ⟨hRx, hRy, hz⟩ := h1 hE0
    clear hE0
    have HO := Lib.hid (setOf_any A2 zs.length cap2 zs w1 hS2 (by omega) hz.2.2 (hT1.out _ b1) (hN.out hRx hRy zs hz))
    have hfin := Lib.hid (show CmbS k xs ys (pfsOf (zs.map rowA)) from ⟨hRx, hRy, zs, hz, rfl⟩)
    clear h1 h2 hS2 hRx hRy hz hlz
    generalize zs.length = m at *
    go_wp2_with fail
    refine HO.out.mono ?_
    rintro e w6 ⟨⟨v, rfl, ho⟩, hv1⟩
    have hz5 := b1.size
    have b6 := b1.trans (hv1.mono hz5)
    clear HO hv1
    go_wp2_with fail
    go_ret2
    exact ⟨v, _, by rw [hE1.out]; rfl, OwnE.mono ho hz5, fun _ => hfin.out, fun h => absurd hE1.out h, b6⟩
  · have b0 : (E == 0) = false := by simp [hE0]
    have hE1 := Lib.hid hE0
    clear hE0 h1 h2 hS2
    generalize zs.length = m at *
    go_wp2_with fail
    go_ret2
    exact ⟨_, [], rfl, OwnE.nil _ _, fun h => absurd h hE1.out, fun _ => rfl, b1⟩

theorem kp_union : Kp 29 (fun p q => p || q) where
  run := fun p q W => by
    cases p <;> cases q
    all_goals
      go_enter Tryz.func29, Tryz.ntmps29
      go_wp2_with fail
      go_ret
      exact ⟨rfl, Below.refl _ _⟩
  enter := enters_of Tryz.func29 (by kernel_rfl) rfl

theorem kp_both : Kp 35 (fun p q => p && q) where
  run := fun p q W => by
    cases p <;> cases q
    all_goals
      go_enter Tryz.func35, Tryz.ntmps35
      go_wp2_with fail
      go_ret
      exact ⟨rfl, Below.refl _ _⟩
  enter := enters_of Tryz.func35 (by kernel_rfl) rfl

theorem kp_without : Kp 36 (fun p q => p && !q) where
  run := fun p q W => by
    cases p <;> cases q
    all_goals
      go_enter Tryz.func36, Tryz.ntmps36
      go_wp2_with fail
      go_ret
      exact ⟨rfl, Below.refl _ _⟩
  enter := enters_of Tryz.func36 (by kernel_rfl) rfl

theorem kp_rest : Kp 28 (fun p q => !p) where
  run := fun p q W => by
    cases p <;> cases q
    all_goals
      go_enter Tryz.func28, Tryz.ntmps28
      go_wp2_with fail
      go_ret
      exact ⟨rfl, Below.refl _ _⟩
  enter := enters_of Tryz.func28 (by kernel_rfl) rfl

theorem kp_covers : Kp 53 (fun p q => q && !p) where
  run := fun p q W => by
    cases p <;> cases q
    all_goals
      go_enter Tryz.func53, Tryz.ntmps53
      go_wp2_with fail
      go_ret
      exact ⟨rfl, Below.refl _ _⟩
  enter := enters_of Tryz.func53 (by kernel_rfl) rfl

set_option maxRecDepth 100000 in
theorem union_any (A A' : Option Addr) (n cap n' cap' : Nat) (xs ys : List Pf) (w : World) (hS : SlE ePf w A n cap xs) (hS' : SlE ePf w A' n' cap' ys) (hn : n ≤ 1000) (hn' : n' ≤ 1000) (hU : ∀ p ∈ xs, p.U) (hU' : ∀ p ∈ ys, p.U) (hT : Tz w)
    (hN : (∀ p ∈ xs, p.R) → (∀ p ∈ ys, p.R) → ∀ zs, Tells zs (CmbP (fun p q => p || q) xs ys) → (pfsOf (zs.map rowA)).length ≤ 1000) :
    Calls Tryz.prog 10 #[.slice A n cap, .slice A' n' cap'] w (GivesS (firstZ [setF xs, setF ys]) (CmbS (fun p q => p || q) xs ys) w) := by
  have H := Lib.hid (combined_any _ _ kp_union A A' n cap n' cap' xs ys w hS hS' hn hn' hU hU' hT hN)
  clear hS hS' hU hU' hN hT
  generalize firstZ [setF xs, setF ys] = E at *
  go_enter Tryz.func10, Tryz.ntmps10
  go_wp2_with fail
  refine H.out.mono ?_
  rintro e w1 ⟨v, ps, rfl, ho, h1, h2, hb⟩
  replace h1 := Lib.hid h1
  replace h2 := Lib.hid h2
  clear H
  go_wp2_with fail
  go_ret2
  exact ⟨v, ps, rfl, ho, h1.out, h2.out, hb⟩

set_option maxRecDepth 100000 in
theorem both_any (A A' : Option Addr) (n cap n' cap' : Nat) (xs ys : List Pf) (w : World) (hS : SlE ePf w A n cap xs) (hS' : SlE ePf w A' n' cap' ys) (hn : n ≤ 1000) (hn' : n' ≤ 1000) (hU : ∀ p ∈ xs, p.U) (hU' : ∀ p ∈ ys, p.U) (hT : Tz w)
    (hN : (∀ p ∈ xs, p.R) → (∀ p ∈ ys, p.R) → ∀ zs, Tells zs (CmbP (fun p q => p && q) xs ys) → (pfsOf (zs.map rowA)).length ≤ 1000) :
    Calls Tryz.prog 12 #[.slice A n cap, .slice A' n' cap'] w (GivesS (firstZ [setF xs, setF ys]) (CmbS (fun p q => p && q) xs ys) w) := by
  have H := Lib.hid (combined_any _ _ kp_both A A' n cap n' cap' xs ys w hS hS' hn hn' hU hU' hT hN)
  clear hS hS' hU hU' hN hT
  generalize firstZ [setF xs, setF ys] = E at *
  go_enter Tryz.func12, Tryz.ntmps12
  go_wp2_with fail
  refine H.out.mono ?_
  rintro e w1 ⟨v, ps, rfl, ho, h1, h2, hb⟩
  replace h1 := Lib.hid h1
  replace h2 := Lib.hid h2
  clear H
  go_wp2_with fail
  go_ret2
  exact ⟨v, ps, rfl, ho, h1.out, h2.out, hb⟩

set_option maxRecDepth 100000 in
theorem without_any (A A' : Option Addr) (n cap n' cap' : Nat) (xs ys : List Pf) (w : World) (hS : SlE ePf w A n cap xs) (hS' : SlE ePf w A' n' cap' ys) (hn : n ≤ 1000) (hn' : n' ≤ 1000) (hU : ∀ p ∈ xs, p.U) (hU' : ∀ p ∈ ys, p.U) (hT : Tz w)
    (hN : (∀ p ∈ xs, p.R) → (∀ p ∈ ys, p.R) → ∀ zs, Tells zs (CmbP (fun p q => p && !q) xs ys) → (pfsOf (zs.map rowA)).length ≤ 1000) :
    Calls Tryz.prog 13 #[.slice A n cap, .slice A' n' cap'] w (GivesS (firstZ [setF xs, setF ys]) (CmbS (fun p q => p && !q) xs ys) w) := by
  have H := Lib.hid (combined_any _ _ kp_without A A' n cap n' cap' xs ys w hS hS' hn hn' hU hU' hT hN)
  clear hS hS' hU hU' hN hT
  generalize firstZ [setF xs, setF ys] = E at *
  go_enter Tryz.func13, Tryz.ntmps13
  go_wp2_with fail
  refine H.out.mono ?_
  rintro e w1 ⟨v, ps, rfl, ho, h1, h2, hb⟩
  replace h1 := Lib.hid h1
  replace h2 := Lib.hid h2
  clear H
  go_wp2_with fail
  go_ret2
  exact ⟨v, ps, rfl, ho, h1.out, h2.out, hb⟩

set_option maxRecDepth 100000 in
theorem rest_any (A : Option Addr) (n cap : Nat) (xs : List Pf) (w : World) (hS : SlE ePf w A n cap xs) (hn : n ≤ 1000) (hU : ∀ p ∈ xs, p.U) (hT : Tz w)
    (hN : (∀ p ∈ xs, p.R) → ∀ zs, Tells zs (CmbP (fun p q => !p) xs []) → (pfsOf (zs.map rowA)).length ≤ 1000) :
    Calls Tryz.prog 9 #[.slice A n cap] w (GivesS (firstZ [setF xs, setF []]) (CmbS (fun p q => !p) xs []) w) := by
  have H := Lib.hid (combined_any _ _ kp_rest A none n cap 0 0 xs [] w hS (SlE.nil _) hn (by omega) hU (fun p hp => by cases hp) hT (fun a _ => hN a))
  clear hS hU hN hT
  generalize firstZ [setF xs, setF []] = E at *
  go_enter Tryz.func9, Tryz.ntmps9
  go_wp2_with fail
  refine H.out.mono ?_
  rintro e w1 ⟨v, ps, rfl, ho, h1, h2, hb⟩
  replace h1 := Lib.hid h1
  replace h2 := Lib.hid h2
  clear H
  go_wp2_with fail
  go_ret2
  exact ⟨v, ps, rfl, ho, h1.out, h2.out, hb⟩
end Go.Proofs.YtmgdkefoehlamaaGreatDoor
namespace Go.Proofs.YtmgdkefoehlamaaGreatDoor
open Go.RowKit
set_option linter.unusedVariables false
set_option linter.unusedSimpArgs false

def Stg (zs : List (Ad × Ad)) (k : Nat) (out : List (Ad × Ad)) : Prop :=
  if k = 0 then out = [] else out.Pairwise (fun x y => x.2.n + 1 < y.1.n) ∧ (∀ y ∈ out, RgR y ∧ y.2.n ≤ topN (decide (k = 2))) ∧ (∀ m, InA out m ↔ Val m ∧ m ≤ topN (decide (k = 2)) ∧ ¬ InA zs m) ∧ out.length ≤ k * (zs.length + 1)
theorem Stg.next {zs : List (Ad × Ad)} (hR : ∀ z ∈ zs, RgR z) (hp : zs.Pairwise (fun x y => x.2.n + 1 < y.1.n)) {k : Nat} (hk : k < 2) {a : Nat} {dn : Bool} {out : List (Ad × Ad)} (h : GapI zs (decide (k = 1)) zs.length a dn out (k * (zs.length + 1))) :
    Stg zs (k + 1) (if dn then out else out ++ [(adOf a, adOf (topN (decide (k = 1))))]) := by
  obtain ⟨out', rfl, h1, h2, h3, h4⟩ := h.ends hR hp
  have e : decide (k + 1 = 2) = decide (k = 1) := by rw [decide_eq_decide]; omega
  unfold Stg
  rw [if_neg (by omega), e]
  exact ⟨h1, h2, h3, by rw [Nat.succ_mul]; omega⟩
theorem Stg.done {zs out : List (Ad × Ad)} (h : Stg zs 2 out) : Tells out (fun m => Val m ∧ ¬ InA zs m) ∧ out.length ≤ 2 * (zs.length + 1) :=
  ⟨gaps_told h.1 h.2.1 h.2.2.1, h.2.2.2⟩

end Go.Proofs.YtmgdkefoehlamaaGreatDoor
namespace Go.Proofs.YtmgdkefoehlamaaGreatDoor
open Go.RowKit
set_option linter.unusedVariables false
set_option linter.unusedSimpArgs false

end Go.Proofs.YtmgdkefoehlamaaGreatDoor
namespace Go.Proofs.YtmgdkefoehlamaaGreatDoor
open Go.RowKit
set_option linter.unusedVariables false
set_option linter.unusedSimpArgs false

end Go.Proofs.YtmgdkefoehlamaaGreatDoor
namespace Go.Proofs.YtmgdkefoehlamaaGreatDoor
open Go.RowKit
set_option linter.unusedVariables false
set_option linter.unusedSimpArgs false

theorem inA_rgP {ps : List Pf} (hR : ∀ p ∈ ps, p.R) (m : Nat) : InA (ps.map rgP) m ↔ ∃ p ∈ ps, InB (blk p) m := by
  unfold InA InB
  constructor
  · rintro ⟨x, hx, h1, h2⟩
    obtain ⟨p, hp, rfl⟩ := List.mem_map.1 hx
    have hn := rgP_n (hR p hp)
    have hpos := Nat.two_pow_pos (freeB p)
    have h1' : p.1.n ≤ m := h1
    exact ⟨p, hp, h1', by show m < p.1.n + 2 ^ freeB p; omega⟩
  · rintro ⟨p, hp, h1, h2⟩
    have hn := rgP_n (hR p hp)
    have hpos := Nat.two_pow_pos (freeB p)
    have h2' : m < p.1.n + 2 ^ freeB p := h2
    exact ⟨rgP p, List.mem_map_of_mem hp, h1, by omega⟩
theorem inA_rgP_val {ps : List Pf} (hR : ∀ p ∈ ps, p.R) {m : Nat} (h : InA (ps.map rgP) m) : Val m :=
  inA_val (fun x hx => by obtain ⟨p, hp, rfl⟩ := List.mem_map.1 hx; exact rgP_R (hR p hp)) h
theorem cmb_union {xs ys : List Pf} (hR : ∀ p ∈ xs, p.R) (hR' : ∀ p ∈ ys, p.R) (m : Nat) : CmbP (fun p q => p || q) xs ys m ↔ InA (xs.map rgP) m ∨ InA (ys.map rgP) m := by
  unfold CmbP
  rw [Bool.or_eq_true, hasB_iff, hasB_iff]
  exact ⟨fun h => h.2, fun h => ⟨h.elim (inA_rgP_val hR) (inA_rgP_val hR'), h⟩⟩
theorem cmb_both {xs ys : List Pf} (hR : ∀ p ∈ xs, p.R) (m : Nat) : CmbP (fun p q => p && q) xs ys m ↔ InA (xs.map rgP) m ∧ InA (ys.map rgP) m := by
  unfold CmbP
  rw [Bool.and_eq_true, hasB_iff, hasB_iff]
  exact ⟨fun h => h.2, fun h => ⟨inA_rgP_val hR h.1, h⟩⟩
theorem hasB_not (xs : List (Ad × Ad)) (m : Nat) : (!hasB xs m) = true ↔ ¬ InA xs m := by
  rw [← hasB_iff]; cases hasB xs m <;> simp
theorem cmb_without {xs ys : List Pf} (hR : ∀ p ∈ xs, p.R) (m : Nat) : CmbP (fun p q => p && !q) xs ys m ↔ InA (xs.map rgP) m ∧ ¬ InA (ys.map rgP) m := by
  unfold CmbP
  rw [Bool.and_eq_true, hasB_iff, hasB_not]
  exact ⟨fun h => h.2, fun h => ⟨inA_rgP_val hR h.1, h⟩⟩
theorem cmb_rest {xs : List Pf} (m : Nat) : CmbP (fun p _ => !p) xs [] m ↔ Val m ∧ ¬ InA (xs.map rgP) m := by
  unfold CmbP
  rw [hasB_not]

theorem pfs_blocks {zs : List (Ad × Ad)} {P : Nat → Prop} (h : Tells zs P) (es qs : List Bk) (hes : AlL es) (hqs : AlL qs) (hl : es.length + qs.length * 128 + 2 ≤ 1000)
    (hk : ∀ m m', P m → Val m' → ¬ P m' → (∃ a ∈ es, InB a m ∧ ¬ InB a m') ∨ (∃ q ∈ qs, ¬ InB q m ∧ InB q m')) : (pfsOf (zs.map rowA)).length ≤ 1000 := by
  unfold pfsOf
  rw [List.length_map]
  exact Nat.le_trans (blocks_le h es qs hes hqs hk) hl
theorem alL_nil : AlL [] := fun b hb => by cases hb
theorem alL_app {l m : List Bk} (h : AlL l) (h' : AlL m) : AlL (l ++ m) := fun b hb => by
  rcases List.mem_append.1 hb with k | k
  · exact h b k
  · exact h' b k
theorem bound_union {xs ys : List Pf} (hx : xs.length ≤ 6) (hy : ys.length ≤ 6) (hR : ∀ p ∈ xs, p.R) (hR' : ∀ p ∈ ys, p.R) (zs : List (Ad × Ad)) (h : Tells zs (CmbP (fun p q => p || q) xs ys)) : (pfsOf (zs.map rowA)).length ≤ 1000 := by
  refine pfs_blocks h (xs.map blk ++ ys.map blk) [] (alL_app (blks_ok hR).1 (blks_ok hR').1) alL_nil (by rw [List.length_append, List.length_map, List.length_map, List.length_nil]; omega) (fun m m' h1 hv h2 => .inl ?_)
  rw [cmb_union hR hR', inA_rgP hR, inA_rgP hR'] at h1 h2
  rcases h1 with ⟨p, hp, hm⟩ | ⟨p, hp, hm⟩
  · exact ⟨blk p, List.mem_append_left _ (List.mem_map_of_mem hp), hm, fun h => h2 (.inl ⟨p, hp, h⟩)⟩
  · exact ⟨blk p, List.mem_append_right _ (List.mem_map_of_mem hp), hm, fun h => h2 (.inr ⟨p, hp, h⟩)⟩
theorem bound_both {xs ys : List Pf} (hx : xs.length ≤ 6) (hy : ys.length ≤ 6) (hR : ∀ p ∈ xs, p.R) (hR' : ∀ p ∈ ys, p.R) (zs : List (Ad × Ad)) (h : Tells zs (CmbP (fun p q => p && q) xs ys)) : (pfsOf (zs.map rowA)).length ≤ 1000 := by
  refine pfs_blocks h (xs.map blk ++ ys.map blk) [] (alL_app (blks_ok hR).1 (blks_ok hR').1) alL_nil (by rw [List.length_append, List.length_map, List.length_map, List.length_nil]; omega) (fun m m' h1 hv h2 => .inl ?_)
  rw [cmb_both hR, inA_rgP hR, inA_rgP hR'] at h1 h2
  obtain ⟨⟨p, hp, hm⟩, ⟨q, hq, hm'⟩⟩ := h1
  by_cases hh : ∃ p ∈ xs, InB (blk p) m'
  · exact ⟨blk q, List.mem_append_right _ (List.mem_map_of_mem hq), hm', fun h => h2 ⟨hh, ⟨q, hq, h⟩⟩⟩
  · exact ⟨blk p, List.mem_append_left _ (List.mem_map_of_mem hp), hm, fun h => hh ⟨p, hp, h⟩⟩
theorem bound_without {xs ys : List Pf} (hx : xs.length ≤ 6) (hy : ys.length ≤ 6) (hR : ∀ p ∈ xs, p.R) (hR' : ∀ p ∈ ys, p.R) (zs : List (Ad × Ad)) (h : Tells zs (CmbP (fun p q => p && !q) xs ys)) : (pfsOf (zs.map rowA)).length ≤ 1000 := by
  refine pfs_blocks h (xs.map blk) (ys.map blk) (blks_ok hR).1 (blks_ok hR').1 (by rw [List.length_map, List.length_map]; omega) (fun m m' h1 hv h2 => ?_)
  rw [cmb_without hR, inA_rgP hR, inA_rgP hR'] at h1 h2
  obtain ⟨⟨p, hp, hm⟩, hn⟩ := h1
  by_cases hh : ∃ p ∈ ys, InB (blk p) m'
  · obtain ⟨q, hq, hm'⟩ := hh
    exact .inr ⟨blk q, List.mem_map_of_mem hq, fun h => hn ⟨q, hq, h⟩, hm'⟩
  · exact .inl ⟨blk p, List.mem_map_of_mem hp, hm, fun h => h2 ⟨⟨p, hp, h⟩, hh⟩⟩
theorem bound_rest {xs : List Pf} (hx : xs.length ≤ 6) (hR : ∀ p ∈ xs, p.R) (zs : List (Ad × Ad)) (h : Tells zs (CmbP (fun p _ => !p) xs [])) : (pfsOf (zs.map rowA)).length ≤ 1000 := by
  refine pfs_blocks h [] (xs.map blk) alL_nil (blks_ok hR).1 (by rw [List.length_map, List.length_nil]; omega) (fun m m' h1 hv h2 => .inr ?_)
  rw [cmb_rest, inA_rgP hR] at h1 h2
  have hh : ∃ p ∈ xs, InB (blk p) m' := Classical.byContradiction fun hn => h2 ⟨hv, hn⟩
  obtain ⟨q, hq, hm'⟩ := hh
  exact ⟨blk q, List.mem_map_of_mem hq, fun h => h1.2 ⟨q, hq, h⟩, hm'⟩
theorem setF_nil : setF [] = 0 := by
  unfold setF
  have e : scanF none [] = 0 := rfl
  rw [if_neg (fun h => h e), if_pos (by trivial)]
theorem equal_got {w : World} {v v' : Value} {B B' : Nat} {t t' : TypeId} {ps qs : List Pf} (h : OwnE ePf t B w v ps) (h' : OwnE ePf t' B' w v' qs) (he : ps = qs) (hl : ps.length ≤ 1000000) :
    Calls Tryz.prog 14 #[v, v'] w (GivesV (.bool true) w) := by
  subst he
  obtain ⟨A, c, rfl, hS⟩ := h.sl
  obtain ⟨A', c', rfl, hS'⟩ := h'.sl
  refine (equalPf_any A A' _ _ c c' ps ps w hS hS' hl hl).mono ?_
  rintro e w2 ⟨b, rfl, hb, hb2⟩
  exact ⟨by rw [hb.2 rfl], hb2⟩
end Go.Proofs.YtmgdkefoehlamaaGreatDoor
namespace Go.Proofs.YtmgdkefoehlamaaGreatDoor
open Go.RowKit
set_option linter.unusedVariables false
set_option linter.unusedSimpArgs false

def inQ (p : Pf) (m : Nat) : Bool := decide ((blk p).1 ≤ m ∧ m < (blk p).1 + 2 ^ (blk p).2)
def inS (ps : List Pf) (m : Nat) : Bool := ps.any fun p => inQ p m
theorem contains_n (p : Pf) (a : Ad) (w : World) (hp : p.R) (ha : a.R) : Calls Tryz.prog 49 #[pfA p, adA a] w (GivesV (.bool (inQ p a.n)) w) := by
  unfold inQ
  rw [← ctP_eq hp ha]
  exact contains_any p.1.s p.1.hi p.1.lo p.2 a.s a.hi a.lo w hp.1.1.1.1 hp.1.1.1.2 hp.1.1.2.1 hp.1.1.2.2 ha.1.1.1 ha.1.1.2 ha.1.2.1 ha.1.2.2 hp.2.1 hp.2.2.1
set_option maxRecDepth 100000 in
theorem hasC_any (p : Pf) (a : Ad) (g : Nat) (w : World) (hp : p.R) (ha : a.R) (h : Blk w g (adC a) 38) :
    Calls Tryz.prog 48 #[pfA p, .pointer (some ⟨g, 0, none⟩)] w (GivesV (.bool (inQ p a.n)) w) := by
  have HC := fun w' => Lib.hid (contains_n p a w' hp ha)
  generalize inQ p a.n = V at *
  have hC := Blk.new w (pfC p) 40
  have hbw : Below w.heap.size w (w.alloc (.cells (pfC p).toArray 40)) := (Below.refl _ _).alloc (Nat.le_refl _) _
  replace h := Blk.below h hbw
  have k1 := hC.ld rowPf rfl
  have k2 := h.ld rowAd rfl
  clear hp ha
  go_enter Tryz.func48, Tryz.ntmps48
  go_wp2_with fail
  refine (HC _).out.mono ?_
  rintro e w1 ⟨rfl, hb1⟩
  replace hbw := hbw.trans (hb1.mono hbw.size)
  go_wp2_with fail
  go_ret
  exact ⟨rfl, hbw⟩

set_option maxRecDepth 100000 in
theorem indexF_any (kf g : Nat) (t : Nat) (A : Option Addr) (n cap : Nat) (ps : List Pf) (w : World) (hS : SlE ePf w A n cap ps) (hn : n ≤ 100000) (hR : ∀ p ∈ ps, p.R)
    (HF : ∀ p W, p.R → Below w.heap.size w W → Calls Tryz.prog kf #[pfA p, .pointer (some ⟨g, 0, none⟩)] W (GivesV (.bool (inQ p t)) W)) (eg : ∀ args w, (callFunc kf args).run Tryz.prog w = .ok (.enter kf args) w) :
    Calls Tryz.prog 80 #[.slice A n cap, .func (.func kf) #[] #[.pointer (some ⟨g, 0, none⟩)]] w fun e w' => ∃ i : Int, e = .returned (.int .i64 i) ∧ decide (0 ≤ i) = inS ps t ∧ Below w.heap.size w w' := by
  have hnl := Lib.hid hS.1
  replace hS := Lib.hid hS
  replace hR := Lib.hid hR
  replace HF := Lib.hid HF
  go_enter Tryz.func80, Tryz.ntmps80
  go_wp2_with fail
  go_loopw [8] (fun v8 wr => ∃ k : Nat, k ≤ n ∧ v8 = .int .i64 k ∧ Hid (∀ p ∈ ps.take k, inQ p t = false) ∧ Below w.heap.size w wr) (fun v8 _ => n - (intOf v8).toNat)
  case atStart => exact ⟨0, by omega, rfl, Lib.hid (by simp), Below.refl _ _⟩
  case round =>
    obtain ⟨k, hk, rfl, hI, hbw⟩ := hrel
    by_cases hlt : k < n
    · obtain ⟨p, hp⟩ : ∃ p, ps[k]? = some p := ⟨ps[k]'(by have := hnl.out; omega), List.getElem?_eq_getElem _⟩
      obtain ⟨g0, off, rfl, _, _⟩ := hS.out.at' hlt
      have hld := SlE.ld rowPf (hS.out.below hbw) hp
      replace hld : (ldT 40 (.pointer (some ⟨g0, off + k * 4, none⟩))).run Tryz.prog wr = .ok (.value (pfA p)) wr := hld
      have hpR := hR.out p (List.mem_of_getElem? hp)
      have HFp := Lib.hid (fun W hW => HF.out p W hpR hW)
      have hlt' : (k : Int) < n := by omega
      have hyes := Lib.hid (fun (e : inQ p t = true) => (show inS ps t = true from List.any_eq_true.2 ⟨p, List.mem_of_getElem? hp, e⟩))
      have hno := Lib.hid (fun (e : inQ p t = false) => (show ∀ p ∈ ps.take (k + 1), inQ p t = false from fun x hx => by
        rw [List.take_add_one, hp] at hx
        rcases List.mem_append.1 hx with h | h
        · exact hI.out x h
        · rw [show x = p by simpa using h]; exact e))
      generalize inQ p t = V at *
      replace hp := Lib.hid hp
      clear hpR hI
      go_wp2_with fail
      refine (HFp.out _ hbw).mono ?_
      rintro e w1 ⟨rfl, hv⟩
      replace hbw := hbw.trans (hv.mono hbw.size)
      clear hv hld HFp
      cases V with
      | true =>
        have hfin := Lib.hid (hyes.out rfl)
        clear hyes hno
        go_wp2_with fail
        go_ret
        first | exact ⟨k, rfl, by rw [hfin.out]; exact decide_eq_true (by omega), hbw⟩ | exact ⟨⟨k, rfl, by rw [hfin.out]; exact decide_eq_true (by omega)⟩, hbw⟩
      | false =>
        have hI2 := Lib.hid (hno.out rfl)
        clear hyes hno
        go_wp2_with fail
        go_roundw
        case rel => exact ⟨k + 1, by omega, by go_num, hI2, hbw⟩
        case measure => simp [intOf]; omega
    · have hfin := Lib.hid (show inS ps t = false by
        have h := hI.out
        rw [List.take_of_length_le (by have := hnl.out; omega)] at h
        rw [Bool.eq_false_iff]
        intro e
        obtain ⟨p, hp, e2⟩ := List.any_eq_true.1 e
        rw [h p hp] at e2
        cases e2)
      clear hI
      go_wp2_with fail
      go_ret
      first | exact ⟨-1, rfl, by rw [hfin.out]; rfl, hbw⟩ | exact ⟨⟨-1, rfl, by rw [hfin.out]; rfl⟩, hbw⟩
set_option maxRecDepth 100000 in
theorem containsF_any (kf g : Nat) (t : Nat) (A : Option Addr) (n cap : Nat) (ps : List Pf) (w : World) (hS : SlE ePf w A n cap ps) (hn : n ≤ 100000) (hR : ∀ p ∈ ps, p.R)
    (HF : ∀ p W, p.R → Below w.heap.size w W → Calls Tryz.prog kf #[pfA p, .pointer (some ⟨g, 0, none⟩)] W (GivesV (.bool (inQ p t)) W)) (eg : ∀ args w, (callFunc kf args).run Tryz.prog w = .ok (.enter kf args) w) :
    Calls Tryz.prog 47 #[.slice A n cap, .func (.func kf) #[] #[.pointer (some ⟨g, 0, none⟩)]] w (GivesV (.bool (inS ps t)) w) := by
  have H := Lib.hid (indexF_any kf g t A n cap ps w hS hn hR HF eg)
  clear hS hR HF eg
  generalize inS ps t = V at *
  go_enter Tryz.func47, Tryz.ntmps47
  go_wp2_with fail
  refine H.out.mono ?_
  rintro e w1 ⟨i, rfl, hi, hb⟩
  subst hi
  clear H
  go_wp2_with fail
  go_ret
  exact ⟨rfl, hb⟩

set_option maxRecDepth 100000 in
set_option maxHeartbeats 4000000 in
theorem addrHas_any (a : Ad) (A : Option Addr) (n cap : Nat) (ps : List Pf) (w : World) (hS : SlE ePf w A n cap ps) (hn : n ≤ 1000) (hU : ∀ p ∈ ps, p.U) (ha : a.U) :
    Calls Tryz.prog 19 #[.slice A n cap, adA a] w fun e w' => ∃ b, e = .returned (.tuple #[.bool b, .int .i64 (firstZ [setF ps, adEr a])]) ∧ Hid (firstZ [setF ps, adEr a] = 0 → b = inS ps a.n) ∧ Hid (firstZ [setF ps, adEr a] ≠ 0 → b = false) ∧ Below w.heap.size w w' := by
  have HC := fun W (hW : Below w.heap.size w W) => checkSet_any A n cap ps W (hS.below hW) hn hU
  have HA := fun W => checkAddr_n a W
  have HS := Lib.hid (fun W g (hW : Below w.heap.size w W) (h1 : Blk W g (adC a) 38) (hR : ∀ p ∈ ps, p.R) (hr : a.R) => containsF_any 48 g a.n A n cap ps W (hS.below hW) (by omega) hR (fun p W' hp hW' => hasC_any p a g W' hp hr (Blk.below h1 hW')) (enters_of Tryz.func48 (by kernel_rfl) rfl))
  have HR := Lib.hid (show firstZ [setF ps, adEr a] = 0 → (∀ p ∈ ps, p.R) ∧ a.R from fun h => ⟨setF_ok hU ((firstZ_both _ _).1 h).1, (adEr_iff ha).1 ((firstZ_both _ _).1 h).2⟩)
  have h1 := Blk.new w (adC a) 38
  have hbw : Below w.heap.size w (w.alloc (.cells (adC a).toArray 38)) := (Below.refl _ _).alloc (Nat.le_refl _) _
  obtain ⟨E1, hE1⟩ : ∃ E, E = setF ps := ⟨_, rfl⟩
  obtain ⟨E2, hE2⟩ : ∃ E, E = adEr a := ⟨_, rfl⟩
  rw [← hE1] at HC HR ⊢
  rw [← hE2] at HA HR ⊢
  clear hE1 hE2 hS hU ha
  obtain ⟨E, hE⟩ : ∃ E, E = firstZ [E1, E2] := ⟨_, rfl⟩
  rw [← hE] at HR ⊢
  replace hE := Lib.hid hE
  go_enter Tryz.func19, Tryz.ntmps19
  go_upto_region 1 with fail
  generalize w.alloc (.cells (adC a).toArray 38) = w0 at *
  refine wx_begin (none) [] (by kernel_rfl) (fun u0 hb0' hz0' => ?_)
  replace h1 := h1.below hb0'
  replace hbw := hbw.trans (hb0'.mono hbw.size)
  clear hb0' hz0'
  refine wx_pure (i := 0) (d := some 7) (v := ?_) (by simp only [gzA, gzB, gzC] <;> rfl) (by rfl) (by kernel_rfl) (by kernel_rfl) (by kernel_rfl) (fun _ _ _ h => h) (by rfl) ?_ ?_
  rotate_left
  · ((intro u); go_simp; try with_reducible rfl)
  try simp only [Act.put, gzD, gzE, gzF]
  refine wx_take (i := 2) (d := some 9) (v := ?_) (by simp only [gzA, gzB, gzC] <;> rfl) (by rfl) (by kernel_rfl) (by kernel_rfl) (by kernel_rfl) (fun _ _ _ h => h) (by rfl) (by kernel_rfl) ?_ ?_
  rotate_left
  · ((intro u hu); have k1 := (h1.gn hu).ld rowAd rfl; go_simp; try with_reducible rfl)
  try simp only [Act.put, gzD, gzE, gzF]
  refine wx_one (i := 1) (by simp only [gzA, gzB, gzC] <;> rfl) (by kernel_rfl) (by rfl) (fun K hK => ?_)
  go_simp
  refine (HC _ hbw).mono ?_
  rintro e u1 ⟨rfl, hv1⟩
  refine hK _ _ (gbB hv1) ?_
  replace h1 := h1.below hv1
  replace hbw := hbw.trans (hv1.mono hbw.size)
  clear hK K hv1
  try simp only [Act.put, gzD, gzE, gzF]
  refine wx_one (i := 3) (by simp only [gzA, gzB, gzC] <;> rfl) (by kernel_rfl) (by rfl) (fun K hK => ?_)
  go_simp
  refine (HA _).mono ?_
  rintro e u2 ⟨rfl, hv1⟩
  refine hK _ _ (gbB hv1) ?_
  replace h1 := h1.below hv1
  replace hbw := hbw.trans (hv1.mono hbw.size)
  clear hK K hv1
  try simp only [Act.put, gzD, gzE, gzF]
  refine wx_one (i := 4) (by simp only [gzA, gzB, gzC] <;> rfl) (by kernel_rfl) (by rfl) (fun K hK => ?_)
  go_simp
  refine hK _ _ (World.grownBy_alloc _ _ none) ?_
  refine wx_new (cs := [E1, E2].map (Value.int .i64)) (t := 28) (fun u3 hv1 hL3 hz3 => ?_)
  replace h1 := h1.below hv1
  replace hbw := hbw.trans (hv1.mono hbw.size)
  clear hK K hv1 hz3
  try simp only [Act.put, gzD, gzE, gzF]
  refine wx_one (i := 5) (by simp only [gzA, gzB, gzC] <;> rfl) (by kernel_rfl) (by rfl) (fun K hK => ?_)
  go_simp
  refine (orE_blk [E1, E2] _ _ _ _ hL3 (by simp)).mono ?_
  rintro e u4 ⟨rfl, rfl⟩
  refine hK _ _ (gb_refl _ _) ?_
  clear hK K hL3
  try simp only [Act.put, gzD, gzE, gzF]
  refine wx_pure (i := 6) (d := some 6) (v := ?_) (by simp only [gzA, gzB, gzC] <;> rfl) (by rfl) (by kernel_rfl) (by kernel_rfl) (by kernel_rfl) (fun _ _ _ h => h) (by rfl) ?_ ?_
  rotate_left
  · ((intro u); go_simp; try with_reducible rfl)
  try simp only [Act.put, gzD, gzE, gzF]
  refine wx_done (by kernel_rfl) ?_ _
  skip
  rw [← hE.out]
  clear HC HA hE
  by_cases hE0 : E = 0
  · have b0 : (E == 0) = true := by simp [hE0]
    have hE1 := Lib.hid hE0
    obtain ⟨hR, hr⟩ := HR.out hE0
    have H := Lib.hid (HS.out _ _ hbw h1 hR hr)
    clear hE0 hR hr HS HR
    obtain ⟨V, hV⟩ : ∃ V, V = inS ps a.n := ⟨_, rfl⟩
    rw [← hV] at H
    replace hV := Lib.hid hV
    go_wp2_with fail
    refine H.out.mono ?_
    rintro e w1 ⟨rfl, hb⟩
    replace hbw := hbw.trans (hb.mono hbw.size)
    clear H
    go_wp2_with fail
    go_ret2
    exact ⟨V, by rw [hE1.out]; rfl, Lib.hid fun _ => hV.out, Lib.hid fun h => absurd hE1.out h, hbw⟩
  · have b0 : (E == 0) = false := by simp [hE0]
    have hE1 := Lib.hid hE0
    clear hE0 HS HR
    go_wp2_with fail
    go_ret2
    exact ⟨false, rfl, Lib.hid fun h => absurd h hE1.out, Lib.hid fun _ => rfl, hbw⟩
end Go.Proofs.YtmgdkefoehlamaaGreatDoor
namespace Go.Proofs.YtmgdkefoehlamaaGreatDoor
open Go.RowKit
set_option linter.unusedVariables false
set_option linter.unusedSimpArgs false

def CovP (xs ys : List Pf) (z : Int) (w : World) (e : Ending) (w' : World) : Prop := ∃ (b : Bool) (zs : List (Ad × Ad)), e = .returned (.tuple #[.bool b, .int .i64 z]) ∧
  (z = 0 → (∀ p ∈ xs, p.R) ∧ (∀ p ∈ ys, p.R) ∧ Tells zs (CmbP (fun p q => q && !p) xs ys) ∧ (b = true ↔ zs = [])) ∧ (z ≠ 0 → b = false) ∧ Below w.heap.size w w'
set_option maxRecDepth 100000 in
set_option maxHeartbeats 4000000 in
theorem covers_any (A A' : Option Addr) (n cap n' cap' : Nat) (xs ys : List Pf) (w : World)
    (hS : SlE ePf w A n cap xs) (hS' : SlE ePf w A' n' cap' ys) (hn : n ≤ 1000) (hn' : n' ≤ 1000) (hU : ∀ p ∈ xs, p.U) (hU' : ∀ p ∈ ys, p.U) :
    Calls Tryz.prog 23 #[.slice A n cap, .slice A' n' cap'] w (CovP xs ys (firstZ [setF xs, setF ys]) w) := by
  have HC := Lib.hid (combine_any 53 _ kp_covers A A' n cap n' cap' xs ys w hS hS' hn hn' hU hU')
  clear hS hS' hn hn' hU hU'
  generalize firstZ [setF xs, setF ys] = z at *
  go_enter Tryz.func23, Tryz.ntmps23
  go_wp2_with fail
  refine HC.out.mono ?_
  rintro e w1 ⟨A2, cap2, zs, rfl, hz, h0, h1, hlen, hb⟩
  clear HC hz hlen
  replace h0 := Lib.hid h0
  clear h1
  by_cases hz0 : z = 0
  · subst hz0
    obtain ⟨r1, r2, r3⟩ := h0.out rfl
    have hfin := Lib.hid (⟨r1, r2, r3⟩ : (∀ p ∈ xs, p.R) ∧ (∀ p ∈ ys, p.R) ∧ Tells zs (CmbP (fun p q => q && !p) xs ys))
    clear r1 r2 r3 h0
    obtain ⟨m, hm⟩ : ∃ m, m = zs.length := ⟨_, rfl⟩
    rw [← hm]
    have hm2 := Lib.hid (show ((m : Int) == 0) = true ↔ zs = [] by
      rw [hm, beq_iff_eq]
      constructor
      · intro h; exact List.eq_nil_of_length_eq_zero (by omega)
      · rintro rfl; rfl)
    clear hm
    go_wp2_with fail
    go_ret2
    exact ⟨(m : Int) == 0, zs, rfl, fun _ => ⟨hfin.out.1, hfin.out.2.1, hfin.out.2.2, hm2.out⟩, fun h => absurd rfl h, hb⟩
  · have hzb : (z == 0) = false := by simp [hz0]
    go_wp2_with fail
    go_ret2
    exact ⟨false, zs, rfl, fun h => absurd h hz0, fun _ => rfl, hb⟩
end Go.Proofs.YtmgdkefoehlamaaGreatDoor
namespace Go.Proofs.YtmgdkefoehlamaaGreatDoor
open Go.RowKit
set_option linter.unusedVariables false
set_option linter.unusedSimpArgs false

theorem Ad.R.u {a : Ad} (h : a.R) : a.U := h.1
theorem scan_good : ∀ (ps : List Pf) (o : Option Pf), (∀ p ∈ ps, Pf.R p) → ps.Pairwise (fun p q => p.1.n < q.1.n) → (∀ q, o = some q → ∀ p ∈ ps, q.1.n < p.1.n) → scanF o ps = 0
  | [], _, _, _, _ => by unfold scanF; rfl
  | p :: r, o, hR, hs, ho => by
    rw [List.pairwise_cons] at hs
    have hp := hR p List.mem_cons_self
    have ih := scan_good r (some p) (fun x hx => hR x (List.mem_cons_of_mem _ hx)) hs.2 (fun q hq x hx => by cases hq; exact hs.1 x hx)
    cases o with
    | none =>
      unfold scanF
      rw [if_neg (by rw [(pfE_iff hp.1.u).2 hp]; decide), if_neg (by simp)]
      exact ih
    | some q =>
      have := ho q rfl p List.mem_cons_self
      unfold scanF
      rw [if_neg (by rw [(pfE_iff hp.1.u).2 hp]; decide), if_neg (by rw [decide_eq_true_eq]; omega)]
      exact ih
theorem cuts_mem (l : List (Nat × Nat)) (h : ∀ x ∈ l, Row x) (m : Nat) : (∃ b ∈ cuts l, InB b m) ↔ ∃ x ∈ l, x.1 ≤ m ∧ m < x.2 := by
  have key : ∀ x ∈ l, ((∃ b ∈ cutN x.1 x.2, InB b m) ↔ x.1 ≤ m ∧ m < x.2) := fun x hx => by
    have := cut_pts x.2 (x.2 - x.1) x.1 (Nat.le_refl _) (h x hx).2.small (m : Int)
    rw [inP_ivB] at this
    constructor
    · rintro ⟨b, hb, h1, h2⟩
      have := this.1 ⟨b, hb, by omega, by omega⟩
      omega
    · intro hm
      obtain ⟨b, hb, h1, h2⟩ := this.2 ⟨by omega, by omega⟩
      exact ⟨b, hb, by omega, by omega⟩
  unfold cuts
  constructor
  · rintro ⟨b, hb, hm⟩
    obtain ⟨x, hx, hbx⟩ := List.mem_flatMap.1 hb
    exact ⟨x, hx, (key x hx).1 ⟨b, hbx, hm⟩⟩
  · rintro ⟨x, hx, hm⟩
    obtain ⟨b, hb, h1⟩ := (key x hx).2 hm
    exact ⟨b, List.mem_flatMap.2 ⟨x, hx, hb⟩, h1⟩
theorem pfs_good {ys : List (Ad × Ad)} {P : Nat → Prop} (h : Tells ys P) : setF (pfsOf (ys.map rowA)) = 0 ∧ (∀ p ∈ pfsOf (ys.map rowA), Pf.R p) ∧ ∀ m, InA ((pfsOf (ys.map rowA)).map rgP) m ↔ P m := by
  have hrow := rows_R h.2.2
  have hR := pfsOf_R h.2.2
  have hblk : (pfsOf (ys.map rowA)).map blk = cuts (ys.map rowA) := map_blk_pfOf _ (fun b hb => (cuts_ok hrow b hb).2)
  have hL : LeastL ((pfsOf (ys.map rowA)).map blk) := by rw [hblk]; exact cuts_least _ hrow (pairs_rowA.2 h.1)
  refine ⟨?_, hR, fun m => ?_⟩
  · have hp := least_pairs _ hL
    rw [List.pairwise_map] at hp
    have hs := scan_good _ none hR (hp.imp fun {p q} h => by
      have := Nat.two_pow_pos (blk p).2
      have h1 : p.1.n = (blk p).1 := rfl
      have h2 : q.1.n = (blk q).1 := rfl
      omega) (by simp)
    unfold setF
    rw [if_neg (by rw [hs]; exact fun k => k rfl), if_pos hL]
  · rw [inA_rgP hR, ← h.2.1 m]
    have e : (∃ p ∈ pfsOf (ys.map rowA), InB (blk p) m) ↔ ∃ b ∈ cuts (ys.map rowA), InB b m := by
      rw [← hblk]
      constructor
      · rintro ⟨p, hp, hm⟩; exact ⟨_, List.mem_map_of_mem hp, hm⟩
      · rintro ⟨b, hb, hm⟩
        obtain ⟨p, hp, rfl⟩ := List.mem_map.1 hb
        exact ⟨p, hp, hm⟩
    rw [e, cuts_mem _ hrow]
    unfold InA
    constructor
    · rintro ⟨x, hx, h1, h2⟩
      obtain ⟨y, hy, rfl⟩ := List.mem_map.1 hx
      exact ⟨y, hy, h1, by have : m < y.2.n + 1 := h2; omega⟩
    · rintro ⟨y, hy, h1, h2⟩
      exact ⟨rowA y, List.mem_map_of_mem hy, h1, by show m < y.2.n + 1; omega⟩
theorem inS_iff {ps : List Pf} (hR : ∀ p ∈ ps, Pf.R p) (m : Nat) : inS ps m = true ↔ InA (ps.map rgP) m := by
  rw [inA_rgP hR]
  unfold inS
  rw [List.any_eq_true]
  constructor
  · rintro ⟨p, hp, h⟩
    unfold inQ at h
    have h' := of_decide_eq_true h
    exact ⟨p, hp, h'⟩
  · rintro ⟨p, hp, h⟩
    have h' : (blk p).1 ≤ m ∧ m < (blk p).1 + 2 ^ (blk p).2 := h
    exact ⟨p, hp, by unfold inQ; exact decide_eq_true h'⟩
end Go.Proofs.YtmgdkefoehlamaaGreatDoor
namespace Go.Proofs.YtmgdkefoehlamaaGreatDoor
open Go.RowKit
set_option linter.unusedVariables false
set_option linter.unusedSimpArgs false

theorem setF_lst {ps : List Pf} (h : setF ps = 0) : LeastL (ps.map blk) := by
  unfold setF at h
  split at h
  · rename_i k; exact absurd h k
  · split at h
    · assumption
    · cases h
theorem pfsOf_app (l l' : List (Nat × Nat)) : pfsOf (l ++ l') = pfsOf l ++ pfsOf l' := by
  unfold pfsOf cuts; rw [List.flatMap_append, List.map_append]
theorem pfsOf_empty {ys : List (Ad × Ad)} {P : Nat → Prop} (h : Tells ys P) : (pfsOf (ys.map rowA)).length = 0 ↔ ∀ m, ¬ P m := by
  obtain ⟨_, hR, hm⟩ := pfs_good h
  constructor
  · intro he m hP
    obtain ⟨x, hx, _⟩ := (hm m).2 hP
    rw [List.eq_nil_of_length_eq_zero he] at hx
    cases hx
  · intro hn
    cases hp : pfsOf (ys.map rowA) with
    | nil => rfl
    | cons p r =>
      exfalso
      have hmem : p ∈ pfsOf (ys.map rowA) := by rw [hp]; exact List.mem_cons_self
      exact hn _ ((hm (blk p).1).1 ((inA_rgP hR _).2 ⟨p, hmem, Nat.le_refl _, by have := Nat.two_pow_pos (blk p).2; omega⟩))
theorem inS_has {ps : List Pf} (hR : ∀ p ∈ ps, p.R) (m : Nat) : inS ps m = hasB (ps.map rgP) m := by
  rw [Bool.eq_iff_iff, inS_iff hR, hasB_iff]
theorem cmb_good {k : Bool → Bool → Bool} {xs ys ps : List Pf} (h : CmbS k xs ys ps) : setF ps = 0 ∧ (∀ p ∈ ps, p.R) ∧ ∀ m, Val m → inS ps m = k (inS xs m) (inS ys m) := by
  obtain ⟨hx, hy, zs, hz, rfl⟩ := h
  obtain ⟨g1, g2, g3⟩ := pfs_good hz
  refine ⟨g1, g2, fun m hv => ?_⟩
  rw [Bool.eq_iff_iff, inS_iff g2, g3 m, inS_has hx, inS_has hy]
  unfold CmbP
  exact ⟨fun h => h.2, fun h => ⟨hv, h⟩⟩
theorem tells_nil : Tells [] (fun _ => False) := ⟨List.Pairwise.nil, fun m => ⟨fun ⟨x, hx, _⟩ => (by cases hx), False.elim⟩, fun y hy => (by cases hy)⟩
def TlS (ps : List Pf) : Prop := ∃ zs, Tells zs (InA (ps.map rgP)) ∧ ps = pfsOf (zs.map rowA)
theorem tells_tl {ys : List (Ad × Ad)} {P : Nat → Prop} (h : Tells ys P) : TlS (pfsOf (ys.map rowA)) := ⟨ys, h.iff fun m => ((pfs_good h).2.2 m).symm, rfl⟩
theorem covers_left {xs ys left : List Pf} {zs : List (Ad × Ad)} (hz : Tells zs (CmbP (fun p q => q && !p) xs ys)) (hl : CmbS (fun p q => p && !q) ys xs left) : zs = [] ↔ left.length = 0 := by
  obtain ⟨_, _, ws, hw, rfl⟩ := hl
  have he : zs = ws := hz.unique hw (fun m => Iff.rfl)
  subst he
  rw [pfsOf_empty hw]
  constructor
  · rintro rfl m hm
    obtain ⟨x, hx, _⟩ := (hw.2.1 m).2 hm
    cases hx
  · intro hn
    exact hw.unique tells_nil (fun m => ⟨hn m, False.elim⟩)
theorem Ad.R.val {a : Ad} (h : a.R) : Val a.n := inA_val (xs := [(a, a)]) (fun x hx => by rw [List.mem_singleton.1 hx]; exact ⟨h, h, rfl, Nat.le_refl _⟩) ⟨_, List.mem_singleton_self _, Nat.le_refl _, Nat.le_refl _⟩
theorem spanE_R {x : Ad × Ad} (h : RgR x) : spanE x = 0 := by
  obtain ⟨h1, h2, h3, h4⟩ := h
  unfold spanE
  rw [(adEr_iff h1.u).2 h1, (adEr_iff h2.u).2 h2, show firstZ [0, 0] = 0 by simp [firstZ], if_neg (fun k => k rfl), if_neg (fun k => k h3), if_neg (by omega)]
theorem back_same {ps : List Pf} {ys : List (Ad × Ad)} (hR : ∀ p ∈ ps, p.R) (h : setF ps = 0) (hj : Joined ys (ps.map rgP)) : pfsOf (ys.map rowA) = ps := (leastP_same hR hj).1.2 (setF_lst h)

set_option maxRecDepth 100000 in
set_option maxHeartbeats 2000000 in
theorem rightSetG_any (w : World) (b R : Nat) (hs : Str w b (R + 26)) :
    Calls Tryz.prog 5 #[.pointer (some ⟨b, 0, none⟩)] w (PfsPost (fun ps => ps.length ≤ 5 ∧ (∀ p ∈ ps, p.R) ∧ setF ps = 0 ∧ TlS ps) b R w) := by
  have hbw := hs.lt
  go_enter Tryz.func5, Tryz.ntmps5
  go_wp2_with fail
  refine (range_any 0 5 w b (R + 25) (by decide) (by decide) (by decide) hs).mono ?_
  rintro e w1 ⟨r, ⟨hr1, hr2⟩, rfl, hs1, hg1⟩
  obtain ⟨m, rfl⟩ := Int.eq_ofNat_of_zero_le hr1
  have hm : m ≤ 5 := by omega
  clear hr1 hr2 hs
  go_wp2_with fail
  refine (prefixes_any m w1 b R (by omega) (hs1.le (by omega))).mono ?_
  rintro e w2 ⟨ps, v2, ⟨hp1, hp2⟩, rfl, ho2, hs2, hg2⟩
  obtain ⟨A2, c2, rfl, hS2⟩ := ho2.sl
  have HL := Lib.hid (leastOf_any A2 _ c2 ps w2 hS2 (by omega) hp2)
  rw [hp1] at HL ⊢
  have hp1' := Lib.hid hp1
  clear hp1
  replace hp2 := Lib.hid hp2
  have hg := gb_trans hg1 hg2
  clear ho2 hS2 hs1 hg1 hg2
  go_wp2_with fail
  refine HL.out.mono ?_
  rintro e w3 ⟨ys, hy1, hy2, ⟨v3, rfl, ho3⟩, hb3⟩
  have hfin := Lib.hid (show (pfsOf (ys.map rowA)).length ≤ 5 ∧ (∀ p ∈ pfsOf (ys.map rowA), p.R) ∧ setF (pfsOf (ys.map rowA)) = 0 ∧ TlS (pfsOf (ys.map rowA)) from ⟨by have := (leastP_same hp2.out hy1).2; have := hp1'.out; omega, pfsOf_R hy1.2.2, (pfs_good hy1.tells).1, tells_tl hy1.tells⟩)
  have hs3 := hs2.below hb3
  have hz := hg.size
  replace hg := gb_below hg hb3
  clear HL hy1 hb3 hs2
  go_wp2_with fail
  go_ret
  exact ⟨_, v3, hfin.out, rfl, ho3.mono hz, hs3, hg⟩
end Go.Proofs.YtmgdkefoehlamaaGreatDoor
namespace Go.Proofs.YtmgdkefoehlamaaGreatDoor
open Go.RowKit
set_option linter.unusedVariables false
set_option linter.unusedSimpArgs false

set_option maxRecDepth 100000 in
set_option maxHeartbeats 2000000 in
theorem hasFn_any (a : Ad) (p : Nat) (A : Option Addr) (n cap : Nat) (ps : List Pf) (w : World) (hP : Blk w p [.bool a.s, .int .u64 a.hi, .int .u64 a.lo] 38) (hS : SlE ePf w A n cap ps) (hn : n ≤ 1000) (hR : ∀ p ∈ ps, p.R) (hs : setF ps = 0) (ha : a.R) :
    Calls Tryz.prog 18 #[.slice A n cap, .int .i64 0, .pointer (some ⟨p, 0, none⟩)] w (GivesV (.bool (inS ps a.n)) w) := by
  have HH := Lib.hid (addrHas_any a A n cap ps w hS hn (fun p hp => (hR p hp).u) ha.u)
  have hz : firstZ [setF ps, adEr a] = 0 := by rw [hs, (adEr_iff ha.u).2 ha]; simp [firstZ]
  rw [hz] at HH
  have lx := hP.ld rowAd rfl
  clear hS hP
  go_enter Tryz.func18, Tryz.ntmps18
  go_wp2_with fail
  refine HH.out.mono ?_
  rintro e w1 ⟨b, rfl, hb1, _, hv⟩
  have hb := hb1.out trivial
  subst hb
  clear hb1 HH lx
  go_wp2_with fail
  go_ret
  exact ⟨by simp, hv⟩
end Go.Proofs.YtmgdkefoehlamaaGreatDoor
