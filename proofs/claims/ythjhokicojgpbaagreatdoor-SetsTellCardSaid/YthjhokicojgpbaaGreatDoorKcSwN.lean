/- Sets: Covers. -/
import Derived.Test.YthjhokicojgpbaaGreatDoorKcSvQ
import Derived.Test.YthjhokicojgpbaaGreatDoorKcPfxE
import Derived.Test.YthjhokicojgpbaaGreatDoorKcSvM
namespace Go.Proofs.YthjhokicojgpbaaGreatDoor
open Go.RowKit
set_option linter.unusedVariables false
set_option linter.unusedSimpArgs false

/-- A prefix has an address. -/
def inQ (p : Pf) (m : Nat) : Bool := decide ((blk p).1 ≤ m ∧ m < (blk p).1 + 2 ^ (blk p).2)
def inS (ps : List Pf) (m : Nat) : Bool := ps.any fun p => inQ p m
theorem contains_n (p : Pf) (a : Ad) (w : World) (hp : p.R) (ha : a.R) : Calls Tryz.prog 90 #[pfA p, adA a] w (GivesV (.bool (inQ p a.n)) w) := by
  unfold inQ
  rw [← ctP_eq hp ha]
  exact contains_any p.1.s p.1.hi p.1.lo p.2 a.s a.hi a.lo w hp.1.1.1.1 hp.1.1.1.2 hp.1.1.2.1 hp.1.1.2.2 ha.1.1.1 ha.1.1.2 ha.1.2.1 ha.1.2.2 hp.2.1 hp.2.2.1
theorem hdP_eq {p : Pf} {a : Ad} (hp : p.R) (ha : a.R) : hdB (num p.1.hi p.1.lo) (lenZ p.1.s - p.2).toNat p.1.s (num a.hi a.lo) a.s = inQ p a.n := by
  rw [hdB_eq]
  show (p.1.s == a.s && decide (p.1.v ≤ a.v ∧ a.v ≤ fil p.1.v (freeB p))) = decide (p.1.n ≤ a.n ∧ a.n < p.1.n + 2 ^ freeB p)
  rw [fil_blk hp]
  have hpos := Nat.two_pow_pos (freeB p)
  have h1 : p.1.n = s2n p.1.s + p.1.v := rfl
  have h2 : a.n = s2n a.s + a.v := rfl
  have h3 := rg_fam (rgP_R hp)
  have h4 := rgP_n hp
  have h5 : (rgP p).1 = p.1 := rfl
  have h6 := ad_fam ha
  rw [h5] at h3
  rw [Bool.eq_iff_iff, Bool.and_eq_true, beq_iff_eq, decide_eq_true_iff, decide_eq_true_iff]
  constructor
  · rintro ⟨e, k1, k2⟩
    rw [h1, h2, e]
    omega
  · rintro ⟨k1, k2⟩
    have e : p.1.s = a.s := rg_fam_of (rgP_R hp) h6.1 h6.2 k1 (by omega)
    rw [h1, h2, e] at k1
    rw [h1, h2, e] at k2
    exact ⟨e, by omega, by omega⟩
theorem holds_n (p : Pf) (a : Ad) (w : World) (hp : p.R) (ha : a.R) : Calls Tryz.prog 97 #[pfA p, adA a] w (GivesV (.bool (inQ p a.n)) w) := by
  rw [← hdP_eq hp ha]
  exact holds_any p.1.s p.1.hi p.1.lo p.2 a.s a.hi a.lo w hp.1.1.1.1 hp.1.1.1.2 hp.1.1.2.1 hp.1.1.2.2 ha.1.1.1 ha.1.1.2 ha.1.2.1 ha.1.2.2 hp.2.1 hp.2.2.1

set_option maxRecDepth 100000 in
theorem hasC_any (p : Pf) (a : Ad) (g : Nat) (w : World) (hp : p.R) (ha : a.R) (h : Blk w g (adC a) 28) :
    Calls Tryz.prog 89 #[pfA p, .pointer (some ⟨g, 0, none⟩)] w (GivesV (.bool (inQ p a.n)) w) := by
  have HC := fun w' => Lib.hid (contains_n p a w' hp ha)
  generalize inQ p a.n = V at *
  have hC := Blk.new w (pfC p) 52
  have hbw : Below w.heap.size w (w.alloc (.cells (pfC p).toArray 52)) := (Below.refl _ _).alloc (Nat.le_refl _) _
  replace h := Blk.below h hbw
  have k1 := hC.ld rowPf rfl
  have k2 := h.ld rowAd rfl
  clear hp ha
  go_enter Tryz.func89, Tryz.ntmps89
  go_wp2_with fail
  refine (HC _).out.mono ?_
  rintro e w1 ⟨rfl, hb1⟩
  replace hbw := hbw.trans (hb1.mono hbw.size)
  go_wp2_with fail
  go_ret
  exact ⟨rfl, hbw⟩

set_option maxRecDepth 100000 in
theorem hasR_any (p : Pf) (a : Ad) (g : Nat) (w : World) (hp : p.R) (ha : a.R) (h : Blk w g (adC a) 28) :
    Calls Tryz.prog 96 #[pfA p, .pointer (some ⟨g, 0, none⟩)] w (GivesV (.bool (inQ p a.n)) w) := by
  have HC := fun w' => Lib.hid (holds_n p a w' hp ha)
  generalize inQ p a.n = V at *
  have hC := Blk.new w (pfC p) 52
  have hbw : Below w.heap.size w (w.alloc (.cells (pfC p).toArray 52)) := (Below.refl _ _).alloc (Nat.le_refl _) _
  replace h := Blk.below h hbw
  have k1 := hC.ld rowPf rfl
  have k2 := h.ld rowAd rfl
  clear hp ha
  go_enter Tryz.func96, Tryz.ntmps96
  go_wp2_with fail
  refine (HC _).out.mono ?_
  rintro e w1 ⟨rfl, hb1⟩
  replace hbw := hbw.trans (hb1.mono hbw.size)
  go_wp2_with fail
  go_ret
  exact ⟨rfl, hbw⟩

set_option maxRecDepth 100000 in
theorem indexF_any (kf g : Nat) (t : Nat) (A : Option Addr) (n cap : Nat) (ps : List Pf) (w : World) (hS : SlE ePf w A n cap ps) (hn : n ≤ 100000) (hR : ∀ p ∈ ps, p.R)
    (HF : ∀ p W, p.R → Below w.heap.size w W → Calls Tryz.prog kf #[pfA p, .pointer (some ⟨g, 0, none⟩)] W (GivesV (.bool (inQ p t)) W)) (eg : ∀ args w, (callFunc kf args).run Tryz.prog w = .ok (.enter kf args) w) :
    Calls Tryz.prog 136 #[.slice A n cap, .func (.func kf) #[] #[.pointer (some ⟨g, 0, none⟩)]] w fun e w' => ∃ i : Int, e = .returned (.int .i64 i) ∧ decide (0 ≤ i) = inS ps t ∧ Below w.heap.size w w' := by
  have hnl := Lib.hid hS.1
  replace hS := Lib.hid hS
  replace hR := Lib.hid hR
  replace HF := Lib.hid HF
  go_enter Tryz.func136, Tryz.ntmps136
  go_wp2_with fail
  go_loopw [8] (fun v8 wr => ∃ k : Nat, k ≤ n ∧ v8 = .int .i64 k ∧ Hid (∀ p ∈ ps.take k, inQ p t = false) ∧ Below w.heap.size w wr) (fun v8 _ => n - (intOf v8).toNat)
  case atStart => exact ⟨0, by omega, rfl, Lib.hid (by simp), Below.refl _ _⟩
  case round =>
    obtain ⟨k, hk, rfl, hI, hbw⟩ := hrel
    by_cases hlt : k < n
    · obtain ⟨p, hp⟩ : ∃ p, ps[k]? = some p := ⟨ps[k]'(by have := hnl.out; omega), List.getElem?_eq_getElem _⟩
      obtain ⟨g0, off, rfl, _, _⟩ := hS.out.at' hlt
      have hld := SlE.ld rowPf (hS.out.below hbw) hp
      replace hld : (ldT 52 (.pointer (some ⟨g0, off + k * 4, none⟩))).run Tryz.prog wr = .ok (.value (pfA p)) wr := hld
      have hpR := hR.out p (List.mem_of_getElem? hp)
      have HFp := Lib.hid (fun W hW => HF.out p W hpR hW)
      have hlt' : (k : Int) < n := by omega
      have hyes := Lib.hid (fun (e : inQ p t = true) => (show inS ps t = true from List.any_eq_true.2 ⟨p, List.mem_of_getElem? hp, e⟩))
      have hno := Lib.hid (fun (e : inQ p t = false) => (show ∀ p ∈ ps.take (k + 1), inQ p t = false from fun x hx => by
        rw [List.take_add_one, hp] at hx
        rcases List.mem_append.1 hx with h | h
        · exact hI.out x h
        · rw [show x = p by simpa using h]; exact e))
      generalize inQ p t = V at *
      replace hp := Lib.hid hp
      clear hpR hI
      go_wp2_with fail
      refine (HFp.out _ hbw).mono ?_
      rintro e w1 ⟨rfl, hv⟩
      replace hbw := hbw.trans (hv.mono hbw.size)
      clear hv hld HFp
      cases V with
      | true =>
        have hfin := Lib.hid (hyes.out rfl)
        clear hyes hno
        go_wp2_with fail
        go_ret
        first | exact ⟨k, rfl, by rw [hfin.out]; exact decide_eq_true (by omega), hbw⟩ | exact ⟨⟨k, rfl, by rw [hfin.out]; exact decide_eq_true (by omega)⟩, hbw⟩
      | false =>
        have hI2 := Lib.hid (hno.out rfl)
        clear hyes hno
        go_wp2_with fail
        go_roundw
        case rel => exact ⟨k + 1, by omega, by go_num, hI2, hbw⟩
        case measure => simp [intOf]; omega
    · have hfin := Lib.hid (show inS ps t = false by
        have h := hI.out
        rw [List.take_of_length_le (by have := hnl.out; omega)] at h
        rw [Bool.eq_false_iff]
        intro e
        obtain ⟨p, hp, e2⟩ := List.any_eq_true.1 e
        rw [h p hp] at e2
        cases e2)
      clear hI
      go_wp2_with fail
      go_ret
      first | exact ⟨-1, rfl, by rw [hfin.out]; rfl, hbw⟩ | exact ⟨⟨-1, rfl, by rw [hfin.out]; rfl⟩, hbw⟩
set_option maxRecDepth 100000 in
theorem containsF_any (kf g : Nat) (t : Nat) (A : Option Addr) (n cap : Nat) (ps : List Pf) (w : World) (hS : SlE ePf w A n cap ps) (hn : n ≤ 100000) (hR : ∀ p ∈ ps, p.R)
    (HF : ∀ p W, p.R → Below w.heap.size w W → Calls Tryz.prog kf #[pfA p, .pointer (some ⟨g, 0, none⟩)] W (GivesV (.bool (inQ p t)) W)) (eg : ∀ args w, (callFunc kf args).run Tryz.prog w = .ok (.enter kf args) w) :
    Calls Tryz.prog 88 #[.slice A n cap, .func (.func kf) #[] #[.pointer (some ⟨g, 0, none⟩)]] w (GivesV (.bool (inS ps t)) w) := by
  have H := Lib.hid (indexF_any kf g t A n cap ps w hS hn hR HF eg)
  clear hS hR HF eg
  generalize inS ps t = V at *
  go_enter Tryz.func88, Tryz.ntmps88
  go_wp2_with fail
  refine H.out.mono ?_
  rintro e w1 ⟨i, rfl, hi, hb⟩
  subst hi
  clear H
  go_wp2_with fail
  go_ret
  exact ⟨rfl, hb⟩

set_option maxRecDepth 100000 in
theorem hasOf_any (a : Ad) (A : Option Addr) (n cap : Nat) (ps : List Pf) (w : World) (hS : SlE ePf w A n cap ps) (hn : n ≤ 100000) (hR : ∀ p ∈ ps, p.R) (ha : a.R) :
    Calls Tryz.prog 48 #[.slice A n cap, adA a] w (GivesV (.bool (inS ps a.n)) w) := by
  have h1 := Blk.new w (adC a) 28
  have hbw : Below w.heap.size w (w.alloc (.cells (adC a).toArray 28)) := (Below.refl _ _).alloc (Nat.le_refl _) _
  have H := Lib.hid (containsF_any 96 w.heap.size a.n A n cap ps _ (hS.below hbw) hn hR (fun p W hp hW => hasR_any p a _ W hp ha (Blk.below h1 hW)) (enters_of Tryz.func96 (by kernel_rfl) rfl))
  clear hS hR ha h1
  generalize inS ps a.n = V at *
  go_enter Tryz.func48, Tryz.ntmps48
  go_wp2_with fail
  refine H.out.mono ?_
  rintro e w1 ⟨rfl, hb⟩
  replace hbw := hbw.trans (hb.mono hbw.size)
  go_wp2_with fail
  go_ret
  exact ⟨rfl, hbw⟩

set_option maxRecDepth 100000 in
set_option maxHeartbeats 4000000 in
theorem addrHas_any (a : Ad) (A : Option Addr) (n cap : Nat) (ps : List Pf) (w : World) (hS : SlE ePf w A n cap ps) (hn : n ≤ 1000) (hU : ∀ p ∈ ps, p.U) (ha : a.U) :
    Calls Tryz.prog 45 #[.slice A n cap, adA a] w fun e w' => ∃ b, e = .returned (.tuple #[.bool b, .int .i64 (firstZ [setF ps, adEr a])]) ∧ Hid (firstZ [setF ps, adEr a] = 0 → b = inS ps a.n) ∧ Hid (firstZ [setF ps, adEr a] ≠ 0 → b = false) ∧ Below w.heap.size w w' := by
  have HC := fun W (hW : Below w.heap.size w W) => checkSet_any A n cap ps W (hS.below hW) hn hU
  have HA := fun W => checkAddr_n a W
  have HS := Lib.hid (fun W g (hW : Below w.heap.size w W) (h1 : Blk W g (adC a) 28) (hR : ∀ p ∈ ps, p.R) (hr : a.R) => containsF_any 89 g a.n A n cap ps W (hS.below hW) (by omega) hR (fun p W' hp hW' => hasC_any p a g W' hp hr (Blk.below h1 hW')) (enters_of Tryz.func89 (by kernel_rfl) rfl))
  have HR := Lib.hid (show firstZ [setF ps, adEr a] = 0 → (∀ p ∈ ps, p.R) ∧ a.R from fun h => ⟨setF_ok hU ((firstZ_both _ _).1 h).1, (adEr_iff ha).1 ((firstZ_both _ _).1 h).2⟩)
  have h1 := Blk.new w (adC a) 28
  have hbw : Below w.heap.size w (w.alloc (.cells (adC a).toArray 28)) := (Below.refl _ _).alloc (Nat.le_refl _) _
  obtain ⟨E1, hE1⟩ : ∃ E, E = setF ps := ⟨_, rfl⟩
  obtain ⟨E2, hE2⟩ : ∃ E, E = adEr a := ⟨_, rfl⟩
  rw [← hE1] at HC HR ⊢
  rw [← hE2] at HA HR ⊢
  clear hE1 hE2 hS hU ha
  obtain ⟨E, hE⟩ : ∃ E, E = firstZ [E1, E2] := ⟨_, rfl⟩
  rw [← hE] at HR ⊢
  replace hE := Lib.hid hE
  go_enter Tryz.func45, Tryz.ntmps45
  go_upto_region 1 with fail
  generalize w.alloc (.cells (adC a).toArray 28) = w0 at *
  refine wx_begin (none) [] (by kernel_rfl) (fun u0 hb0' hz0' => ?_)
  replace h1 := h1.below hb0'
  replace hbw := hbw.trans (hb0'.mono hbw.size)
  clear hb0' hz0'
  refine wx_pure (i := 0) (d := some 7) (v := ?_) (by simp only [List.getElem?_toArray, List.getElem?_cons_succ, List.getElem?_cons_zero] <;> rfl) (by rfl) (by kernel_rfl) (by kernel_rfl) (by kernel_rfl) (fun _ _ _ h => h) (by rfl) ?_ ?_
  rotate_left
  · ((intro u); go_simp; try with_reducible rfl)
  try simp only [Act.put, List.setIfInBounds_toArray, List.set_cons_zero, List.set_cons_succ]
  refine wx_take (i := 2) (d := some 9) (v := ?_) (by simp only [List.getElem?_toArray, List.getElem?_cons_succ, List.getElem?_cons_zero] <;> rfl) (by rfl) (by kernel_rfl) (by kernel_rfl) (by kernel_rfl) (fun _ _ _ h => h) (by rfl) (by kernel_rfl) ?_ ?_
  rotate_left
  · ((intro u hu); have k1 := (h1.gn hu).ld rowAd rfl; go_simp; try with_reducible rfl)
  try simp only [Act.put, List.setIfInBounds_toArray, List.set_cons_zero, List.set_cons_succ]
  refine wx_one (i := 1) (by simp only [List.getElem?_toArray, List.getElem?_cons_succ, List.getElem?_cons_zero] <;> rfl) (by kernel_rfl) (by rfl) (fun K hK => ?_)
  go_simp
  refine (HC _ hbw).mono ?_
  rintro e u1 ⟨rfl, hv1⟩
  refine hK _ _ (gbB hv1) ?_
  replace h1 := h1.below hv1
  replace hbw := hbw.trans (hv1.mono hbw.size)
  clear hK K hv1
  try simp only [Act.put, List.setIfInBounds_toArray, List.set_cons_zero, List.set_cons_succ]
  refine wx_one (i := 3) (by simp only [List.getElem?_toArray, List.getElem?_cons_succ, List.getElem?_cons_zero] <;> rfl) (by kernel_rfl) (by rfl) (fun K hK => ?_)
  go_simp
  refine (HA _).mono ?_
  rintro e u2 ⟨rfl, hv1⟩
  refine hK _ _ (gbB hv1) ?_
  replace h1 := h1.below hv1
  replace hbw := hbw.trans (hv1.mono hbw.size)
  clear hK K hv1
  try simp only [Act.put, List.setIfInBounds_toArray, List.set_cons_zero, List.set_cons_succ]
  refine wx_one (i := 4) (by simp only [List.getElem?_toArray, List.getElem?_cons_succ, List.getElem?_cons_zero] <;> rfl) (by kernel_rfl) (by rfl) (fun K hK => ?_)
  go_simp
  refine hK _ _ (World.grownBy_alloc _ _ none) ?_
  refine wx_new (cs := [E1, E2].map (Value.int .i64)) (t := 30) (fun u3 hv1 hL3 hz3 => ?_)
  replace h1 := h1.below hv1
  replace hbw := hbw.trans (hv1.mono hbw.size)
  clear hK K hv1 hz3
  try simp only [Act.put, List.setIfInBounds_toArray, List.set_cons_zero, List.set_cons_succ]
  refine wx_one (i := 5) (by simp only [List.getElem?_toArray, List.getElem?_cons_succ, List.getElem?_cons_zero] <;> rfl) (by kernel_rfl) (by rfl) (fun K hK => ?_)
  go_simp
  refine (orE_blk [E1, E2] _ _ _ _ hL3 (by simp)).mono ?_
  rintro e u4 ⟨rfl, rfl⟩
  refine hK _ _ (gb_refl _ _) ?_
  clear hK K hL3
  try simp only [Act.put, List.setIfInBounds_toArray, List.set_cons_zero, List.set_cons_succ]
  refine wx_pure (i := 6) (d := some 6) (v := ?_) (by simp only [List.getElem?_toArray, List.getElem?_cons_succ, List.getElem?_cons_zero] <;> rfl) (by rfl) (by kernel_rfl) (by kernel_rfl) (by kernel_rfl) (fun _ _ _ h => h) (by rfl) ?_ ?_
  rotate_left
  · ((intro u); go_simp; try with_reducible rfl)
  try simp only [Act.put, List.setIfInBounds_toArray, List.set_cons_zero, List.set_cons_succ]
  refine wx_done (by kernel_rfl) ?_ _
  skip
  rw [← hE.out]
  clear HC HA hE
  by_cases hE0 : E = 0
  · have b0 : (E == 0) = true := by simp [hE0]
    have hE1 := Lib.hid hE0
    obtain ⟨hR, hr⟩ := HR.out hE0
    have H := Lib.hid (HS.out _ _ hbw h1 hR hr)
    clear hE0 hR hr HS HR
    obtain ⟨V, hV⟩ : ∃ V, V = inS ps a.n := ⟨_, rfl⟩
    rw [← hV] at H
    replace hV := Lib.hid hV
    go_wp2_with fail
    refine H.out.mono ?_
    rintro e w1 ⟨rfl, hb⟩
    replace hbw := hbw.trans (hb.mono hbw.size)
    clear H
    go_wp2_with fail
    go_ret2
    exact ⟨V, by rw [hE1.out]; rfl, Lib.hid fun _ => hV.out, Lib.hid fun h => absurd hE1.out h, hbw⟩
  · have b0 : (E == 0) = false := by simp [hE0]
    have hE1 := Lib.hid hE0
    clear hE0 HS HR
    go_wp2_with fail
    go_ret2
    exact ⟨false, rfl, Lib.hid fun h => absurd h hE1.out, Lib.hid fun _ => rfl, hbw⟩
end Go.Proofs.YthjhokicojgpbaaGreatDoor
namespace Go.Proofs.YthjhokicojgpbaaGreatDoor
open Go.RowKit
set_option linter.unusedVariables false
set_option linter.unusedSimpArgs false

/-- What Covers hands back. -/
def CovP (xs ys : List Pf) (z : Int) (w : World) (e : Ending) (w' : World) : Prop := ∃ (b : Bool) (zs : List (Ad × Ad)), e = .returned (.tuple #[.bool b, .int .i64 z]) ∧
  (z = 0 → (∀ p ∈ xs, p.R) ∧ (∀ p ∈ ys, p.R) ∧ Tells zs (CmbP (fun p q => q && !p) xs ys) ∧ (b = true ↔ zs = [])) ∧ (z ≠ 0 → b = false) ∧ Below w.heap.size w w'
set_option maxRecDepth 100000 in
set_option maxHeartbeats 4000000 in
theorem covers_any (A A' : Option Addr) (n cap n' cap' : Nat) (xs ys : List Pf) (w : World)
    (hS : SlE ePf w A n cap xs) (hS' : SlE ePf w A' n' cap' ys) (hn : n ≤ 1000) (hn' : n' ≤ 1000) (hU : ∀ p ∈ xs, p.U) (hU' : ∀ p ∈ ys, p.U) :
    Calls Tryz.prog 46 #[.slice A n cap, .slice A' n' cap'] w (CovP xs ys (firstZ [setF xs, setF ys]) w) := by
  have HC := Lib.hid (combine_any 92 _ kp_covers A A' n cap n' cap' xs ys w hS hS' hn hn' hU hU')
  clear hS hS' hn hn' hU hU'
  generalize firstZ [setF xs, setF ys] = z at *
  go_enter Tryz.func46, Tryz.ntmps46
  go_wp2_with fail
  refine HC.out.mono ?_
  rintro e w1 ⟨A2, cap2, zs, rfl, hz, h0, h1, hlen, hb⟩
  clear HC hz hlen
  replace h0 := Lib.hid h0
  clear h1
  by_cases hz0 : z = 0
  · subst hz0
    obtain ⟨r1, r2, r3⟩ := h0.out rfl
    have hfin := Lib.hid (⟨r1, r2, r3⟩ : (∀ p ∈ xs, p.R) ∧ (∀ p ∈ ys, p.R) ∧ Tells zs (CmbP (fun p q => q && !p) xs ys))
    clear r1 r2 r3 h0
    obtain ⟨m, hm⟩ : ∃ m, m = zs.length := ⟨_, rfl⟩
    rw [← hm]
    have hm2 := Lib.hid (show ((m : Int) == 0) = true ↔ zs = [] by
      rw [hm, beq_iff_eq]
      constructor
      · intro h; exact List.eq_nil_of_length_eq_zero (by omega)
      · rintro rfl; rfl)
    clear hm
    go_wp2_with fail
    go_ret2
    exact ⟨(m : Int) == 0, zs, rfl, fun _ => ⟨hfin.out.1, hfin.out.2.1, hfin.out.2.2, hm2.out⟩, fun h => absurd rfl h, hb⟩
  · have hzb : (z == 0) = false := by simp [hz0]
    go_wp2_with fail
    go_ret2
    exact ⟨false, zs, rfl, fun h => absurd h hz0, fun _ => rfl, hb⟩
end Go.Proofs.YthjhokicojgpbaaGreatDoor
