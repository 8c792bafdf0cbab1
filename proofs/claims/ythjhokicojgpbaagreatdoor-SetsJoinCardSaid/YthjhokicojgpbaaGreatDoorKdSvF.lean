/- Sets: has a list of ranges an address? -/
import Derived.Test.YthjhokicojgpbaaGreatDoorKdSvE
import Derived.Test.YthjhokicojgpbaaGreatDoorKdStF
namespace Go.Proofs.YthjhokicojgpbaaGreatDoor
open Go.RowKit
set_option linter.unusedVariables false
set_option linter.unusedSimpArgs false

/-- What Has asks of a range. -/
def hsF (x : Ad × Ad) (t : Nat) : Int := if x.2.n < t then -1 else if t < x.1.n then 1 else 0
set_option maxRecDepth 100000 in
theorem has1_any (x : Ad × Ad) (a : Ad) (w : World) (hx : RgR x) (ha : a.U) : Calls Tryz.prog 267 #[rgA x, rgA (a, a)] w (GivesV (.int .i64 (hsF x a.n)) w) := by
  have H1 := fun w' => Lib.hid ((spanCmp_d x.2 a w' hx.2.1.1 ha).mono fun e w2 h => h.v)
  have H2 := fun w' => Lib.hid ((spanCmp_d x.1 a w' hx.1.1 ha).mono fun e w2 h => h.v)
  obtain ⟨h1, h2⟩ := two_new w (rgC x) (rgC (a, a)) 49 49
  have hbw := below_two w (.cells (rgC x).toArray 49) (.cells (rgC (a, a)).toArray 49)
  have hV := Lib.hid (show (x.2.n < a.n → hsF x a.n = -1) ∧ (¬ x.2.n < a.n → hsF x a.n = max (cmpN x.1.n a.n) 0) from ⟨fun h => if_pos h, fun h => by
    unfold hsF cmpN
    rw [if_neg h]
    rcases Nat.lt_trichotomy x.1.n a.n with k | k | k
    · rw [if_neg (by omega), if_pos k]; rfl
    · rw [if_neg (by omega), if_neg (by omega), if_pos k]; rfl
    · rw [if_pos k, if_neg (by omega), if_neg (by omega)]; rfl⟩)
  have hcl := Lib.hid (cmpN_lt x.2.n a.n)
  generalize hsF x a.n = V at *
  generalize hc1 : cmpN x.2.n a.n = c1 at *
  generalize hc2 : cmpN x.1.n a.n = c2 at *
  clear hx ha hc1 hc2
  go_enter Tryz.func267, Tryz.ntmps267
  go_upto_region 1 with fail
  generalize (w.alloc (.cells (rgC x).toArray 49)).alloc (.cells (rgC (a, a)).toArray 49) = W at *
  have k1 := h1.ldAt rowAd 0 (adC x.1) (adC x.2) rfl rfl
  have k2 := h1.ldAt rowAd 3 (adC x.2) [] rfl rfl
  have k3 := h2.ldAt rowAd 0 (adC a) (adC a) rfl rfl
  have k4 := h2.ldAt rowAd 3 (adC a) [] rfl rfl
  go_wp2_with fail
  refine (H1 _).out.mono ?_
  rintro e w1 ⟨rfl, hb1⟩
  replace h1 := h1.below hb1
  replace h2 := h2.below hb1
  replace hbw := hbw.trans (hb1.mono hbw.size)
  clear hb1 k1 k2 k3 k4 H1
  have k1 := h1.ldAt rowAd 0 (adC x.1) (adC x.2) rfl rfl
  have k3 := h2.ldAt rowAd 0 (adC a) (adC a) rfl rfl
  have k4 := h2.ldAt rowAd 3 (adC a) [] rfl rfl
  by_cases hlt : x.2.n < a.n
  · have e1 := Lib.hid (hV.out.1 hlt)
    have HV : c1 < 0 := by have h := hcl.out; rw [decide_eq_true hlt] at h; exact of_decide_eq_true h
    clear hV hcl hlt
    go_wp2_with fail
    go_ret
    exact ⟨by rw [e1.out]; rfl, hbw⟩
  · have e1 := Lib.hid (hV.out.2 hlt)
    have HV : ¬ c1 < 0 := by have h := hcl.out; rw [decide_eq_false hlt] at h; exact of_decide_eq_false h
    clear hV hcl hlt
    go_wp2_with fail
    refine (H2 _).out.mono ?_
    rintro e w2 ⟨rfl, hb2⟩
    replace hbw := hbw.trans (hb2.mono hbw.size)
    clear hb2 k1 k3 k4 H2
    go_wp2_with fail
    all_goals go_ret
    all_goals exact ⟨by rw [e1.out]; first | rfl | (congr 2; omega), hbw⟩

theorem hs_neg (x : Ad × Ad) (t : Nat) : hsF x t < 0 ↔ x.2.n < t := by
  unfold hsF
  by_cases h : x.2.n < t
  · rw [if_pos h]; exact ⟨fun _ => h, fun _ => by decide⟩
  · rw [if_neg h]
    refine ⟨fun k => ?_, fun k => absurd k h⟩
    by_cases h2 : t < x.1.n
    · rw [if_pos h2] at k; omega
    · rw [if_neg h2] at k; omega
theorem hs_zero {x : Ad × Ad} (hx : x.1.n ≤ x.2.n) (t : Nat) : hsF x t = 0 ↔ x.1.n ≤ t ∧ t ≤ x.2.n := by
  unfold hsF
  by_cases h : x.2.n < t
  · rw [if_pos h]; exact ⟨fun k => absurd k (by decide), fun k => absurd k.2 (by omega)⟩
  · rw [if_neg h]
    by_cases h2 : t < x.1.n
    · rw [if_pos h2]; exact ⟨fun k => absurd k (by decide), fun k => absurd k.1 (by omega)⟩
    · rw [if_neg h2]; exact ⟨fun _ => by omega, fun _ => rfl⟩
theorem apart_get {l : List (Ad × Ad)} (hp : l.Pairwise (fun x y => x.2.n + 1 < y.1.n)) {i j : Nat} {x y : Ad × Ad} (hx : l[i]? = some x) (hy : l[j]? = some y) (h : i < j) : x.2.n + 1 < y.1.n := by
  obtain ⟨h5, rfl⟩ := List.getElem?_eq_some_iff.1 hx
  obtain ⟨h6, rfl⟩ := List.getElem?_eq_some_iff.1 hy
  exact List.pairwise_iff_getElem.1 hp i j h5 h6 h
/-- Where the search stands. -/
def SrI (zs : List (Ad × Ad)) (t i j : Nat) : Prop := (∀ k x, k < i → zs[k]? = some x → x.2.n < t) ∧ (∀ k x, j ≤ k → zs[k]? = some x → t ≤ x.2.n)
theorem SrI.up {zs : List (Ad × Ad)} (hp : zs.Pairwise (fun x y => x.2.n + 1 < y.1.n)) (hR : ∀ z ∈ zs, RgR z) {t i j h : Nat} (H : SrI zs t i j) {x : Ad × Ad} (hx : zs[h]? = some x) (hl : x.2.n < t) : SrI zs t (h + 1) j :=
  ⟨fun k y hk hy => by
    rcases Nat.lt_or_ge k h with q | q
    · have := apart_get hp hy hx q
      have := (hR x (List.mem_of_getElem? hx)).2.2.2
      omega
    · have e : k = h := by omega
      subst e; rw [hx] at hy; cases hy; exact hl, H.2⟩
theorem SrI.down {zs : List (Ad × Ad)} (hp : zs.Pairwise (fun x y => x.2.n + 1 < y.1.n)) (hR : ∀ z ∈ zs, RgR z) {t i j h : Nat} (H : SrI zs t i j) {x : Ad × Ad} (hx : zs[h]? = some x) (hl : ¬ x.2.n < t) : SrI zs t i h :=
  ⟨H.1, fun k y hk hy => by
    rcases Nat.lt_or_ge h k with q | q
    · have := apart_get hp hx hy q
      have := (hR y (List.mem_of_getElem? hy)).2.2.2
      omega
    · have e : k = h := by omega
      subst e; rw [hx] at hy; cases hy; omega⟩
theorem SrI.found {zs : List (Ad × Ad)} (hp : zs.Pairwise (fun x y => x.2.n + 1 < y.1.n)) (hR : ∀ z ∈ zs, RgR z) {t i : Nat} (H : SrI zs t i i) {x : Ad × Ad} (hx : zs[i]? = some x) : hasB zs t = decide (hsF x t = 0) := by
  rw [Bool.eq_iff_iff, hasB_iff, decide_eq_true_iff, hs_zero (hR x (List.mem_of_getElem? hx)).2.2.2]
  constructor
  · rintro ⟨y, hy, h1, h2⟩
    obtain ⟨k, hk⟩ := List.mem_iff_getElem?.1 hy
    rcases Nat.lt_trichotomy k i with q | q | q
    · have := H.1 k y q hk; omega
    · subst q; rw [hx] at hk; cases hk; exact ⟨h1, h2⟩
    · have := apart_get hp hx hk q
      have := H.2 i x (Nat.le_refl _) hx
      omega
  · intro h
    exact ⟨x, List.mem_of_getElem? hx, h⟩
theorem SrI.none {zs : List (Ad × Ad)} {t i : Nat} (H : SrI zs t i i) (hi : zs.length ≤ i) : hasB zs t = false := by
  rw [Bool.eq_false_iff]
  intro h
  obtain ⟨y, hy, h1, h2⟩ := (hasB_iff _ _).1 h
  obtain ⟨k, hk⟩ := List.mem_iff_getElem?.1 hy
  have := H.1 k y (by have := (List.getElem?_eq_some_iff.1 hk).1; omega) hk
  omega

set_option maxRecDepth 100000 in
set_option maxHeartbeats 4000000 in
theorem search_any (A : Option Addr) (n cap : Nat) (zs : List (Ad × Ad)) (w : World) (hS : SlE eRg w A n cap zs) (hn : n ≤ 100000) (hR : ∀ x ∈ zs, RgR x) (hp : zs.Pairwise (fun x y => x.2.n + 1 < y.1.n)) (a : Ad) (ha : a.U) :
    Calls Tryz.prog 266 #[.slice A n cap, rgA (a, a), .func (.func 267) #[] #[]] w fun e w' => ∃ i : Int, e = .returned (.tuple #[.int .i64 i, .bool (hasB zs a.n)]) ∧ Below w.heap.size w w' := by
  have hpl := Lib.hid hS.1
  replace hS := Lib.hid hS
  replace hR := Lib.hid hR
  replace hp := Lib.hid hp
  have hCa := Blk.new w (rgC (a, a)) 49
  have hbw0 : Below w.heap.size w (w.alloc (.cells (rgC (a, a)).toArray 49)) := (Below.refl _ _).alloc (Nat.le_refl _) _
  have H1 := Lib.hid (fun (x : Ad × Ad) w' (hx : RgR x) => has1_any x a w' hx ha)
  obtain ⟨t, ht⟩ : ∃ t, t = a.n := ⟨_, rfl⟩
  rw [← ht] at H1 ⊢
  clear ht ha
  go_enter Tryz.func266, Tryz.ntmps266
  go_wp2_with fail
  go_loopw [9, 10] (fun vi vj wr => ∃ i j : Nat, i ≤ j ∧ j ≤ n ∧ vi = .int .i64 i ∧ vj = .int .i64 j ∧ Hid (SrI zs t i j) ∧ Blk wr w.heap.size (rgC (a, a)) 49 ∧ Below w.heap.size w wr) (fun vi vj _ => (intOf vj).toNat - (intOf vi).toNat)
  case atStart => exact ⟨0, n, by omega, by omega, rfl, rfl, Lib.hid ⟨fun k x hk => by omega, fun k x hk hx => by have := (List.getElem?_eq_some_iff.1 hx).1; have := hpl.out; omega⟩, hCa, hbw0⟩
  case round =>
    obtain ⟨i, j, hij, hj, rfl, rfl, hI, hC, hbw⟩ := hrel
    by_cases hlt : i < j
    · have hlt' : (i : Int) < j := by omega
      obtain ⟨h, hh⟩ : ∃ h, h = (i + j) / 2 := ⟨_, rfl⟩
      have hh1 : i ≤ h := by omega
      have hh2 : h < j := by omega
      have hh3 : h < n := by omega
      obtain ⟨x, hx⟩ : ∃ x, zs[h]? = some x := ⟨zs[h]'(by have := hpl.out; omega), List.getElem?_eq_getElem _⟩
      obtain ⟨g0, off, rfl, _, _⟩ := hS.out.at' hh3
      have LD : ∀ W, Below w.heap.size w W → (ldT 49 (.pointer (some ⟨g0, off + h * 6, none⟩))).run Tryz.prog W = .ok (.value (rgA x)) W := fun W hW => SlE.ld rowRg (hS.out.below hW) hx
      have hxR := hR.out x (List.mem_of_getElem? hx)
      have HX := fun w' => Lib.hid (H1.out x w' hxR)
      have hup := fun hl => Lib.hid (hI.out.up hp.out hR.out hx hl)
      have hdn := fun hl => Lib.hid (hI.out.down hp.out hR.out hx hl)
      have hng := Lib.hid (hs_neg x t)
      generalize hsF x t = V at *
      replace hx := Lib.hid hx
      have q1 : IntKind.i64.wrap ((i : Int) + j) = (i : Int) + j := IntWalk.i64_in _ (by omega)
      have q2 : IntKind.u64.wrap ((i : Int) + j) = (i : Int) + j := by rw [IntKind.wrap_u64]; omega
      have q3 : ((i : Int) + j) / 2 = h := by omega
      have q4 : IntKind.i64.wrap (h : Int) = h := IntWalk.i64_in _ (by omega)
      have hh4 : (h : Int) < n := by omega
      replace hh := Lib.hid hh
      go_upto_region 5 with fail
      refine wx_begin (none) [] (by kernel_rfl) (fun u0 hb0' hz0' => ?_)
      replace hC := hC.below hb0'
      replace hbw := hbw.trans (hb0'.mono hbw.size)
      clear hb0' hz0'
      refine wx_pure (i := 0) (d := some 24) (v := ?_) (by simp only [List.getElem?_toArray, List.getElem?_cons_succ, List.getElem?_cons_zero] <;> rfl) (by rfl) (by kernel_rfl) (by kernel_rfl) (by kernel_rfl) (fun _ _ _ h => h) (by rfl) ?_ ?_
      rotate_left
      · ((intro u); go_simp; try with_reducible rfl)
      try simp only [Act.put, List.setIfInBounds_toArray, List.set_cons_zero, List.set_cons_succ]
      refine wx_pure (i := 1) (d := some 25) (v := ?_) (by simp only [List.getElem?_toArray, List.getElem?_cons_succ, List.getElem?_cons_zero] <;> rfl) (by rfl) (by kernel_rfl) (by kernel_rfl) (by kernel_rfl) (fun _ _ _ h => h) (by rfl) ?_ ?_
      rotate_left
      · ((intro u); go_simp; try with_reducible rfl)
      try simp only [Act.put, List.setIfInBounds_toArray, List.set_cons_zero, List.set_cons_succ]
      refine wx_pure (i := 2) (d := some 26) (v := ?_) (by simp only [List.getElem?_toArray, List.getElem?_cons_succ, List.getElem?_cons_zero] <;> rfl) (by rfl) (by kernel_rfl) (by kernel_rfl) (by kernel_rfl) (fun _ _ _ h => h) (by rfl) ?_ ?_
      rotate_left
      · ((intro u); go_simp; try with_reducible rfl)
      try simp only [Act.put, List.setIfInBounds_toArray, List.set_cons_zero, List.set_cons_succ]
      refine wx_pure (i := 3) (d := some 27) (v := ?_) (by simp only [List.getElem?_toArray, List.getElem?_cons_succ, List.getElem?_cons_zero] <;> rfl) (by rfl) (by kernel_rfl) (by kernel_rfl) (by kernel_rfl) (fun _ _ _ h => h) (by rfl) ?_ ?_
      rotate_left
      · ((intro u); go_simp; try with_reducible rfl)
      try simp only [Act.put, List.setIfInBounds_toArray, List.set_cons_zero, List.set_cons_succ]
      refine wx_take (i := 4) (d := some 28) (v := ?_) (by simp only [List.getElem?_toArray, List.getElem?_cons_succ, List.getElem?_cons_zero] <;> rfl) (by rfl) (by kernel_rfl) (by kernel_rfl) (by kernel_rfl) (fun _ _ _ h => h) (by rfl) (by kernel_rfl) ?_ ?_
      rotate_left
      · ((intro u hu); have k1 := (hC.gn hu).ld rowRg rfl; have k2 := LD _ (hbw.grown hu hbw.size (fun _ h => by cases h)); go_simp; try with_reducible rfl)
      try simp only [Act.put, List.setIfInBounds_toArray, List.set_cons_zero, List.set_cons_succ]
      refine wx_take (i := 5) (d := some 29) (v := ?_) (by simp only [List.getElem?_toArray, List.getElem?_cons_succ, List.getElem?_cons_zero] <;> rfl) (by rfl) (by kernel_rfl) (by kernel_rfl) (by kernel_rfl) (fun _ _ _ h => h) (by rfl) (by kernel_rfl) ?_ ?_
      rotate_left
      · ((intro u hu); have k1 := (hC.gn hu).ld rowRg rfl; have k2 := LD _ (hbw.grown hu hbw.size (fun _ h => by cases h)); go_simp; try with_reducible rfl)
      try simp only [Act.put, List.setIfInBounds_toArray, List.set_cons_zero, List.set_cons_succ]
      refine wx_one (i := 6) (by simp only [List.getElem?_toArray, List.getElem?_cons_succ, List.getElem?_cons_zero] <;> rfl) (by kernel_rfl) (by rfl) (fun K hK => ?_)
      go_simp
      refine (HX _).out.mono ?_
      rintro e u1 ⟨rfl, hv1⟩
      refine hK _ _ (gbB hv1) ?_
      replace hC := hC.below hv1
      replace hbw := hbw.trans (hv1.mono hbw.size)
      clear hK K hv1
      try simp only [Act.put, List.setIfInBounds_toArray, List.set_cons_zero, List.set_cons_succ]
      refine wx_pure (i := 7) (d := some 31) (v := ?_) (by simp only [List.getElem?_toArray, List.getElem?_cons_succ, List.getElem?_cons_zero] <;> rfl) (by rfl) (by kernel_rfl) (by kernel_rfl) (by kernel_rfl) (fun _ _ _ h => h) (by rfl) ?_ ?_
      rotate_left
      · ((intro u); go_simp; try with_reducible rfl)
      try simp only [Act.put, List.setIfInBounds_toArray, List.set_cons_zero, List.set_cons_succ]
      refine wx_done (by kernel_rfl) ?_ _
      skip
      by_cases hl : x.2.n < t
      · have HV : V < 0 := hng.out.2 hl
        have hI2 := hup hl
        clear hup hdn hng hl
        go_wp2_with fail
        go_roundw
        case rel => exact ⟨h + 1, j, by omega, hj, by go_num, rfl, hI2, hC, hbw⟩
        case measure => simp [intOf]; omega
      · have HV : ¬ V < 0 := fun h => hl (hng.out.1 h)
        have hI2 := hdn hl
        clear hup hdn hng hl
        go_wp2_with fail
        go_roundw
        case rel => exact ⟨i, h, hh1, by omega, rfl, rfl, hI2, hC, hbw⟩
        case measure => simp [intOf]; omega
    · have e : j = i := by omega
      subst e
      clear hlt hij
      by_cases hin : j < n
      · have hin' : (j : Int) < n := by omega
        obtain ⟨x, hx⟩ : ∃ x, zs[j]? = some x := ⟨zs[j]'(by have := hpl.out; omega), List.getElem?_eq_getElem _⟩
        obtain ⟨g0, off, rfl, _, _⟩ := hS.out.at' hin
        have LD : ∀ W, Below w.heap.size w W → (ldT 49 (.pointer (some ⟨g0, off + j * 6, none⟩))).run Tryz.prog W = .ok (.value (rgA x)) W := fun W hW => SlE.ld rowRg (hS.out.below hW) hx
        have hxR := hR.out x (List.mem_of_getElem? hx)
        have HX := fun w' => Lib.hid (H1.out x w' hxR)
        have hfin := Lib.hid (hI.out.found hp.out hR.out hx)
        generalize hsF x t = V at *
        replace hx := Lib.hid hx
        go_upto_region 8 with fail
        refine wx_begin (none) [] (by kernel_rfl) (fun u0 hb0' hz0' => ?_)
        replace hC := hC.below hb0'
        replace hbw := hbw.trans (hb0'.mono hbw.size)
        clear hb0' hz0'
        refine wx_pure (i := 0) (d := some 35) (v := ?_) (by simp only [List.getElem?_toArray, List.getElem?_cons_succ, List.getElem?_cons_zero] <;> rfl) (by rfl) (by kernel_rfl) (by kernel_rfl) (by kernel_rfl) (fun _ _ _ h => h) (by rfl) ?_ ?_
        rotate_left
        · ((intro u); go_simp; try with_reducible rfl)
        try simp only [Act.put, List.setIfInBounds_toArray, List.set_cons_zero, List.set_cons_succ]
        refine wx_pure (i := 1) (d := some 36) (v := ?_) (by simp only [List.getElem?_toArray, List.getElem?_cons_succ, List.getElem?_cons_zero] <;> rfl) (by rfl) (by kernel_rfl) (by kernel_rfl) (by kernel_rfl) (fun _ _ _ h => h) (by rfl) ?_ ?_
        rotate_left
        · ((intro u); go_simp; try with_reducible rfl)
        try simp only [Act.put, List.setIfInBounds_toArray, List.set_cons_zero, List.set_cons_succ]
        refine wx_pure (i := 2) (d := some 37) (v := ?_) (by simp only [List.getElem?_toArray, List.getElem?_cons_succ, List.getElem?_cons_zero] <;> rfl) (by rfl) (by kernel_rfl) (by kernel_rfl) (by kernel_rfl) (fun _ _ _ h => h) (by rfl) ?_ ?_
        rotate_left
        · ((intro u); go_simp; try with_reducible rfl)
        try simp only [Act.put, List.setIfInBounds_toArray, List.set_cons_zero, List.set_cons_succ]
        refine wx_pure (i := 3) (d := some 38) (v := ?_) (by simp only [List.getElem?_toArray, List.getElem?_cons_succ, List.getElem?_cons_zero] <;> rfl) (by rfl) (by kernel_rfl) (by kernel_rfl) (by kernel_rfl) (fun _ _ _ h => h) (by rfl) ?_ ?_
        rotate_left
        · ((intro u); go_simp; try with_reducible rfl)
        try simp only [Act.put, List.setIfInBounds_toArray, List.set_cons_zero, List.set_cons_succ]
        refine wx_pure (i := 4) (d := some 39) (v := ?_) (by simp only [List.getElem?_toArray, List.getElem?_cons_succ, List.getElem?_cons_zero] <;> rfl) (by rfl) (by kernel_rfl) (by kernel_rfl) (by kernel_rfl) (fun _ _ _ h => h) (by rfl) ?_ ?_
        rotate_left
        · ((intro u); go_simp; try with_reducible rfl)
        try simp only [Act.put, List.setIfInBounds_toArray, List.set_cons_zero, List.set_cons_succ]
        refine wx_pure (i := 5) (d := some 40) (v := ?_) (by simp only [List.getElem?_toArray, List.getElem?_cons_succ, List.getElem?_cons_zero] <;> rfl) (by rfl) (by kernel_rfl) (by kernel_rfl) (by kernel_rfl) (fun _ _ _ h => h) (by rfl) ?_ ?_
        rotate_left
        · ((intro u); go_simp; try with_reducible rfl)
        try simp only [Act.put, List.setIfInBounds_toArray, List.set_cons_zero, List.set_cons_succ]
        refine wx_pure (i := 6) (d := some 41) (v := ?_) (by simp only [List.getElem?_toArray, List.getElem?_cons_succ, List.getElem?_cons_zero] <;> rfl) (by rfl) (by kernel_rfl) (by kernel_rfl) (by kernel_rfl) (fun _ _ _ h => h) (by rfl) ?_ ?_
        rotate_left
        · ((intro u); go_simp; try with_reducible rfl)
        try simp only [Act.put, List.setIfInBounds_toArray, List.set_cons_zero, List.set_cons_succ]
        refine wx_pure (i := 7) (d := some 42) (v := ?_) (by simp only [List.getElem?_toArray, List.getElem?_cons_succ, List.getElem?_cons_zero] <;> rfl) (by rfl) (by kernel_rfl) (by kernel_rfl) (by kernel_rfl) (fun _ _ _ h => h) (by rfl) ?_ ?_
        rotate_left
        · ((intro u); go_simp; try with_reducible rfl)
        try simp only [Act.put, List.setIfInBounds_toArray, List.set_cons_zero, List.set_cons_succ]
        refine wx_pure (i := 8) (d := some 43) (v := ?_) (by simp only [List.getElem?_toArray, List.getElem?_cons_succ, List.getElem?_cons_zero] <;> rfl) (by rfl) (by kernel_rfl) (by kernel_rfl) (by kernel_rfl) (fun _ _ _ h => h) (by rfl) ?_ ?_
        rotate_left
        · ((intro u); go_simp; try with_reducible rfl)
        try simp only [Act.put, List.setIfInBounds_toArray, List.set_cons_zero, List.set_cons_succ]
        refine wx_take (i := 9) (d := some 44) (v := ?_) (by simp only [List.getElem?_toArray, List.getElem?_cons_succ, List.getElem?_cons_zero] <;> rfl) (by rfl) (by kernel_rfl) (by kernel_rfl) (by kernel_rfl) (fun _ _ _ h => h) (by rfl) (by kernel_rfl) ?_ ?_
        rotate_left
        · ((intro u hu); have k1 := (hC.gn hu).ld rowRg rfl; have k2 := LD _ (hbw.grown hu hbw.size (fun _ h => by cases h)); go_simp; try with_reducible rfl)
        try simp only [Act.put, List.setIfInBounds_toArray, List.set_cons_zero, List.set_cons_succ]
        refine wx_take (i := 10) (d := some 45) (v := ?_) (by simp only [List.getElem?_toArray, List.getElem?_cons_succ, List.getElem?_cons_zero] <;> rfl) (by rfl) (by kernel_rfl) (by kernel_rfl) (by kernel_rfl) (fun _ _ _ h => h) (by rfl) (by kernel_rfl) ?_ ?_
        rotate_left
        · ((intro u hu); have k1 := (hC.gn hu).ld rowRg rfl; have k2 := LD _ (hbw.grown hu hbw.size (fun _ h => by cases h)); go_simp; try with_reducible rfl)
        try simp only [Act.put, List.setIfInBounds_toArray, List.set_cons_zero, List.set_cons_succ]
        refine wx_one (i := 11) (by simp only [List.getElem?_toArray, List.getElem?_cons_succ, List.getElem?_cons_zero] <;> rfl) (by kernel_rfl) (by rfl) (fun K hK => ?_)
        go_simp
        refine (HX _).out.mono ?_
        rintro e u1 ⟨rfl, hv1⟩
        refine hK _ _ (gbB hv1) ?_
        replace hC := hC.below hv1
        replace hbw := hbw.trans (hv1.mono hbw.size)
        clear hK K hv1
        try simp only [Act.put, List.setIfInBounds_toArray, List.set_cons_zero, List.set_cons_succ]
        refine wx_pure (i := 12) (d := some 47) (v := ?_) (by simp only [List.getElem?_toArray, List.getElem?_cons_succ, List.getElem?_cons_zero] <;> rfl) (by rfl) (by kernel_rfl) (by kernel_rfl) (by kernel_rfl) (fun _ _ _ h => h) (by rfl) ?_ ?_
        rotate_left
        · ((intro u); go_simp; try with_reducible rfl)
        try simp only [Act.put, List.setIfInBounds_toArray, List.set_cons_zero, List.set_cons_succ]
        refine wx_pure (i := 13) (d := some 48) (v := ?_) (by simp only [List.getElem?_toArray, List.getElem?_cons_succ, List.getElem?_cons_zero] <;> rfl) (by rfl) (by kernel_rfl) (by kernel_rfl) (by kernel_rfl) (fun _ _ _ h => h) (by rfl) ?_ ?_
        rotate_left
        · ((intro u); go_simp; try with_reducible rfl)
        try simp only [Act.put, List.setIfInBounds_toArray, List.set_cons_zero, List.set_cons_succ]
        refine wx_pure (i := 14) (d := some 6) (v := ?_) (by simp only [List.getElem?_toArray, List.getElem?_cons_succ, List.getElem?_cons_zero] <;> rfl) (by rfl) (by kernel_rfl) (by kernel_rfl) (by kernel_rfl) (fun _ _ _ h => h) (by rfl) ?_ ?_
        rotate_left
        · ((intro u); go_simp; try with_reducible rfl)
        try simp only [Act.put, List.setIfInBounds_toArray, List.set_cons_zero, List.set_cons_succ]
        refine wx_pure (i := 15) (d := some 7) (v := ?_) (by simp only [List.getElem?_toArray, List.getElem?_cons_succ, List.getElem?_cons_zero] <;> rfl) (by rfl) (by kernel_rfl) (by kernel_rfl) (by kernel_rfl) (fun _ _ _ h => h) (by rfl) ?_ ?_
        rotate_left
        · ((intro u); go_simp; try with_reducible rfl)
        try simp only [Act.put, List.setIfInBounds_toArray, List.set_cons_zero, List.set_cons_succ]
        refine wx_done (by kernel_rfl) ?_ _
        skip
        go_wp2_with fail
        go_ret2
        exact ⟨_, by rw [hfin.out]; first | rfl | skip, hbw⟩
      · have hin' : ¬ (j : Int) < n := by omega
        have hfin := Lib.hid (hI.out.none (by have := hpl.out; omega))
        go_upto_region 8 with fail
        refine wx_begin (none) [] (by kernel_rfl) (fun u0 hb0' hz0' => ?_)
        replace hC := hC.below hb0'
        replace hbw := hbw.trans (hb0'.mono hbw.size)
        clear hb0' hz0'
        refine wx_pure (i := 0) (d := some 35) (v := ?_) (by simp only [List.getElem?_toArray, List.getElem?_cons_succ, List.getElem?_cons_zero] <;> rfl) (by rfl) (by kernel_rfl) (by kernel_rfl) (by kernel_rfl) (fun _ _ _ h => h) (by rfl) ?_ ?_
        rotate_left
        · ((intro u); go_simp; try with_reducible rfl)
        try simp only [Act.put, List.setIfInBounds_toArray, List.set_cons_zero, List.set_cons_succ]
        refine wx_pure (i := 1) (d := some 36) (v := ?_) (by simp only [List.getElem?_toArray, List.getElem?_cons_succ, List.getElem?_cons_zero] <;> rfl) (by rfl) (by kernel_rfl) (by kernel_rfl) (by kernel_rfl) (fun _ _ _ h => h) (by rfl) ?_ ?_
        rotate_left
        · ((intro u); go_simp; try with_reducible rfl)
        try simp only [Act.put, List.setIfInBounds_toArray, List.set_cons_zero, List.set_cons_succ]
        refine wx_pure (i := 2) (d := some 37) (v := ?_) (by simp only [List.getElem?_toArray, List.getElem?_cons_succ, List.getElem?_cons_zero] <;> rfl) (by rfl) (by kernel_rfl) (by kernel_rfl) (by kernel_rfl) (fun _ _ _ h => h) (by rfl) ?_ ?_
        rotate_left
        · ((intro u); go_simp; try with_reducible rfl)
        try simp only [Act.put, List.setIfInBounds_toArray, List.set_cons_zero, List.set_cons_succ]
        refine wx_pure (i := 3) (d := some 38) (v := ?_) (by simp only [List.getElem?_toArray, List.getElem?_cons_succ, List.getElem?_cons_zero] <;> rfl) (by rfl) (by kernel_rfl) (by kernel_rfl) (by kernel_rfl) (fun _ _ _ h => h) (by rfl) ?_ ?_
        rotate_left
        · ((intro u); go_simp; try with_reducible rfl)
        try simp only [Act.put, List.setIfInBounds_toArray, List.set_cons_zero, List.set_cons_succ]
        refine wx_pure (i := 4) (d := some 39) (v := ?_) (by simp only [List.getElem?_toArray, List.getElem?_cons_succ, List.getElem?_cons_zero] <;> rfl) (by rfl) (by kernel_rfl) (by kernel_rfl) (by kernel_rfl) (fun _ _ _ h => h) (by rfl) ?_ ?_
        rotate_left
        · ((intro u); go_simp; try with_reducible rfl)
        try simp only [Act.put, List.setIfInBounds_toArray, List.set_cons_zero, List.set_cons_succ]
        refine wx_skip (i := 5) (d := some 40) (by simp only [List.getElem?_toArray, List.getElem?_cons_succ, List.getElem?_cons_zero] <;> rfl) (by rfl) (by kernel_rfl) (by kernel_rfl) (by kernel_rfl) (fun _ _ _ h => h) (by rfl) ?_
        try simp only [Act.put, List.setIfInBounds_toArray, List.set_cons_zero, List.set_cons_succ]
        refine wx_skip (i := 6) (d := some 41) (by simp only [List.getElem?_toArray, List.getElem?_cons_succ, List.getElem?_cons_zero] <;> rfl) (by rfl) (by kernel_rfl) (by kernel_rfl) (by kernel_rfl) (fun _ _ _ h => h) (by rfl) ?_
        try simp only [Act.put, List.setIfInBounds_toArray, List.set_cons_zero, List.set_cons_succ]
        refine wx_skip (i := 7) (d := some 42) (by simp only [List.getElem?_toArray, List.getElem?_cons_succ, List.getElem?_cons_zero] <;> rfl) (by rfl) (by kernel_rfl) (by kernel_rfl) (by kernel_rfl) (fun _ _ _ h => h) (by rfl) ?_
        try simp only [Act.put, List.setIfInBounds_toArray, List.set_cons_zero, List.set_cons_succ]
        refine wx_skip (i := 8) (d := some 43) (by simp only [List.getElem?_toArray, List.getElem?_cons_succ, List.getElem?_cons_zero] <;> rfl) (by rfl) (by kernel_rfl) (by kernel_rfl) (by kernel_rfl) (fun _ _ _ h => h) (by rfl) ?_
        try simp only [Act.put, List.setIfInBounds_toArray, List.set_cons_zero, List.set_cons_succ]
        refine wx_skip (i := 9) (d := some 44) (by simp only [List.getElem?_toArray, List.getElem?_cons_succ, List.getElem?_cons_zero] <;> rfl) (by rfl) (by kernel_rfl) (by kernel_rfl) (by kernel_rfl) (fun _ _ _ h => h) (by rfl) ?_
        try simp only [Act.put, List.setIfInBounds_toArray, List.set_cons_zero, List.set_cons_succ]
        refine wx_skip (i := 10) (d := some 45) (by simp only [List.getElem?_toArray, List.getElem?_cons_succ, List.getElem?_cons_zero] <;> rfl) (by rfl) (by kernel_rfl) (by kernel_rfl) (by kernel_rfl) (fun _ _ _ h => h) (by rfl) ?_
        try simp only [Act.put, List.setIfInBounds_toArray, List.set_cons_zero, List.set_cons_succ]
        refine wx_skip (i := 11) (d := some 46) (by simp only [List.getElem?_toArray, List.getElem?_cons_succ, List.getElem?_cons_zero] <;> rfl) (by rfl) (by kernel_rfl) (by kernel_rfl) (by kernel_rfl) (fun _ _ _ h => h) (by rfl) ?_
        try simp only [Act.put, List.setIfInBounds_toArray, List.set_cons_zero, List.set_cons_succ]
        refine wx_skip (i := 12) (d := some 47) (by simp only [List.getElem?_toArray, List.getElem?_cons_succ, List.getElem?_cons_zero] <;> rfl) (by rfl) (by kernel_rfl) (by kernel_rfl) (by kernel_rfl) (fun _ _ _ h => h) (by rfl) ?_
        try simp only [Act.put, List.setIfInBounds_toArray, List.set_cons_zero, List.set_cons_succ]
        refine wx_pure (i := 13) (d := some 48) (v := ?_) (by simp only [List.getElem?_toArray, List.getElem?_cons_succ, List.getElem?_cons_zero] <;> rfl) (by rfl) (by kernel_rfl) (by kernel_rfl) (by kernel_rfl) (fun _ _ _ h => h) (by rfl) ?_ ?_
        rotate_left
        · ((intro u); go_simp; try with_reducible rfl)
        try simp only [Act.put, List.setIfInBounds_toArray, List.set_cons_zero, List.set_cons_succ]
        refine wx_pure (i := 14) (d := some 6) (v := ?_) (by simp only [List.getElem?_toArray, List.getElem?_cons_succ, List.getElem?_cons_zero] <;> rfl) (by rfl) (by kernel_rfl) (by kernel_rfl) (by kernel_rfl) (fun _ _ _ h => h) (by rfl) ?_ ?_
        rotate_left
        · ((intro u); go_simp; try with_reducible rfl)
        try simp only [Act.put, List.setIfInBounds_toArray, List.set_cons_zero, List.set_cons_succ]
        refine wx_pure (i := 15) (d := some 7) (v := ?_) (by simp only [List.getElem?_toArray, List.getElem?_cons_succ, List.getElem?_cons_zero] <;> rfl) (by rfl) (by kernel_rfl) (by kernel_rfl) (by kernel_rfl) (fun _ _ _ h => h) (by rfl) ?_ ?_
        rotate_left
        · ((intro u); go_simp; try with_reducible rfl)
        try simp only [Act.put, List.setIfInBounds_toArray, List.set_cons_zero, List.set_cons_succ]
        refine wx_done (by kernel_rfl) ?_ _
        skip
        go_wp2_with fail
        go_ret2
        first | exact ⟨_, by rw [hfin.out]; rfl, hbw⟩ | exact ⟨⟨_, by rw [hfin.out]; rfl⟩, hbw⟩

set_option maxRecDepth 100000 in
theorem meets_any (A : Option Addr) (n cap : Nat) (zs : List (Ad × Ad)) (w : World) (hS : SlE eRg w A n cap zs) (hn : n ≤ 100000) (hR : ∀ x ∈ zs, RgR x) (hp : zs.Pairwise (fun x y => x.2.n + 1 < y.1.n)) (a : Ad) (ha : a.U) :
    Calls Tryz.prog 229 #[.slice A n cap, rgA (a, a)] w (GivesV (.bool (hasB zs a.n)) w) := by
  have hC := Blk.new w (rgC (a, a)) 49
  have hbw : Below w.heap.size w (w.alloc (.cells (rgC (a, a)).toArray 49)) := (Below.refl _ _).alloc (Nat.le_refl _) _
  have HS := Lib.hid (search_any A n cap zs _ (hS.below hbw) hn hR hp a ha)
  have k1 := hC.ld rowRg rfl
  generalize hasB zs a.n = V at *
  clear hS hR hp ha
  go_enter Tryz.func229, Tryz.ntmps229
  go_wp2_with fail
  refine HS.out.mono ?_
  rintro e w1 ⟨i, rfl, hb1⟩
  replace hbw := hbw.trans (hb1.mono hbw.size)
  go_wp2_with fail
  go_ret
  exact ⟨rfl, hbw⟩

set_option maxRecDepth 100000 in
theorem has_any (A : Option Addr) (n cap : Nat) (zs : List (Ad × Ad)) (w : World) (hS : SlE eRg w A n cap zs) (hn : n ≤ 100000) (hR : ∀ x ∈ zs, RgR x) (hp : zs.Pairwise (fun x y => x.2.n + 1 < y.1.n)) (a : Ad) (ha : a.U) :
    Calls Tryz.prog 189 #[.slice A n cap, adA a] w (GivesV (.bool (hasB zs a.n)) w) := by
  have hC := Blk.new w (adC a) 28
  have hbw : Below w.heap.size w (w.alloc (.cells (adC a).toArray 28)) := (Below.refl _ _).alloc (Nat.le_refl _) _
  have HM := Lib.hid (meets_any A n cap zs _ (hS.below hbw) hn hR hp a ha)
  have k1 := hC.ld rowAd rfl
  generalize hasB zs a.n = V at *
  clear hS hR hp ha
  go_enter Tryz.func189, Tryz.ntmps189
  go_wp2_with fail
  refine HM.out.mono ?_
  rintro e w1 ⟨rfl, hb1⟩
  replace hbw := hbw.trans (hb1.mono hbw.size)
  go_wp2_with fail
  go_ret
  exact ⟨rfl, hbw⟩
end Go.Proofs.YthjhokicojgpbaaGreatDoor
