/- Sets: doubles are left out. -/
import Derived.Test.YtmgdkefoehlamaaGreatDoorKoGzA
import Derived.Test.YtmgdkefoehlamaaGreatDoorKoSvE
import Derived.Test.YtmgdkefoehlamaaGreatDoorKoStG
import Derived.Lib.SliceRun
set_option linter.unusedVariables false
set_option linter.unusedSimpArgs false
set_option maxRecDepth 100000
namespace Go.Proofs.YtmgdkefoehlamaaGreatDoor
open Go.RowKit

def hsF (x : Ad × Ad) (t : Nat) : Int := if x.2.n < t then -1 else if t < x.1.n then 1 else 0
theorem has1_any (x : Ad × Ad) (a : Ad) (w : World) (hx : RgR x) (ha : a.U) : Calls Tryz.prog 323 #[rgA x, rgA (a, a)] w (GivesV (.int .i64 (hsF x a.n)) w) := by
  have H1 := fun w' => Lib.hid ((spanCmp_d x.2 a w' hx.2.1.1 ha).mono fun e w2 h => h.v)
  have H2 := fun w' => Lib.hid ((spanCmp_d x.1 a w' hx.1.1 ha).mono fun e w2 h => h.v)
  obtain ⟨h1, h2⟩ := two_new w (rgC x) (rgC (a, a)) 53 53
  have hbw := below_two w (.cells (rgC x).toArray 53) (.cells (rgC (a, a)).toArray 53)
  have hV := Lib.hid (show (x.2.n < a.n → hsF x a.n = -1) ∧ (¬ x.2.n < a.n → hsF x a.n = max (cmpN x.1.n a.n) 0) from ⟨fun h => if_pos h, fun h => by
    unfold hsF cmpN
    rw [if_neg h]
    rcases Nat.lt_trichotomy x.1.n a.n with k | k | k
    · rw [if_neg (by omega), if_pos k]; rfl
    · rw [if_neg (by omega), if_neg (by omega), if_pos k]; rfl
    · rw [if_pos k, if_neg (by omega), if_neg (by omega)]; rfl⟩)
  have hcl := Lib.hid (cmpN_lt x.2.n a.n)
  generalize hsF x a.n = V at *
  generalize hc1 : cmpN x.2.n a.n = c1 at *
  generalize hc2 : cmpN x.1.n a.n = c2 at *
  clear hx ha hc1 hc2
  go_enter Tryz.func323, Tryz.ntmps323
  go_upto_region 1 with fail
  generalize (w.alloc (.cells (rgC x).toArray 53)).alloc (.cells (rgC (a, a)).toArray 53) = W at *
  have k1 := h1.ldAt rowAd 0 (adC x.1) (adC x.2) rfl rfl
  have k2 := h1.ldAt rowAd 3 (adC x.2) [] rfl rfl
  have k3 := h2.ldAt rowAd 0 (adC a) (adC a) rfl rfl
  have k4 := h2.ldAt rowAd 3 (adC a) [] rfl rfl
  go_wp2_with fail
  refine (H1 _).out.mono ?_
  rintro e w1 ⟨rfl, hb1⟩
  replace h1 := h1.below hb1
  replace h2 := h2.below hb1
  replace hbw := hbw.trans (hb1.mono hbw.size)
  clear hb1 k1 k2 k3 k4 H1
  have k1 := h1.ldAt rowAd 0 (adC x.1) (adC x.2) rfl rfl
  have k3 := h2.ldAt rowAd 0 (adC a) (adC a) rfl rfl
  have k4 := h2.ldAt rowAd 3 (adC a) [] rfl rfl
  by_cases hlt : x.2.n < a.n
  · have e1 := Lib.hid (hV.out.1 hlt)
    have HV : c1 < 0 := by have h := hcl.out; rw [decide_eq_true hlt] at h; exact of_decide_eq_true h
    clear hV hcl hlt
    go_wp2_with fail
    go_ret
    exact ⟨by rw [e1.out]; rfl, hbw⟩
  · have e1 := Lib.hid (hV.out.2 hlt)
    have HV : ¬ c1 < 0 := by have h := hcl.out; rw [decide_eq_false hlt] at h; exact of_decide_eq_false h
    clear hV hcl hlt
    go_wp2_with fail
    refine (H2 _).out.mono ?_
    rintro e w2 ⟨rfl, hb2⟩
    replace hbw := hbw.trans (hb2.mono hbw.size)
    clear hb2 k1 k3 k4 H2
    go_wp2_with fail
    all_goals go_ret
    all_goals exact ⟨by rw [e1.out]; first | rfl | (congr 2; omega), hbw⟩

theorem hs_neg (x : Ad × Ad) (t : Nat) : hsF x t < 0 ↔ x.2.n < t := by
  unfold hsF
  by_cases h : x.2.n < t
  · rw [if_pos h]; exact ⟨fun _ => h, fun _ => by decide⟩
  · rw [if_neg h]
    refine ⟨fun k => ?_, fun k => absurd k h⟩
    by_cases h2 : t < x.1.n
    · rw [if_pos h2] at k; omega
    · rw [if_neg h2] at k; omega
theorem hs_zero {x : Ad × Ad} (hx : x.1.n ≤ x.2.n) (t : Nat) : hsF x t = 0 ↔ x.1.n ≤ t ∧ t ≤ x.2.n := by
  unfold hsF
  by_cases h : x.2.n < t
  · rw [if_pos h]; exact ⟨fun k => absurd k (by decide), fun k => absurd k.2 (by omega)⟩
  · rw [if_neg h]
    by_cases h2 : t < x.1.n
    · rw [if_pos h2]; exact ⟨fun k => absurd k (by decide), fun k => absurd k.1 (by omega)⟩
    · rw [if_neg h2]; exact ⟨fun _ => by omega, fun _ => rfl⟩
theorem apart_get {l : List (Ad × Ad)} (hp : l.Pairwise (fun x y => x.2.n + 1 < y.1.n)) {i j : Nat} {x y : Ad × Ad} (hx : l[i]? = some x) (hy : l[j]? = some y) (h : i < j) : x.2.n + 1 < y.1.n := by
  obtain ⟨h5, rfl⟩ := List.getElem?_eq_some_iff.1 hx
  obtain ⟨h6, rfl⟩ := List.getElem?_eq_some_iff.1 hy
  exact List.pairwise_iff_getElem.1 hp i j h5 h6 h
def SrI (zs : List (Ad × Ad)) (t i j : Nat) : Prop := (∀ k x, k < i → zs[k]? = some x → x.2.n < t) ∧ (∀ k x, j ≤ k → zs[k]? = some x → t ≤ x.2.n)
theorem SrI.up {zs : List (Ad × Ad)} (hp : zs.Pairwise (fun x y => x.2.n + 1 < y.1.n)) (hR : ∀ z ∈ zs, RgR z) {t i j h : Nat} (H : SrI zs t i j) {x : Ad × Ad} (hx : zs[h]? = some x) (hl : x.2.n < t) : SrI zs t (h + 1) j :=
  ⟨fun k y hk hy => by
    rcases Nat.lt_or_ge k h with q | q
    · have := apart_get hp hy hx q
      have := (hR x (List.mem_of_getElem? hx)).2.2.2
      omega
    · have e : k = h := by omega
      subst e; rw [hx] at hy; cases hy; exact hl, H.2⟩
theorem SrI.down {zs : List (Ad × Ad)} (hp : zs.Pairwise (fun x y => x.2.n + 1 < y.1.n)) (hR : ∀ z ∈ zs, RgR z) {t i j h : Nat} (H : SrI zs t i j) {x : Ad × Ad} (hx : zs[h]? = some x) (hl : ¬ x.2.n < t) : SrI zs t i h :=
  ⟨H.1, fun k y hk hy => by
    rcases Nat.lt_or_ge h k with q | q
    · have := apart_get hp hx hy q
      have := (hR y (List.mem_of_getElem? hy)).2.2.2
      omega
    · have e : k = h := by omega
      subst e; rw [hx] at hy; cases hy; omega⟩
theorem SrI.found {zs : List (Ad × Ad)} (hp : zs.Pairwise (fun x y => x.2.n + 1 < y.1.n)) (hR : ∀ z ∈ zs, RgR z) {t i : Nat} (H : SrI zs t i i) {x : Ad × Ad} (hx : zs[i]? = some x) : hasB zs t = decide (hsF x t = 0) := by
  rw [Bool.eq_iff_iff, hasB_iff, decide_eq_true_iff, hs_zero (hR x (List.mem_of_getElem? hx)).2.2.2]
  constructor
  · rintro ⟨y, hy, h1, h2⟩
    obtain ⟨k, hk⟩ := List.mem_iff_getElem?.1 hy
    rcases Nat.lt_trichotomy k i with q | q | q
    · have := H.1 k y q hk; omega
    · subst q; rw [hx] at hk; cases hk; exact ⟨h1, h2⟩
    · have := apart_get hp hx hk q
      have := H.2 i x (Nat.le_refl _) hx
      omega
  · intro h
    exact ⟨x, List.mem_of_getElem? hx, h⟩
theorem SrI.none {zs : List (Ad × Ad)} {t i : Nat} (H : SrI zs t i i) (hi : zs.length ≤ i) : hasB zs t = false := by
  rw [Bool.eq_false_iff]
  intro h
  obtain ⟨y, hy, h1, h2⟩ := (hasB_iff _ _).1 h
  obtain ⟨k, hk⟩ := List.mem_iff_getElem?.1 hy
  have := H.1 k y (by have := (List.getElem?_eq_some_iff.1 hk).1; omega) hk
  omega

set_option maxHeartbeats 4000000 in
theorem search_any (A : Option Addr) (n cap : Nat) (zs : List (Ad × Ad)) (w : World) (hS : SlE eRg w A n cap zs) (hn : n ≤ 100000) (hR : ∀ x ∈ zs, RgR x) (hp : zs.Pairwise (fun x y => x.2.n + 1 < y.1.n)) (a : Ad) (ha : a.U) :
    Calls Tryz.prog 322 #[.slice A n cap, rgA (a, a), .func (.func 323) #[] #[]] w fun e w' => ∃ i : Int, e = .returned (.tuple #[.int .i64 i, .bool (hasB zs a.n)]) ∧ Below w.heap.size w w' := by
  have hpl := Lib.hid hS.1
  replace hS := Lib.hid hS
  replace hR := Lib.hid hR
  replace hp := Lib.hid hp
  have hCa := Blk.new w (rgC (a, a)) 53
  have hbw0 : Below w.heap.size w (w.alloc (.cells (rgC (a, a)).toArray 53)) := (Below.refl _ _).alloc (Nat.le_refl _) _
  have H1 := Lib.hid (fun (x : Ad × Ad) w' (hx : RgR x) => has1_any x a w' hx ha)
  obtain ⟨t, ht⟩ : ∃ t, t = a.n := ⟨_, rfl⟩
  rw [← ht] at H1 ⊢
  clear ht ha
  go_enter Tryz.func322, Tryz.ntmps322
  go_wp2_with fail
  go_loopw [9, 10] (fun vi vj wr => ∃ i j : Nat, i ≤ j ∧ j ≤ n ∧ vi = .int .i64 i ∧ vj = .int .i64 j ∧ Hid (SrI zs t i j) ∧ Blk wr w.heap.size (rgC (a, a)) 53 ∧ Below w.heap.size w wr) (fun vi vj _ => (intOf vj).toNat - (intOf vi).toNat)
  case atStart => exact ⟨0, n, by omega, by omega, rfl, rfl, Lib.hid ⟨fun k x hk => by omega, fun k x hk hx => by have := (List.getElem?_eq_some_iff.1 hx).1; have := hpl.out; omega⟩, hCa, hbw0⟩
  case round =>
    obtain ⟨i, j, hij, hj, rfl, rfl, hI, hC, hbw⟩ := hrel
    by_cases hlt : i < j
    · have hlt' : (i : Int) < j := by omega
      obtain ⟨h, hh⟩ : ∃ h, h = (i + j) / 2 := ⟨_, rfl⟩
      have hh1 : i ≤ h := by omega
      have hh2 : h < j := by omega
      have hh3 : h < n := by omega
      obtain ⟨x, hx⟩ : ∃ x, zs[h]? = some x := ⟨zs[h]'(by have := hpl.out; omega), List.getElem?_eq_getElem _⟩
      obtain ⟨g0, off, rfl, _, _⟩ := hS.out.at' hh3
      have LD : ∀ W, Below w.heap.size w W → (ldT 53 (.pointer (some ⟨g0, off + h * 6, none⟩))).run Tryz.prog W = .ok (.value (rgA x)) W := fun W hW => SlE.ld rowRg (hS.out.below hW) hx
      have hxR := hR.out x (List.mem_of_getElem? hx)
      have HX := fun w' => Lib.hid (H1.out x w' hxR)
      have hup := fun hl => Lib.hid (hI.out.up hp.out hR.out hx hl)
      have hdn := fun hl => Lib.hid (hI.out.down hp.out hR.out hx hl)
      have hng := Lib.hid (hs_neg x t)
      generalize hsF x t = V at *
      replace hx := Lib.hid hx
      have q1 : IntKind.i64.wrap ((i : Int) + j) = (i : Int) + j := IntWalk.i64_in _ (by omega)
      have q2 : IntKind.u64.wrap ((i : Int) + j) = (i : Int) + j := by rw [IntKind.wrap_u64]; omega
      have q3 : ((i : Int) + j) / 2 = h := by omega
      have q4 : IntKind.i64.wrap (h : Int) = h := IntWalk.i64_in _ (by omega)
      have hh4 : (h : Int) < n := by omega
      replace hh := Lib.hid hh
      go_upto_region 5 with fail
      refine wx_begin (none) [] (by kernel_rfl) (fun u0 hb0' hz0' => ?_)
      replace hC := hC.below hb0'
      replace hbw := hbw.trans (hb0'.mono hbw.size)
      clear hb0' hz0'
      refine wx_pureZ 0 (some 24) (v := ?_) ?_ ?_; rotate_left; · (intro u; go_simp; try with_reducible rfl)
      try simp only [Act.put, gzD, gzE, gzF]
      refine wx_pureZ 1 (some 25) (v := ?_) ?_ ?_; rotate_left; · (intro u; go_simp; try with_reducible rfl)
      try simp only [Act.put, gzD, gzE, gzF]
      refine wx_pureZ 2 (some 26) (v := ?_) ?_ ?_; rotate_left; · (intro u; go_simp; try with_reducible rfl)
      try simp only [Act.put, gzD, gzE, gzF]
      refine wx_pureZ 3 (some 27) (v := ?_) ?_ ?_; rotate_left; · (intro u; go_simp; try with_reducible rfl)
      try simp only [Act.put, gzD, gzE, gzF]
      refine wx_takeZ 4 (some 28) (v := ?_) ?_ ?_; rotate_left; · (intro u hu; have k1 := (hC.gn hu).ld rowRg rfl; have k2 := LD _ (hbw.grown hu hbw.size (fun _ h => by cases h)); go_simp; try with_reducible rfl)
      try simp only [Act.put, gzD, gzE, gzF]
      refine wx_takeZ 5 (some 29) (v := ?_) ?_ ?_; rotate_left; · (intro u hu; have k1 := (hC.gn hu).ld rowRg rfl; have k2 := LD _ (hbw.grown hu hbw.size (fun _ h => by cases h)); go_simp; try with_reducible rfl)
      try simp only [Act.put, gzD, gzE, gzF]
      refine wx_oneZ 6 (fun K hK => ?_)
      go_simp
      refine (HX _).out.mono ?_
      rintro e u1 ⟨rfl, hv1⟩
      refine hK _ _ (gbB hv1) ?_
      replace hC := hC.below hv1
      replace hbw := hbw.trans (hv1.mono hbw.size)
      clear hK K hv1
      try simp only [Act.put, gzD, gzE, gzF]
      refine wx_pureZ 7 (some 31) (v := ?_) ?_ ?_; rotate_left; · (intro u; go_simp; try with_reducible rfl)
      try simp only [Act.put, gzD, gzE, gzF]
      refine wx_done (by kernel_rfl) ?_ _
      skip
      by_cases hl : x.2.n < t
      · have HV : V < 0 := hng.out.2 hl
        have hI2 := hup hl
        clear hup hdn hng hl
        go_wp2_with fail
        go_roundw
        case rel => exact ⟨h + 1, j, by omega, hj, by go_num, rfl, hI2, hC, hbw⟩
        case measure => simp [intOf]; omega
      · have HV : ¬ V < 0 := fun h => hl (hng.out.1 h)
        have hI2 := hdn hl
        clear hup hdn hng hl
        go_wp2_with fail
        go_roundw
        case rel => exact ⟨i, h, hh1, by omega, rfl, rfl, hI2, hC, hbw⟩
        case measure => simp [intOf]; omega
    · have e : j = i := by omega
      subst e
      clear hlt hij
      by_cases hin : j < n
      · have hin' : (j : Int) < n := by omega
        obtain ⟨x, hx⟩ : ∃ x, zs[j]? = some x := ⟨zs[j]'(by have := hpl.out; omega), List.getElem?_eq_getElem _⟩
        obtain ⟨g0, off, rfl, _, _⟩ := hS.out.at' hin
        have LD : ∀ W, Below w.heap.size w W → (ldT 53 (.pointer (some ⟨g0, off + j * 6, none⟩))).run Tryz.prog W = .ok (.value (rgA x)) W := fun W hW => SlE.ld rowRg (hS.out.below hW) hx
        have hxR := hR.out x (List.mem_of_getElem? hx)
        have HX := fun w' => Lib.hid (H1.out x w' hxR)
        have hfin := Lib.hid (hI.out.found hp.out hR.out hx)
        generalize hsF x t = V at *
        replace hx := Lib.hid hx
        go_upto_region 8 with fail
        refine wx_begin (none) [] (by kernel_rfl) (fun u0 hb0' hz0' => ?_)
        replace hC := hC.below hb0'
        replace hbw := hbw.trans (hb0'.mono hbw.size)
        clear hb0' hz0'
        refine wx_pureZ 0 (some 35) (v := ?_) ?_ ?_; rotate_left; · (intro u; go_simp; try with_reducible rfl)
        try simp only [Act.put, gzD, gzE, gzF]
        refine wx_pureZ 1 (some 36) (v := ?_) ?_ ?_; rotate_left; · (intro u; go_simp; try with_reducible rfl)
        try simp only [Act.put, gzD, gzE, gzF]
        refine wx_pureZ 2 (some 37) (v := ?_) ?_ ?_; rotate_left; · (intro u; go_simp; try with_reducible rfl)
        try simp only [Act.put, gzD, gzE, gzF]
        refine wx_pureZ 3 (some 38) (v := ?_) ?_ ?_; rotate_left; · (intro u; go_simp; try with_reducible rfl)
        try simp only [Act.put, gzD, gzE, gzF]
        refine wx_pureZ 4 (some 39) (v := ?_) ?_ ?_; rotate_left; · (intro u; go_simp; try with_reducible rfl)
        try simp only [Act.put, gzD, gzE, gzF]
        refine wx_pureZ 5 (some 40) (v := ?_) ?_ ?_; rotate_left; · (intro u; go_simp; try with_reducible rfl)
        try simp only [Act.put, gzD, gzE, gzF]
        refine wx_pureZ 6 (some 41) (v := ?_) ?_ ?_; rotate_left; · (intro u; go_simp; try with_reducible rfl)
        try simp only [Act.put, gzD, gzE, gzF]
        refine wx_pureZ 7 (some 42) (v := ?_) ?_ ?_; rotate_left; · (intro u; go_simp; try with_reducible rfl)
        try simp only [Act.put, gzD, gzE, gzF]
        refine wx_pureZ 8 (some 43) (v := ?_) ?_ ?_; rotate_left; · (intro u; go_simp; try with_reducible rfl)
        try simp only [Act.put, gzD, gzE, gzF]
        refine wx_takeZ 9 (some 44) (v := ?_) ?_ ?_; rotate_left; · (intro u hu; have k1 := (hC.gn hu).ld rowRg rfl; have k2 := LD _ (hbw.grown hu hbw.size (fun _ h => by cases h)); go_simp; try with_reducible rfl)
        try simp only [Act.put, gzD, gzE, gzF]
        refine wx_takeZ 10 (some 45) (v := ?_) ?_ ?_; rotate_left; · (intro u hu; have k1 := (hC.gn hu).ld rowRg rfl; have k2 := LD _ (hbw.grown hu hbw.size (fun _ h => by cases h)); go_simp; try with_reducible rfl)
        try simp only [Act.put, gzD, gzE, gzF]
        refine wx_oneZ 11 (fun K hK => ?_)
        go_simp
        refine (HX _).out.mono ?_
        rintro e u1 ⟨rfl, hv1⟩
        refine hK _ _ (gbB hv1) ?_
        replace hC := hC.below hv1
        replace hbw := hbw.trans (hv1.mono hbw.size)
        clear hK K hv1
        try simp only [Act.put, gzD, gzE, gzF]
        refine wx_pureZ 12 (some 47) (v := ?_) ?_ ?_; rotate_left; · (intro u; go_simp; try with_reducible rfl)
        try simp only [Act.put, gzD, gzE, gzF]
        refine wx_pureZ 13 (some 48) (v := ?_) ?_ ?_; rotate_left; · (intro u; go_simp; try with_reducible rfl)
        try simp only [Act.put, gzD, gzE, gzF]
        refine wx_pureZ 14 (some 6) (v := ?_) ?_ ?_; rotate_left; · (intro u; go_simp; try with_reducible rfl)
        try simp only [Act.put, gzD, gzE, gzF]
        refine wx_pureZ 15 (some 7) (v := ?_) ?_ ?_; rotate_left; · (intro u; go_simp; try with_reducible rfl)
        try simp only [Act.put, gzD, gzE, gzF]
        refine wx_done (by kernel_rfl) ?_ _
        skip
        go_wp2_with fail
        go_ret2
        exact ⟨_, by rw [hfin.out]; first | rfl | skip, hbw⟩
      · have hin' : ¬ (j : Int) < n := by omega
        have hfin := Lib.hid (hI.out.none (by have := hpl.out; omega))
        go_upto_region 8 with fail
        refine wx_begin (none) [] (by kernel_rfl) (fun u0 hb0' hz0' => ?_)
        replace hC := hC.below hb0'
        replace hbw := hbw.trans (hb0'.mono hbw.size)
        clear hb0' hz0'
        refine wx_pureZ 0 (some 35) (v := ?_) ?_ ?_; rotate_left; · (intro u; go_simp; try with_reducible rfl)
        try simp only [Act.put, gzD, gzE, gzF]
        refine wx_pureZ 1 (some 36) (v := ?_) ?_ ?_; rotate_left; · (intro u; go_simp; try with_reducible rfl)
        try simp only [Act.put, gzD, gzE, gzF]
        refine wx_pureZ 2 (some 37) (v := ?_) ?_ ?_; rotate_left; · (intro u; go_simp; try with_reducible rfl)
        try simp only [Act.put, gzD, gzE, gzF]
        refine wx_pureZ 3 (some 38) (v := ?_) ?_ ?_; rotate_left; · (intro u; go_simp; try with_reducible rfl)
        try simp only [Act.put, gzD, gzE, gzF]
        refine wx_pureZ 4 (some 39) (v := ?_) ?_ ?_; rotate_left; · (intro u; go_simp; try with_reducible rfl)
        try simp only [Act.put, gzD, gzE, gzF]
        refine wx_skipZ 5 (some 40) ?_
        try simp only [Act.put, gzD, gzE, gzF]
        refine wx_skipZ 6 (some 41) ?_
        try simp only [Act.put, gzD, gzE, gzF]
        refine wx_skipZ 7 (some 42) ?_
        try simp only [Act.put, gzD, gzE, gzF]
        refine wx_skipZ 8 (some 43) ?_
        try simp only [Act.put, gzD, gzE, gzF]
        refine wx_skipZ 9 (some 44) ?_
        try simp only [Act.put, gzD, gzE, gzF]
        refine wx_skipZ 10 (some 45) ?_
        try simp only [Act.put, gzD, gzE, gzF]
        refine wx_skipZ 11 (some 46) ?_
        try simp only [Act.put, gzD, gzE, gzF]
        refine wx_skipZ 12 (some 47) ?_
        try simp only [Act.put, gzD, gzE, gzF]
        refine wx_pureZ 13 (some 48) (v := ?_) ?_ ?_; rotate_left; · (intro u; go_simp; try with_reducible rfl)
        try simp only [Act.put, gzD, gzE, gzF]
        refine wx_pureZ 14 (some 6) (v := ?_) ?_ ?_; rotate_left; · (intro u; go_simp; try with_reducible rfl)
        try simp only [Act.put, gzD, gzE, gzF]
        refine wx_pureZ 15 (some 7) (v := ?_) ?_ ?_; rotate_left; · (intro u; go_simp; try with_reducible rfl)
        try simp only [Act.put, gzD, gzE, gzF]
        refine wx_done (by kernel_rfl) ?_ _
        skip
        go_wp2_with fail
        go_ret2
        first | exact ⟨_, by rw [hfin.out]; rfl, hbw⟩ | exact ⟨⟨_, by rw [hfin.out]; rfl⟩, hbw⟩

theorem meets_any (A : Option Addr) (n cap : Nat) (zs : List (Ad × Ad)) (w : World) (hS : SlE eRg w A n cap zs) (hn : n ≤ 100000) (hR : ∀ x ∈ zs, RgR x) (hp : zs.Pairwise (fun x y => x.2.n + 1 < y.1.n)) (a : Ad) (ha : a.U) :
    Calls Tryz.prog 244 #[.slice A n cap, rgA (a, a)] w (GivesV (.bool (hasB zs a.n)) w) := by
  have hC := Blk.new w (rgC (a, a)) 53
  have hbw : Below w.heap.size w (w.alloc (.cells (rgC (a, a)).toArray 53)) := (Below.refl _ _).alloc (Nat.le_refl _) _
  have HS := Lib.hid (search_any A n cap zs _ (hS.below hbw) hn hR hp a ha)
  have k1 := hC.ld rowRg rfl
  generalize hasB zs a.n = V at *
  clear hS hR hp ha
  go_enter Tryz.func244, Tryz.ntmps244
  go_wp2_with fail
  refine HS.out.mono ?_
  rintro e w1 ⟨i, rfl, hb1⟩
  replace hbw := hbw.trans (hb1.mono hbw.size)
  go_wp2_with fail
  go_ret
  exact ⟨rfl, hbw⟩

theorem has_any (A : Option Addr) (n cap : Nat) (zs : List (Ad × Ad)) (w : World) (hS : SlE eRg w A n cap zs) (hn : n ≤ 100000) (hR : ∀ x ∈ zs, RgR x) (hp : zs.Pairwise (fun x y => x.2.n + 1 < y.1.n)) (a : Ad) (ha : a.U) :
    Calls Tryz.prog 158 #[.slice A n cap, adA a] w (GivesV (.bool (hasB zs a.n)) w) := by
  have hC := Blk.new w (adC a) 38
  have hbw : Below w.heap.size w (w.alloc (.cells (adC a).toArray 38)) := (Below.refl _ _).alloc (Nat.le_refl _) _
  have HM := Lib.hid (meets_any A n cap zs _ (hS.below hbw) hn hR hp a ha)
  have k1 := hC.ld rowAd rfl
  generalize hasB zs a.n = V at *
  clear hS hR hp ha
  go_enter Tryz.func158, Tryz.ntmps158
  go_wp2_with fail
  refine HM.out.mono ?_
  rintro e w1 ⟨rfl, hb1⟩
  replace hbw := hbw.trans (hb1.mono hbw.size)
  go_wp2_with fail
  go_ret
  exact ⟨rfl, hbw⟩
end Go.Proofs.YtmgdkefoehlamaaGreatDoor
namespace Go.Proofs.YtmgdkefoehlamaaGreatDoor
open Go.RowKit Go.Shelf

def eA2 : Enc (Ad × Ad) := ⟨fun x => adC x.1, 3, by decide, fun x => adC_len x.1, fun x => adC_one x.1⟩
theorem eA2_cells : ∀ cs : List Ad, eA2.cells (cs.map fun a => (a, a)) = eAd.cells cs
  | [] => rfl
  | a :: r => by rw [List.map_cons, eA2.cells_cons, eAd.cells_cons, eA2_cells r]; rfl
theorem own_eA2 {t : TypeId} {B : Nat} {w : World} {v : Value} {cs : List Ad} : OwnE eA2 t B w v (cs.map fun a => (a, a)) ↔ OwnE eAd t B w v cs := by
  unfold OwnE
  rw [eA2_cells, List.length_map]
  exact Iff.rfl
theorem eA2_cells1 : ∀ xs : List (Ad × Ad), eA2.cells xs = eAd.cells (xs.map (·.1))
  | [] => rfl
  | a :: r => by rw [List.map_cons, eA2.cells_cons, eAd.cells_cons, eA2_cells1 r]; rfl
theorem own_eA1 {t : TypeId} {B : Nat} {w : World} {v : Value} {xs : List (Ad × Ad)} (h : OwnE eA2 t B w v xs) : OwnE eAd t B w v (xs.map (·.1)) := by
  unfold OwnE at *
  rw [← eA2_cells1, List.length_map]
  exact h
def zAd : Value := .agg #[.bool false, .int .u64 0, .int .u64 0]
theorem infoAd : (Tryz.prog.info? 38).map (fun i => (i.zero, i.size, i.bytes)) = some (some zAd, 3, 24) := by kernel_rfl
theorem tyeAd : Ty eAd 38 76 zAd 24 := ⟨Tryz.underlying76, infoAd, rfl, by decide⟩
@[go_sem ↓ high] theorem execOp_bsAd (ρ : Operand → Value) (dst : Option Tmp) (x : Operand) (ty : TypeId) (pos : String) (after : Array Edge) (guard : Option (Nat × Bool)) : execOp ρ ⟨dst, .buildSlice 76 1 #[(0, x)], ty, pos, after, guard⟩ = bsT 76 (ρ x) := by
  simp only [execOp, bsT, List.map_toArray, List.map_cons, List.map_nil]
@[go_sem high] theorem execOp_bsAd' (ρ : Operand → Value) (dst : Option Tmp) (x : Operand) (ty : TypeId) (pos : String) (after : Array Edge) (guard : Option (Nat × Bool)) : execOp ρ ⟨dst, .buildSlice 76 1 #[(0, x)], ty, pos, after, guard⟩ = bsT 76 (ρ x) := by
  simp only [execOp, bsT, List.map_toArray, List.map_cons, List.map_nil]
@[go_sem] theorem run_bsAd (x : Ad) (w : World) : (bsT 76 (.agg (adC x).toArray)).run Tryz.prog w = .ok (.value (.slice (some ⟨w.heap.size, 0, none⟩) 1 1)) (w.alloc (.cells (adC x).toArray 38)) :=
  bsT_run Tryz.underlying76 infoAd (by decide) (by decide) (by kernel_rfl) w

theorem own_sorted {E : Enc (Ad × Ad)} {t : TypeId} {w : World} {B g n cap : Nat} {ys : List U2} {d' : Array U2} {m : Nat} {os : Array Obj} (h : OwnE E t B w (.slice (some ⟨g, 0, none⟩) n cap) (ys.map (·.1))) (hd : d'.size = ys.length) :
    OwnE E t B (sortWorldK (onU E).enc (onU E).k w g 0 m d' os) (.slice (some ⟨g, 0, none⟩) n cap) (d'.toList.map (·.1)) := by
  obtain ⟨h1, h2⟩ := h
  have hlen : (d'.toList.map (·.1)).length = ys.length := by simp [hd]
  have hcl : (E.cells (d'.toList.map (·.1))).length = ys.length * E.k := by rw [E.cells_len, hlen]
  refine ⟨by rw [hcl, hlen], ?_⟩
  rcases h2 with ⟨hv, _⟩ | ⟨g', cap', cur, hv, hB, hh, hn, hc, hsz, htake⟩
  · cases hv
  · cases hv
    rw [List.length_map] at hn htake
    have hg : g < w.heap.size := (Array.getElem?_eq_some_iff.1 hh).1
    refine .inr ⟨g, cap, Sort.putCells id 0 (Sort.flatK (onU E).enc (onU E).k d') cur, by rw [hlen, List.length_map], hB, ?_, by rw [hlen]; exact hn, hc, ?_, ?_⟩
    · unfold sortWorldK Sort.grow Sort.putRowK Sort.putRow Sort.mapBlock Sort.ahead
      show (w.heap.modify g _ ++ os)[g]? = _
      rw [Array.getElem?_append_left (by simp; omega), Array.getElem?_modify, if_pos rfl, hh]
      rfl
    · unfold Sort.putCells; rw [Array.size_mapIdx]; exact hsz
    · have hfs : (Sort.flatK (onU E).enc (onU E).k d').size = ys.length * E.k := by rw [Sort.size_flatK, hd]; rfl
      have hle : ys.length * E.k ≤ cur.size := by rw [hsz]; exact Nat.mul_le_mul_right _ hn
      rw [hlen]
      apply List.ext_getElem
      · have e3 : (Sort.putCells id 0 (Sort.flatK (onU E).enc (onU E).k d') cur).toList.length = cur.size := by unfold Sort.putCells; simp
        rw [List.length_take, e3, hcl]
        omega
      · intro j j1 j2
        rw [hcl] at j2
        rw [List.getElem_take, Array.getElem_toList]
        unfold Sort.putCells
        rw [Array.getElem_mapIdx, if_pos ⟨Nat.zero_le _, by rw [hfs]; omega⟩, Nat.sub_zero]
        have hj' : j < (Sort.flatK (onU E).enc (onU E).k d').size := by rw [hfs]; exact j2
        have hj2 := hj'
        rw [Sort.size_flatK] at hj2
        rw [Sort.get_flatK _ _ _ _ hj2]
        obtain ⟨u, k1, k2⟩ := flatK_cells E d'.toList j (by rw [Sort.size_flatK] at hj'; simpa [onU] using hj')
        have k3 : (E.cells (d'.toList.map (·.1)))[j]? = some u := by rw [cells_onU]; exact k1
        have e : (E.cells (d'.toList.map (·.1)))[j] = u := by
          have := (List.getElem?_eq_some_iff.1 k3).2
          exact this
        rw [e]
        have e2 : d'.toList.toArray = d' := by simp
        rw [e2] at k2
        show id (((onU E).enc d'[j / E.k]!)[j % E.k]!) = u
        rw [List.getElem!_eq_getElem?_getD, k2]; rfl

theorem lays_sortAd (blk off size : Nat) (w : World) : CmpLays Tryz.prog 69 #[] (onU eA2).enc (onU eA2).k cmpU2 blk off size w :=
  fun _ _ _ _ x y => (spanCmp_d x.1.1 y.1.1 _ x.2.1 y.2.1).mono fun _ _ h => ⟨h.1, h.2.grows⟩

set_option maxHeartbeats 2000000 in
theorem sortAd_any (B : Nat) (v : Value) (cs : List Ad) (w : World) (hown : OwnE eAd 38 B w v cs) (hU : ∀ x ∈ cs, x.U) (h0 : cs ≠ []) (hb : B ≤ w.heap.size) (hn : cs.length ≤ 1000000) :
    Calls Tryz.prog 242 #[v, .func (.func 69) #[] #[]] w fun e w' => e = .returned (.tuple #[]) ∧ ∃ qs : List Ad, qs.Perm cs ∧ qs.Pairwise (fun x y => x.n ≤ y.n) ∧ OwnE eAd 38 B w' v qs ∧ Below B w w' := by
  obtain ⟨ys, hys⟩ := lift_U (cs.map fun a => (a, a)) (fun x hx => by
    obtain ⟨a, ha, rfl⟩ := List.mem_map.1 hx
    exact ⟨hU a ha, hU a ha⟩)
  have hcs : (ys.map (·.1)).map (·.1) = cs := by
    rw [← hys, List.map_map]
    exact List.map_id _
  have hl : cs.length = ys.length := by rw [← hcs]; simp
  replace hown := own_eA2.2 hown
  rw [hys] at hown
  obtain ⟨g, cap, rfl, hg1, hg2, hcap, _⟩ := hown.form (by intro e; apply h0; rw [← hcs, e]; rfl)
  have hH := holdsK_own (E := eA2) hown
  have eg : ∀ args w, (callFunc 69 args).run Tryz.prog w = .ok (.enter 69 args) w := enters_of Tryz.func69 (by kernel_rfl) rfl
  have hcon := AnyQ.slices_SortFunc Tryz.sortAddr 3 Tryz.isAgg38 Tryz.sizeOf38 (onU eA2).enc (onU eA2).len (onU eA2).one cmpU2 swo_cmpU2 69 #[] g 0 cap ys.toArray w eg (lays_sortAd g 0 ys.toArray.size w) hH hg2 (by simp at hn ⊢; omega)
  change Calls Tryz.prog 242 _ _ _ at hcon
  have e0 : ys.toArray.size = ys.length := by simp
  rw [e0] at hcon
  rw [List.length_map] at hown ⊢
  refine hcon.mono ?_
  rintro e w' ⟨rfl, d', m, os, hp, hs, rfl⟩
  rw [← e0] at hp
  have hsz : d'.size = ys.length := hp.1.trans e0
  refine ⟨rfl, List.map (fun x : Ad × Ad => x.1) (List.map (fun x : U2 => x.1) d'.toList), ?_, ?_, own_eA1 (own_sorted hown hsz), below_sortK hg1 hb⟩
  · have := ((perm_ofU hp).map (·.1)).map (·.1)
    rw [show ys.toArray.toList = ys by simp, hcs] at this
    exact this
  · rw [List.pairwise_map]
    exact pairwise_ofU hsz hs

theorem run_clear_row {P : Program} (w : World) (t e ty : TypeId) (z : Value) (ht : P.underlying t = some (.slice e)) (hv : ∀ w, (zeroValue e).run P w = .ok z w) (b o n c : Nat) (hn : 0 < n) (L : List Value) (hL : (Builtin.zeroCells z.cells n).toList = L) (h1 : ∀ v ∈ L, v.oneCell' = true)
    (hc : ∀ j, j < L.length → (w.cell? ⟨b, o + j, none⟩).isSome = true) (hf : ∀ j, j < L.length → w.frozen? ⟨b, o + j, none⟩ = false) :
    (Builtin.clear_ #[t] ty #[.slice (some ⟨b, o, none⟩) n c]).run P w = .ok (.tuple #[]) (w.setCells b o L) := by
  have hst := run_storeCells_cells (P := P) b o L 0 w (by simpa using hc) (by simpa using hf) h1
  simp only [Nat.add_zero] at hst
  obtain ⟨m, rfl⟩ : ∃ m, n = m + 1 := ⟨n - 1, by omega⟩
  simp [Builtin.clear_, run_underlying ht, hv, hL, hst]

@[go_sem] theorem run_neAdA (x y : Operand) (a b : Ad) (w : World) : (neAd x y (.agg (adC a).toArray) (.agg (adC b).toArray)).run Tryz.prog w = .ok (.value (.bool (!adE a b))) w :=
  run_neAd x y a.s b.s a.hi a.lo b.hi b.lo w
def CpI (xs : List Ad) (j : Nat) (zs : List Ad) : Prop := zs.Pairwise (fun a b => a.n < b.n) ∧ ∀ a, a ∈ zs ↔ a ∈ xs.take j
theorem CpI.same {xs : List Ad} {j : Nat} {zs : List Ad} (h : CpI xs (j + 1) zs) {y : Ad} (hy : xs[j + 1]? = some y) (hy' : xs[j]? = some y) : CpI xs (j + 2) zs := by
  refine ⟨h.1, fun a => ?_⟩
  rw [h.2, List.take_add_one (i := j + 1), hy]
  simp only [Option.toList_some, List.mem_append, List.mem_singleton]
  constructor
  · exact .inl
  · rintro (k | rfl)
    · exact k
    · rw [List.take_add_one, hy']
      simp
theorem CpI.next {xs : List Ad} (hs : xs.Pairwise (fun a b => a.n ≤ b.n)) (hU : ∀ a ∈ xs, a.U) {j : Nat} {zs : List Ad} (h : CpI xs (j + 1) zs) {y z : Ad} (hy : xs[j + 1]? = some y) (hy' : xs[j]? = some z) (hne : y ≠ z) : CpI xs (j + 2) (zs ++ [y]) := by
  have hlt : ∀ a ∈ zs, a.n < y.n := fun a ha => by
    have h1 := (h.2 a).1 ha
    obtain ⟨i, hi⟩ := List.mem_iff_getElem?.1 h1
    have hij : i < j + 1 := by have := (List.getElem?_eq_some_iff.1 hi).1; rw [List.length_take] at this; omega
    rw [List.getElem?_take, if_pos hij] at hi
    have h2 : z.n ≤ y.n := by
      obtain ⟨k1, rfl⟩ := List.getElem?_eq_some_iff.1 hy
      obtain ⟨k2, rfl⟩ := List.getElem?_eq_some_iff.1 hy'
      exact List.pairwise_iff_getElem.1 hs j (j + 1) k2 k1 (by omega)
    have h3 : z.n ≠ y.n := fun e => hne (Ad.ext' (hU y (List.mem_of_getElem? hy)) (hU z (List.mem_of_getElem? hy')) e.symm)
    have h4 : a.n ≤ z.n := by
      rcases Nat.lt_or_ge i j with q | q
      · obtain ⟨k1, rfl⟩ := List.getElem?_eq_some_iff.1 hi
        obtain ⟨k2, rfl⟩ := List.getElem?_eq_some_iff.1 hy'
        exact List.pairwise_iff_getElem.1 hs i j k1 k2 q
      · have e : i = j := by omega
        subst e; rw [hi] at hy'; cases hy'; exact Nat.le_refl _
    omega
  refine ⟨List.pairwise_append.2 ⟨h.1, List.pairwise_singleton _ _, fun a ha b hb => by rw [List.mem_singleton.1 hb]; exact hlt a ha⟩, fun a => ?_⟩
  rw [List.mem_append, h.2, List.take_add_one (i := j + 1), hy]
  simp
theorem CpI.one {xs : List Ad} {x : Ad} (hx : xs[0]? = some x) : CpI xs 1 [x] := by
  refine ⟨List.pairwise_singleton _ _, fun a => ?_⟩
  rw [List.take_add_one, hx]
  simp

def CpR (xs : List Ad) (c j : Nat) (ys : List Ad) : Prop := ys.length = xs.length ∧ c ≤ j ∧ CpI xs (j + 1) (ys.take c) ∧ ys.drop j = xs.drop j
theorem CpR.get {xs : List Ad} {c j : Nat} {ys : List Ad} (h : CpR xs c j ys) {i : Nat} (hi : j ≤ i) : ys[i]? = xs[i]? := by
  have h1 := h.2.2.2
  have : (ys.drop j)[i - j]? = (xs.drop j)[i - j]? := by rw [h1]
  rw [List.getElem?_drop, List.getElem?_drop, show j + (i - j) = i by omega] at this
  exact this
theorem CpR.skip {xs : List Ad} {c j : Nat} {ys : List Ad} (h : CpR xs c j ys) {y : Ad} (hy : xs[j + 1]? = some y) (hy' : xs[j]? = some y) : CpR xs c (j + 1) ys := by
  refine ⟨h.1, by have := h.2.1; omega, h.2.2.1.same hy hy', ?_⟩
  have := congrArg (List.drop 1) h.2.2.2
  rwa [List.drop_drop, List.drop_drop] at this
theorem CpR.put {xs : List Ad} (hs : xs.Pairwise (fun a b => a.n ≤ b.n)) (hU : ∀ a ∈ xs, a.U) {c j : Nat} {ys : List Ad} (h : CpR xs c j ys) {y z : Ad} (hy : xs[j + 1]? = some y) (hy' : xs[j]? = some z) (hne : y ≠ z) : CpR xs (c + 1) (j + 1) (ys.set c y) := by
  have hj : j + 1 < xs.length := (List.getElem?_eq_some_iff.1 hy).1
  have hc := h.2.1
  have hl := h.1
  refine ⟨by rw [List.length_set]; exact h.1, by omega, ?_, ?_⟩
  · have e : (ys.set c y).take (c + 1) = ys.take c ++ [y] := by
      rw [List.take_add_one, List.take_set, List.getElem?_set_self (by omega)]
      rw [List.set_eq_of_length_le (by rw [List.length_take]; omega)]
      rfl
    rw [e]
    exact h.2.2.1.next hs hU hy hy' hne
  · rw [List.drop_set, if_pos (by omega)]
    have := congrArg (List.drop 1) h.2.2.2
    rwa [List.drop_drop, List.drop_drop] at this

theorem own_setAt {α : Type} {E : Enc α} {t : TypeId} {k : Nat} (hk : E.k = k) {w : World} {B g n cap : Nat} {xs : List α} {j : Nat} {x x' : α} (h : OwnE E t B w (.slice (some ⟨g, 0, none⟩) n cap) xs) (hn : n = xs.length) (hx : xs[j]? = some x) :
    OwnE E t B (w.setCells g (j * k) (E.enc x')) (.slice (some ⟨g, 0, none⟩) n cap) (xs.set j x') := by
  subst hk
  obtain ⟨hj, hxe⟩ := List.getElem?_eq_some_iff.1 hx
  have e1 : xs = xs.take j ++ x :: xs.drop (j + 1) := by rw [← hxe, List.getElem_cons_drop, List.take_append_drop]
  have e2 : xs.set j x' = xs.take j ++ x' :: xs.drop (j + 1) := List.set_eq_take_append_cons_drop.trans (if_pos hj)
  have hl : (xs.take j).length = j := by rw [List.length_take]; omega
  unfold OwnE at *
  have hs : (xs.set j x').length = xs.length := List.length_set
  rw [hs, ← hn]
  rw [← hn] at h
  have h2 := own_setL (E.enc x') (j * E.k) w _ h
  have c1 : E.cells xs = E.cells (xs.take j) ++ (E.enc x ++ E.cells (xs.drop (j + 1))) := by
    have := congrArg E.cells e1
    rwa [E.cells_app, E.cells_cons] at this
  have c2 : E.cells (xs.set j x') = E.cells (xs.take j) ++ (E.enc x' ++ E.cells (xs.drop (j + 1))) := by rw [e2, E.cells_app, E.cells_cons]
  rw [c2]
  have h3 := setL_mid (E.enc x') (E.enc x) (E.cells (xs.take j)) (E.cells (xs.drop (j + 1))) (by rw [E.len, E.len])
  rw [E.cells_len, hl, ← c1] at h3
  rwa [h3] at h2
theorem setL_lt : ∀ (vs : List Value) (o : Nat) (xs : List Value) (i : Nat), i < o → (setL xs o vs)[i]? = xs[i]?
  | [], _, _, _, _ => rfl
  | v :: r, o, xs, i, h => by
    unfold setL
    rw [setL_lt r (o + 1) _ i (by omega), List.getElem?_set_ne (by omega)]
theorem sl_ahead {w : World} {B g n cap c : Nat} {ys : List Ad} {t : TypeId} (h : OwnE eAd t B w (.slice (some ⟨g, 0, none⟩) n cap) ys) (hn : n = ys.length) (hc : c ≤ n) (hcap : n ≤ cap) (L : List Value) : SlE eAd (w.setCells g (c * 3) L) (some ⟨g, 0, none⟩) c cap (ys.take c) := by
  have hg := (h.lt g rfl).2
  have h2 : w.ownsRow B t eAd.k (.slice (some ⟨g, 0, none⟩) n cap) n (eAd.cells ys) := by
    have h' := h
    unfold OwnE at h'
    rw [← hn] at h'
    exact h'
  have h1 := own_setL L (c * 3) w _ h2
  have hg' : g < (w.setCells g (c * 3) L).heap.size := by
    have := h1.2
    rcases this with ⟨hv, _⟩ | ⟨g', cap', cur, hv, hB, hh, _⟩
    · cases hv
    · cases hv; exact (Array.getElem?_eq_some_iff.1 hh).1
  refine ⟨by rw [List.length_take]; omega, by omega, (fun e => by cases e), .inr ⟨g, 0, rfl, hg', fun j x hx i v hv => ?_⟩⟩
  have hj : j < c := by have := (List.getElem?_eq_some_iff.1 hx).1; rw [List.length_take] at this; omega
  rw [List.getElem?_take, if_pos hj] at hx
  have hi : i < 3 := by have := (List.getElem?_eq_some_iff.1 hv).1; rw [eAd.len] at this; exact this
  have hcl := eAd.cells_get ys j x hx i v hv
  have e3 : eAd.k = 3 := rfl
  rw [e3] at hcl
  have h4 := World.ownsRow.cells h1 (g := g) rfl (j * 3 + i) v (by rw [setL_lt _ _ _ _ (by omega)]; exact hcl)
  rw [Addr.add_lit] at h4
  rw [show 0 + j * eAd.k + i = 0 + (j * 3 + i) by rw [e3]; omega]
  exact h4
theorem clear_rest {w : World} {B g n cap c : Nat} {ys : List Ad} (h : OwnE eAd 38 B w (.slice (some ⟨g, 0, none⟩) n cap) ys) (hn : n = ys.length) (hc : c < n) (hz : ∀ w, (zeroValue 38).run Tryz.prog w = .ok zAd w) (m : Nat) :
    ∃ L, ∀ ty, (Builtin.clear_ #[76] ty #[.slice (some ⟨g, c * 3, none⟩) (n - c) m]).run Tryz.prog w = .ok (.tuple #[]) (w.setCells g (c * 3) L) := by
  obtain ⟨L, hL⟩ : ∃ L, (Builtin.zeroCells zAd.cells (n - c)).toList = L := ⟨_, rfl⟩
  have e3 : eAd.k = 3 := rfl
  have hLl : L.length = (n - c) * 3 := by rw [← hL]; simp [Builtin.zeroCells]; rfl
  refine ⟨L, fun ty => run_clear_row w _ _ ty zAd Tryz.underlying76 hz g (c * 3) (n - c) m (by omega) L hL ?_ ?_ ?_⟩
  · intro v hv
    rw [← hL] at hv
    simp only [Builtin.zeroCells, Array.toList_map, List.mem_map] at hv
    obtain ⟨i, _, rfl⟩ := hv
    have hs : zAd.cells.size = 3 := rfl
    have hi : i % zAd.cells.size < 3 := by rw [hs]; exact Nat.mod_lt _ (by decide)
    have hall : ∀ j, j < 3 → (zAd.cells[j]!).oneCell' = true := by decide
    exact hall _ hi
  · intro j hj
    rw [hLl] at hj
    have hlen : c * 3 + j < (eAd.cells ys).length := by rw [eAd.cells_len, e3, ← hn]; omega
    have h4 := World.ownsRow.cells h (g := g) rfl (c * 3 + j) _ (List.getElem?_eq_getElem hlen)
    rw [Addr.add_lit, Nat.zero_add] at h4
    rw [h4]; rfl
  · intro j _
    rcases h.2 with ⟨hv, _⟩ | ⟨g', cap', cur, hv, hB, hh, _⟩
    · cases hv
    · cases hv; exact frozen_of_row w g _ _ _ hh

theorem zeroAd_run (w : World) : (zeroValue 38).run Tryz.prog w = .ok zAd w := by
  kernel_rfl

set_option maxHeartbeats 4000000 in
theorem compact_any (B g n cap : Nat) (xs : List Ad) (w : World) (hown : OwnE eAd 38 B w (.slice (some ⟨g, 0, none⟩) n cap) xs) (hnl : n = xs.length) (hn2 : 2 ≤ n) (hn : n ≤ 1000000) (hB : B ≤ w.heap.size) (hs : xs.Pairwise (fun a b => a.n ≤ b.n)) (hU : ∀ a ∈ xs, a.U) :
    Calls Tryz.prog 243 #[.slice (some ⟨g, 0, none⟩) n cap] w fun e w' => ∃ cap' zs, e = .returned (.slice (some ⟨g, 0, none⟩) zs.length cap') ∧ SlE eAd w' (some ⟨g, 0, none⟩) zs.length cap' zs ∧ CpI xs n zs ∧ zs.length ≤ n ∧ Below B w w' := by
  replace hs := Lib.hid hs
  replace hU := Lib.hid hU
  have hcap : n ≤ cap := by
    rcases hown.2 with ⟨hv, _⟩ | ⟨g', cap', cur, hv, hB, hh, h1, h2, hsz, htake⟩
    · cases hv
    · cases hv; omega
  have hgB : B ≤ g ∧ g < w.heap.size := hown.lt g rfl
  have hbw := Below.refl B w
  have h2n : ¬ (n : Int) < 2 := by omega
  replace hnl := Lib.hid hnl
  go_enter Tryz.func243, Tryz.ntmps243
  go_wp2_with fail
  go_loopw [3] (fun vk wr => ∃ k : Nat, k + 1 ≤ n ∧ vk = .int .i64 ((k : Int) + 1) ∧ Hid (CpI xs (k + 1) (xs.take (k + 1))) ∧ OwnE eAd 38 B wr (.slice (some ⟨g, 0, none⟩) n cap) xs ∧ Below B w wr) (fun vk _ => n - (intOf vk).toNat)
  case atStart => exact ⟨0, by omega, rfl, Lib.hid (by
      obtain ⟨x, hx⟩ : ∃ x, xs[0]? = some x := ⟨xs[0]'(by have := hnl.out; omega), List.getElem?_eq_getElem _⟩
      rw [List.take_add_one, hx]
      exact CpI.one hx), hown, hbw⟩
  case round =>
    clear hown hbw
    obtain ⟨k, hk, rfl, hI, hown, hbw⟩ := hrel
    by_cases hlt : k + 1 < n
    · obtain ⟨y, hy⟩ : ∃ x, xs[k + 1]? = some x := ⟨xs[k + 1]'(by have := hnl.out; omega), List.getElem?_eq_getElem _⟩
      obtain ⟨z, hz⟩ : ∃ x, xs[k]? = some x := ⟨xs[k]'(by have := hnl.out; omega), List.getElem?_eq_getElem _⟩
      obtain ⟨K, hK⟩ : ∃ K, K = k + 1 := ⟨_, rfl⟩
      have e0 : (k : Int) + 1 = K := by omega
      have e1 : (K : Int) - 1 = k := by omega
      have hx := hy
      rw [← hK] at hx
      have hx' := hz
      have hltK : (K : Int) < n := by omega
      have hltk : (k : Int) < n := by omega
      have hKn : K < n := by omega
      have hsB : B ≤ wr.heap.size := Nat.le_trans hB hbw.size
      have q1 : IntKind.i64.wrap (k : Int) = k := IntWalk.i64_in _ (by omega)
      have hsame := Lib.hid (fun (e : y = z) => hI.out.same (y := y) hy (by rw [e]; exact hz))
      have hnext := Lib.hid (fun e => hI.out.next hs.out hU.out hy hz e)
      have heq := Lib.hid (adE_eq y z)
      rw [e0]
      have hyh := Lib.hid hy
      clear hI hlt hy hz hk e0
      replace hK := Lib.hid hK
      go_upto_region 6 with fail
      refine wx_begin (none) [] (by kernel_rfl) (fun u0 hb0' hz0' => ?_)
      replace hown := hown.below hb0'
      replace hbw := hbw.trans (hb0'.mono hsB)
      replace hsB : B ≤ u0.heap.size := Nat.le_trans hsB hb0'.size
      clear hb0' hz0'
      refine wx_pureZ 0 (some 16) (v := ?_) ?_ ?_; rotate_left; · (intro u; go_simp; try with_reducible rfl)
      try simp only [Act.put, gzD, gzE, gzF]
      refine wx_pureZ 1 (some 17) (v := ?_) ?_ ?_; rotate_left; · (intro u; go_simp; try with_reducible rfl)
      try simp only [Act.put, gzD, gzE, gzF]
      refine wx_pureZ 2 (some 18) (v := ?_) ?_ ?_; rotate_left; · (intro u; go_simp; try with_reducible rfl)
      try simp only [Act.put, gzD, gzE, gzF]
      refine wx_takeZ 3 (some 19) (v := ?_) ?_ ?_; rotate_left; · (intro u hu; have o := hown.gb hu (.inr (by simp [Value.ownBlock])); have k1 : (ldT 38 (.pointer (some ⟨g, K * 3, none⟩))).run Tryz.prog u = .ok (.value (adA y)) u := o.ld rowAd rfl hx; have k2 : (ldT 38 (.pointer (some ⟨g, k * 3, none⟩))).run Tryz.prog u = .ok (.value (adA z)) u := o.ld rowAd rfl hx'; go_simp; try with_reducible rfl)
      try simp only [Act.put, gzD, gzE, gzF]
      refine wx_pureZ 4 (some 20) (v := ?_) ?_ ?_; rotate_left; · (intro u; go_simp; try with_reducible rfl)
      try simp only [Act.put, gzD, gzE, gzF]
      refine wx_pureZ 5 (some 21) (v := ?_) ?_ ?_; rotate_left; · (intro u; go_simp; try with_reducible rfl)
      try simp only [Act.put, gzD, gzE, gzF]
      refine wx_pureZ 6 (some 22) (v := ?_) ?_ ?_; rotate_left; · (intro u; go_simp; try with_reducible rfl)
      try simp only [Act.put, gzD, gzE, gzF]
      refine wx_pureZ 7 (some 23) (v := ?_) ?_ ?_; rotate_left; · (intro u; go_simp; try with_reducible rfl)
      try simp only [Act.put, gzD, gzE, gzF]
      refine wx_takeZ 8 (some 24) (v := ?_) ?_ ?_; rotate_left; · (intro u hu; have o := hown.gb hu (.inr (by simp [Value.ownBlock])); have k1 : (ldT 38 (.pointer (some ⟨g, K * 3, none⟩))).run Tryz.prog u = .ok (.value (adA y)) u := o.ld rowAd rfl hx; have k2 : (ldT 38 (.pointer (some ⟨g, k * 3, none⟩))).run Tryz.prog u = .ok (.value (adA z)) u := o.ld rowAd rfl hx'; go_simp; try with_reducible rfl)
      try simp only [Act.put, gzD, gzE, gzF]
      refine wx_pureZ 9 (some 25) (v := ?_) ?_ ?_; rotate_left; · (intro u; go_simp; try with_reducible rfl)
      try simp only [Act.put, gzD, gzE, gzF]
      refine wx_done (by kernel_rfl) ?_ _
      skip
      by_cases hyz : y = z
      · have HV : adE y z = true := heq.out.2 hyz
        have hcp := Lib.hid (show CpR xs K K xs from ⟨rfl, Nat.le_refl _, by rw [hK.out]; exact hsame.out hyz, rfl⟩)
        rw [HV]
        clear hsame hnext heq hyz hx hx' q1 HV
        have hcK : ¬ (cap : Int) = K := by omega
        have hKc : (K : Int) ≤ cap := by omega
        go_wp2_with fail
        obtain ⟨D, hD⟩ : ∃ D, D = n - K := ⟨_, rfl⟩
        obtain ⟨D', hD'⟩ : ∃ D, D = cap - K := ⟨_, rfl⟩
        rw [← hD, ← hD']
        have hDn : n = K + D := by omega
        clear hD hD'
        go_loopw [3, 5] (fun v3 v5 wr => ∃ (c m : Nat) (ys : List Ad), m + 1 ≤ D ∧ v3 = .int .i64 c ∧ v5 = .int .i64 ((m : Int) + 1) ∧ Hid (CpR xs c (K + m) ys) ∧ OwnE eAd 38 B wr (.slice (some ⟨g, 0, none⟩) n cap) ys ∧ Below B w wr ∧ c ≤ K + m) (fun _ v5 _ => n - (intOf v5).toNat)
        case atStart => exact ⟨K, 0, xs, by omega, rfl, rfl, hcp, hown, hbw, Nat.le_refl _⟩
        case round =>
          clear hown hbw hsB hcp
          obtain ⟨c, m, ys, hmD, rfl, rfl, hI, hown, hbw, hcm⟩ := hrel
          have hlys := Lib.hid (show n = ys.length by rw [hI.out.1]; exact hnl.out)
          have hsB : B ≤ wr.heap.size := Nat.le_trans hB hbw.size
          by_cases hlt2 : m + 1 < D
          · obtain ⟨M, hM⟩ : ∃ M, M = m + 1 := ⟨_, rfl⟩
            have i0 : (m : Int) + 1 = M := by omega
            have i1 : (M : Int) - 1 = m := by omega
            have q1 : IntKind.i64.wrap (m : Int) = m := IntWalk.i64_in _ (by omega)
            have hltM : (M : Int) < D := by omega
            have hltm : (m : Int) < D := by omega
            have hcn : (c : Int) < n := by omega
            obtain ⟨y, hy⟩ : ∃ x, ys[K + M]? = some x := ⟨ys[K + M]'(by have := hlys.out; omega), List.getElem?_eq_getElem _⟩
            obtain ⟨z, hy'⟩ : ∃ x, ys[K + m]? = some x := ⟨ys[K + m]'(by have := hlys.out; omega), List.getElem?_eq_getElem _⟩
            have e1 := Lib.hid (show (K + M) * 3 = K * 3 + M * 3 from Nat.add_mul _ _ _)
            have e2 := Lib.hid (show (K + m) * 3 = K * 3 + m * 3 from Nat.add_mul _ _ _)
            have hxy : xs[K + m + 1]? = some y := by rw [← hI.out.get (by omega), show K + m + 1 = K + M by omega]; exact hy
            have hxz : xs[K + m]? = some z := by rw [← hI.out.get (Nat.le_refl _)]; exact hy'
            have hsame := Lib.hid (fun (e : y = z) => hI.out.skip hxy (by rw [e]; exact hxz))
            have hput := Lib.hid (fun e => hI.out.put hs.out hU.out hxy hxz e)
            have heq := Lib.hid (adE_eq y z)
            rw [i0]
            clear hxy hxz i0
            replace hM := Lib.hid hM
            go_upto_region 11 with fail
            refine wx_begin (none) [] (by kernel_rfl) (fun u0 hb0' hz0' => ?_)
            replace hown := hown.below hb0'
            replace hbw := hbw.trans (hb0'.mono hsB)
            replace hsB : B ≤ u0.heap.size := Nat.le_trans hsB hb0'.size
            clear hb0' hz0'
            refine wx_pureZ 0 (some 35) (v := ?_) ?_ ?_; rotate_left; · (intro u; go_simp; try with_reducible rfl)
            try simp only [Act.put, gzD, gzE, gzF]
            refine wx_pureZ 1 (some 36) (v := ?_) ?_ ?_; rotate_left; · (intro u; go_simp; try with_reducible rfl)
            try simp only [Act.put, gzD, gzE, gzF]
            refine wx_pureZ 2 (some 37) (v := ?_) ?_ ?_; rotate_left; · (intro u; go_simp; try with_reducible rfl)
            try simp only [Act.put, gzD, gzE, gzF]
            refine wx_takeZ 3 (some 38) (v := ?_) ?_ ?_; rotate_left; · (intro u hu; have o := hown.gb hu (.inr (by simp [Value.ownBlock])); have k1 : (ldT 38 (.pointer (some ⟨g, K * 3 + M * 3, none⟩))).run Tryz.prog u = .ok (.value (adA y)) u := (by rw [← e1.out]; exact o.ld rowAd rfl hy); have k2 : (ldT 38 (.pointer (some ⟨g, K * 3 + m * 3, none⟩))).run Tryz.prog u = .ok (.value (adA z)) u := (by rw [← e2.out]; exact o.ld rowAd rfl hy'); go_simp; try with_reducible rfl)
            try simp only [Act.put, gzD, gzE, gzF]
            refine wx_pureZ 4 (some 39) (v := ?_) ?_ ?_; rotate_left; · (intro u; go_simp; try with_reducible rfl)
            try simp only [Act.put, gzD, gzE, gzF]
            refine wx_pureZ 5 (some 40) (v := ?_) ?_ ?_; rotate_left; · (intro u; go_simp; try with_reducible rfl)
            try simp only [Act.put, gzD, gzE, gzF]
            refine wx_pureZ 6 (some 41) (v := ?_) ?_ ?_; rotate_left; · (intro u; go_simp; try with_reducible rfl)
            try simp only [Act.put, gzD, gzE, gzF]
            refine wx_pureZ 7 (some 42) (v := ?_) ?_ ?_; rotate_left; · (intro u; go_simp; try with_reducible rfl)
            try simp only [Act.put, gzD, gzE, gzF]
            refine wx_takeZ 8 (some 43) (v := ?_) ?_ ?_; rotate_left; · (intro u hu; have o := hown.gb hu (.inr (by simp [Value.ownBlock])); have k1 : (ldT 38 (.pointer (some ⟨g, K * 3 + M * 3, none⟩))).run Tryz.prog u = .ok (.value (adA y)) u := (by rw [← e1.out]; exact o.ld rowAd rfl hy); have k2 : (ldT 38 (.pointer (some ⟨g, K * 3 + m * 3, none⟩))).run Tryz.prog u = .ok (.value (adA z)) u := (by rw [← e2.out]; exact o.ld rowAd rfl hy'); go_simp; try with_reducible rfl)
            try simp only [Act.put, gzD, gzE, gzF]
            refine wx_pureZ 9 (some 44) (v := ?_) ?_ ?_; rotate_left; · (intro u; go_simp; try with_reducible rfl)
            try simp only [Act.put, gzD, gzE, gzF]
            refine wx_done (by kernel_rfl) ?_ _
            skip
            by_cases hyz : y = z
            · have HV : adE y z = true := heq.out.2 hyz
              have hI2 := Lib.hid (show CpR xs c (K + M) ys by rw [hM.out]; exact hsame.out hyz)
              rw [HV]
              clear hsame hput heq hyz hy hy' q1 HV
              go_wp2_with fail
              go_roundw
              case rel => exact ⟨c, M, ys, by omega, rfl, by go_num, hI2, hown, hbw, by have := hM.out; omega⟩
              case measure => simp [intOf]; omega
            · have HV : adE y z = false := by rw [Bool.eq_false_iff]; exact fun e => hyz (heq.out.1 e)
              have hI2 := Lib.hid (show CpR xs (c + 1) (K + M) (ys.set c y) by rw [hM.out]; exact hput.out hyz)
              rw [HV]
              obtain ⟨o, ho⟩ : ∃ o, ys[c]? = some o := ⟨ys[c]'(by have := hlys.out; omega), List.getElem?_eq_getElem _⟩
              have S := stT_own' rowAd (E := eAd) (k := 3) rfl hown ho 0 (adC y) (by decide) rfl (adC_one y)
              have k1 : (ldT 38 (.pointer (some ⟨g, K * 3 + M * 3, none⟩))).run Tryz.prog u0 = .ok (.value (adA y)) u0 := by rw [← e1.out]; exact hown.ld rowAd rfl hy
              have hset := own_setAt (k := 3) rfl (x' := y) hown hlys.out ho
              have hb3 := below_setC hgB.1 (adC y) (c * 3) _ hbw
              simp only [Nat.add_zero] at S
              replace hset : OwnE eAd 38 B (World.setCells _ g (c * 3) (adC y)) _ _ := hset
              clear hsame hput heq hyz hy hy' q1 HV hown hbw ho
              go_wp2_with fail
              go_roundw
              case rel => exact ⟨c + 1, M, _, by omega, by go_num, by go_num, hI2, hset, hb3, by have := hM.out; omega⟩
              case measure => simp [intOf]; omega
          · have hmd : D = m + 1 := by omega
            obtain ⟨L, hCL⟩ := clear_rest hown hlys.out (c := c) (by omega) zeroAd_run (cap - c)
            have hfin := Lib.hid (show CpI xs n (ys.take c) by
              have h := hI.out.2.2.1
              rwa [show K + m + 1 = n by omega] at h)
            have hcC : (c : Int) ≤ cap := by omega
            have hcC2 : ¬ (cap : Int) = c := by omega
            have hcN : (c : Int) ≤ n := by omega
            have i0 : (m : Int) + 1 = D := by omega
            rw [i0]
            have hSl := Lib.hid (sl_ahead hown hlys.out (show c ≤ n by omega) hcap L)
            have hb3 := Lib.hid (below_setC hgB.1 L (c * 3) _ hbw)
            have hln := Lib.hid (show c = (ys.take c).length by rw [List.length_take]; have := hlys.out; omega)
            have hcn2 : c ≤ n := by omega
            clear hown hbw hI i0 hmd hDn hKn hltK hltk hmD hlt2 hcm
            go_wp2_with fail
            go_ret
            exact ⟨cap, ys.take c, by rw [← hln.out]; rfl, by rw [← hln.out]; exact hSl.out, hfin.out, by rw [← hln.out]; exact hcn2, hb3.out⟩
      · have HV : adE y z = false := by rw [Bool.eq_false_iff]; exact fun e => hyz (heq.out.1 e)
        have hcp := Lib.hid (show CpI xs (K + 1) (xs.take (K + 1)) by
          have h := hnext.out hyz
          rw [hK.out]
          rw [List.take_add_one (i := k + 1), hyh.out]
          exact h)
        rw [HV]
        clear hsame hnext heq hyz hx hx' q1 HV
        go_wp2_with fail
        go_roundw
        case rel => exact ⟨K, by omega, by go_num, hcp, hown, hbw⟩
        case measure => simp [intOf]; omega
    · have hkn : k + 1 = n := by omega
      have e0 : (k : Int) + 1 = n := by omega
      rw [e0]
      rw [hkn, hnl.out, List.take_length, ← hnl.out] at hI
      have hS := Lib.hid hown.sl
      clear hown e0
      go_wp2_with fail
      go_ret
      obtain ⟨A, cap2, hv, hS⟩ := hS.out
      cases hv
      exact ⟨cap, xs, by rw [hnl.out]; rfl, hS, hI.out, by rw [hnl.out]; exact Nat.le_refl _, hbw⟩
end Go.Proofs.YtmgdkefoehlamaaGreatDoor
